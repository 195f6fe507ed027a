package vm

import (
	"slices"

	"nurserypy/rules"
)

// A cell that no function ever took is what its slot holds. Those that a function takes, and that none took before, come to
// lie in a pack, all in one: from then on, and in those who have them as frees, the first root of a cell's slot holds the
// pack, the second one the place there.

func (m *machine) isShared(cell int) bool { return m.kind(cell) == packKind }

func (m *machine) placeIn(cell int) int { return int(must(m.ToInt(second(cell)))) }

func (m *machine) setPlaceIn(cell, n int) { check(m.Int(second(cell), int64(n))) }

// share lets cells lie in packs.
func (m *machine) share(cells []int) {
	var own []int
	for _, cell := range cells {
		if !m.isShared(cell) && !slices.Contains(own, cell) {
			own = append(own, cell)
		}
	}
	if len(own) == 0 {
		return
	}
	p := m.pushPack(len(own))
	for n, cell := range own {
		m.lay(p, n, cell)
		m.copy(cell, int(p))
		m.setPlaceIn(cell, n)
	}
	m.drop(1)
}

func (m *machine) loadCell(cell int) {
	if !m.isShared(cell) {
		m.load(cell)
		return
	}
	to := m.push()
	m.fetch(pack(cell), m.placeIn(cell), to)
	if m.empty(to) {
		panic(failed(rules.NameError))
	}
}

func (m *machine) storeCell(cell int) {
	if !m.isShared(cell) {
		m.store(cell)
		return
	}
	m.lay(pack(cell), m.placeIn(cell), m.top-1)
	m.drop(1)
}

// A group is some cells in a pack, one behind the other, but perhaps with others between: the slot of the first one, its
// place, and, as bits, which of those from there on they are.
type group struct {
	cell, place, which int
}

// reach of a group: so many places, from the first one on. (Place and bits lie in one small int.)
const reach = 50

// groups that cells make up, in their order.
func (m *machine) groups(cells []int) []group {
	var out []group
	for _, cell := range cells {
		if n := len(out) - 1; n < 0 || !m.joins(&out[n], cell) {
			out = append(out, group{cell, m.placeIn(cell), 1})
		}
	}
	return out
}

// joins: a cell comes last in a group, if it can.
func (m *machine) joins(p *group, cell int) bool {
	n := m.placeIn(cell) - p.place
	if m.word(cell) != m.word(p.cell) || n < 0 || n >= reach || p.which>>n > 0 {
		return false
	}
	p.which |= 1 << n
	return true
}

// setGroup: two fields of a function tell of it.
func (m *machine) setGroup(made, field int, p group) {
	m.put(made, field, p.cell)
	m.setNumber(made, field+1, p.place<<reach|p.which)
}

// pushGroup puts the cells of which two fields of a function tell on the stack.
func (m *machine) pushGroup(made, field int) {
	told := m.number(made, field+1)
	place := told >> reach
	for which := told & (1<<reach - 1); which > 0; which >>= 1 {
		if which&1 > 0 {
			m.setPlaceIn(m.pushField(made, field), place)
		}
		place++
	}
}

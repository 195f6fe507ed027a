package vm

// A pack, told by its slot, has room for some values. None of them is an int with a box: a box would take two words more, and would be kept
// by all that ever had it. An int that is too great for a word lies in a pack without its lowest bits; these are in its
// mark. Behind the values lie the marks, many in a field; that of any other value is 0. (To programs a pack is nothing.)
type pack int

const (
	lowBits  = 2
	markBits = 3
	perField = 20 // marks: as many as a small int has bits for
)

func (m *machine) pushPack(room int) pack {
	p := m.push()
	m.create(p, packKind, room+(room+perField-1)/perField)
	return pack(p)
}

// room: for how many values. (For none, where there is no pack.)
func (m *machine) room(p pack) int {
	fields, _ := m.Size(first(int(p)))
	return fields * perField / (perField + 1)
}

// fetch a value into a slot, which may be that of the pack.
func (m *machine) fetch(p pack, n, to int) {
	mark := m.marks(p, n, 1)
	m.get(int(p), n, to)
	if mark > 0 {
		high, _ := m.toInt(to)
		m.setInt(to, high<<lowBits|int64(mark-1))
	}
}

// lay what a slot holds into a pack.
func (m *machine) lay(p pack, n, from int) {
	mark := m.pushMarked(from)
	m.put(int(p), n, m.top-1)
	m.drop(1)
	m.setMarks(p, n, 1, mark)
}

// pushMarked puts what a pack has of a value on the stack, and tells the mark of it.
func (m *machine) pushMarked(slot int) (mark int) {
	n, ok := m.wide(slot)
	if !ok {
		m.pushCopy(slot)
		return 0
	}
	m.pushInt(n >> lowBits)
	return 1 + int(n&(1<<lowBits-1))
}

// carry so many values, from one on, into a pack: into the same one only if they come to lie lower there.
func (m *machine) carry(to pack, at int, p pack, from, count int) {
	check(m.Move(first(int(to)), at, first(int(p)), from, count))
	for done := 0; done < count; done += perField {
		some := min(count-done, perField)
		m.setMarks(to, at+done, some, m.marks(p, from+done, some))
	}
}

// seek the like of what a slot holds, among the values from one on, up to an end: -1 if there is none.
func (m *machine) seek(p pack, from, end, like int) int {
	mark := m.pushMarked(like)
	n := must(m.Find(first(int(p)), from, end-from, first(m.top-1)))
	for n >= 0 && m.marks(p, n, 1) != mark {
		n = must(m.Find(first(int(p)), n+1, end-n-1, first(m.top-1)))
	}
	m.drop(1)
	return n
}

// marks of some values, of one field's at most, from one on: the first one lowest.
func (m *machine) marks(p pack, n, count int) int {
	field, below := m.room(p)+n/perField, n%perField*markBits
	marks := m.number(int(p), field) >> below
	if n%perField+count > perField {
		marks |= m.number(int(p), field+1) << (perField*markBits - below)
	}
	return marks & (1<<(count*markBits) - 1)
}

// setMarks likewise.
func (m *machine) setMarks(p pack, n, count, marks int) {
	for count > 0 {
		field, below := m.room(p)+n/perField, n%perField*markBits
		some := min(count, perField-n%perField)
		others := m.number(int(p), field) &^ ((1<<(some*markBits) - 1) << below)
		m.setNumber(int(p), field, others|(marks&(1<<(some*markBits)-1))<<below)
		n, count, marks = n+some, count-some, marks>>(some*markBits)
	}
}

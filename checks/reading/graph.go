package reading

import (
	"slices"
	"sort"
	"strconv"
	"strings"

	"nurserypy/api"
	"nurserypy/mem"
)

// Reached: where the objects begin that can be come to from Roots, in the order in which they are.
func Reached(m *mem.Memory) []int {
	l := Things(m)
	known := make([]bool, len(m.W))
	var order []int
	come := func(words []api.Word) {
		for _, w := range words {
			if at, ok := At(w); ok && !known[at] {
				known[at] = true
				order = append(order, at)
			}
		}
	}
	come(m.Roots)
	for i := 0; i < len(order); i++ {
		if x := l[order[i]]; !x.Raw() {
			come(x.Fields)
		}
	}
	return order
}

// Graph: P83's text, and P84's number.
func Graph(m *mem.Memory) (text string, live int) {
	l, order := Things(m), Reached(m)
	tell := func(w api.Word) string { return told(order, w) }
	var lines []string
	for _, w := range m.Roots {
		lines = append(lines, "root "+tell(w))
	}
	for n, at := range order {
		line := strconv.Itoa(n) + " " + strconv.Itoa(l[at].Kind)
		for _, w := range l[at].Fields {
			if l[at].Raw() {
				line += " 0x" + strings.Repeat("0", 16-len(strconv.FormatUint(w, 16))) + strconv.FormatUint(w, 16)
			} else {
				line += " " + tell(w)
			}
		}
		lines = append(lines, line)
		live += len(l[at].Fields) + 1
	}
	for _, w := range m.Weak {
		lines = append(lines, "weak "+tell(w))
	}
	ids := slices.Clone(m.IDs)
	sort.Slice(ids, func(i, j int) bool { return ids[i].Serial < ids[j].Serial })
	for _, id := range ids {
		if tell(id.At) != "@" {
			lines = append(lines, "id "+strconv.Itoa(id.Serial)+" "+tell(id.At))
		}
	}
	return strings.Join(append(lines, ""), "\n"), live
}

func told(order []int, w api.Word) string {
	switch at, ok := At(w); {
	case !ok && w == 0:
		return "nowhere"
	case w%4 == 1:
		return strconv.FormatInt(int64(w)>>2, 10)
	case w%4 == 2:
		return [...]string{"none", "false", "true"}[w/4]
	case !slices.Contains(order, at):
		return "@"
	default:
		return "@" + strconv.Itoa(slices.Index(order, at))
	}
}

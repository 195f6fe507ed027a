package mem

import (
	"cmp"
	"slices"
	"strconv"
	"strings"

	"nurserypy/api"
	"nurserypy/word"
)

const hexDigits = 16 // of a word

// Graph as text.
func (m *Memory) Graph() (string, error) {
	h, err := m.survey()
	if err != nil {
		return "", err
	}
	var l lines
	g := m.reach(h)
	for _, w := range m.Roots {
		l.add("root", g.tell(w))
	}
	for n, o := range g.objects {
		l.add(append([]string{strconv.Itoa(n), strconv.Itoa(o.kind)}, g.tellFields(o)...)...)
	}
	for _, w := range m.Weak {
		l.add("weak", g.tell(w))
	}
	for _, id := range g.known(m.IDs) {
		l.add("id", strconv.Itoa(id.Serial), g.tell(id.At))
	}
	return l.String(), nil
}

// Live words.
func (m *Memory) Live() (int, error) {
	h, err := m.survey()
	if err != nil {
		return 0, err
	}
	n := 0
	for _, o := range m.reach(h).objects {
		n += 1 + len(o.fields)
	}
	return n, nil
}

// Reached tells where the objects begin that can be come to from Roots, in the order in which they are come to first.
func (m *Memory) Reached() ([]int, error) {
	h, err := m.survey()
	if err != nil {
		return nil, err
	}
	var out []int
	for _, o := range m.reach(h).objects {
		out = append(out, o.at)
	}
	return out, nil
}

// graph is what can be come to: objects in the order in which they are come to first, and their numbers.
type graph struct {
	objects []object
	numbers map[api.Word]int
}

type object struct {
	at, kind int
	fields   []api.Word
}

// reach goes from Roots to all that can be come to.
func (m *Memory) reach(h heads) graph {
	g := graph{numbers: map[api.Word]int{}}
	come := func(w api.Word) {
		at, o, ok := m.object(h, w)
		if _, known := g.numbers[w]; ok && !known {
			g.numbers[w] = len(g.objects)
			g.objects = append(g.objects, object{at, o.Kind, m.fields(at, o)})
		}
	}
	for _, w := range m.Roots {
		come(w)
	}
	for i := 0; i < len(g.objects); i++ {
		g.objects[i].eachField(come)
	}
	return g
}

// eachField hands the fields to do, one by one, unless they are raw.
func (o object) eachField(do func(w api.Word)) {
	if Raw(o.kind) {
		return
	}
	for _, w := range o.fields {
		do(w)
	}
}

// known are the IDs whose objects were come to, by their serials.
func (g graph) known(l []ID) []ID {
	var out []ID
	for _, id := range l {
		if _, ok := g.numbers[id.At]; ok {
			out = append(out, id)
		}
	}
	slices.SortFunc(out, func(a, b ID) int { return cmp.Compare(a.Serial, b.Serial) })
	return out
}

func (g graph) tellFields(o object) []string {
	tell := g.tell
	if Raw(o.kind) {
		tell = tellRaw
	}
	out := make([]string, len(o.fields))
	for i, w := range o.fields {
		out[i] = tell(w)
	}
	return out
}

// tell is a word as P83 writes it: what is no int, no constant and not nowhere points to an object.
func (g graph) tell(w api.Word) string {
	if n, err := word.ToInt(w); err == nil {
		return strconv.FormatInt(n, 10)
	}
	if n, err := word.ToConst(w); err == nil {
		return [...]string{api.None: "none", api.False: "false", api.True: "true"}[n]
	}
	if n, ok := g.numbers[w]; ok {
		return "@" + strconv.Itoa(n)
	}
	if w == 0 {
		return "nowhere"
	}
	return "@"
}

func tellRaw(w api.Word) string {
	s := strconv.FormatUint(w, 16)
	return "0x" + strings.Repeat("0", hexDigits-len(s)) + s
}

// lines of a text.
type lines struct{ strings.Builder }

func (l *lines) add(words ...string) {
	l.WriteString(strings.Join(words, " "))
	l.WriteByte('\n')
}

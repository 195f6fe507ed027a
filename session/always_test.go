package session_test

import (
	"math/rand"
	"slices"
	"strings"
	"testing"

	"nurserypy/api"
	"nurserypy/checks/made"
	"nurserypy/scope"
	"nurserypy/session"
	"nurserypy/tree"
	"nurserypy/vm"
	"nurserypy/walk"
)

// A model of a session: texts, which are walked through anew each time.
type model struct {
	texts, printed, input []string
	fuel                  int
	last                  api.Outcome
}

func (m *model) program() string { return strings.Join(m.texts, "") }

// do: what Do answers, by the document's words one after the other.
func (m *model) do(text string) (string, error) {
	l, err := tree.Read(text)
	if err != nil {
		return "", err
	}
	if err := scope.Check(l); err != nil {
		return "", err
	}
	laid, err := tree.Text(l)
	if err != nil {
		return "", err
	}
	if len(m.program())+len(laid) > api.MaxSource || len(m.texts) >= 60 {
		return "", api.ErrBound
	}
	whole, err := tree.Read(m.program() + laid)
	if err != nil {
		return "", err
	}
	m.last, err = walk.Run(whole, m.input, m.fuel)
	switch {
	case err != nil:
		return "", err
	case m.last.Kind == "raised":
		return "", api.ErrShape
	case m.last.Kind == "tired":
		return "", api.ErrBound
	}
	before := ""
	if n := len(m.printed); n > 0 {
		before = m.printed[n-1]
	}
	m.texts = append(m.texts, laid)
	m.printed = append(m.printed, m.last.Output)
	if strings.HasPrefix(m.last.Output, before) {
		return m.last.Output[len(before):], nil
	}
	return m.last.Output, nil
}

func (m *model) undo() error {
	n := len(m.texts)
	if n == 0 {
		return api.ErrNone
	}
	m.texts, m.printed = m.texts[:n-1], m.printed[:n-1]
	return nil
}

func (m *model) give(line string) error {
	if len(m.input) >= api.MaxInput {
		return api.ErrBound
	}
	m.input = append(m.input, line)
	return nil
}

// somePiece: mostly short ones that print, bind or ask; some that are not done, or cannot be.
func somePiece(r *rand.Rand) string {
	l := []string{
		"print(x)\n", "print(x, len(l), id(l))\n", "x = 1\n", "x=x+1 # more\nprint(x)", "l = [x]\n", "push(l, len(l))\nprint(l)\n",
		"try:\n print(input())\nexcept e:\n print(e)\n", "x = input()\n", "print(input())\nprint(x)", "def f(a):\n return [a, x]\n",
		"print(f(1))\n", "x = lambda: input()\n", "try:\n print(x())\nexcept e:\n print(0)\n", "d = {}\nd[x] = 1\nprint(d)\n",
		"", "# nothing\n", "print()\n", "pass\n", "for i in range(9):\n print(i)\n", "print(\"" + strings.Repeat("-", r.Intn(2000)) + "\")\n",
		"raise x\n", "nobody\n", "print(1)\n1 // 0\n", "while True:\n pass\n", "x =\n", "print(1\n", " x\n", "break\n", "return x\n", "global x\n",
		strings.Repeat("print(0)\n", r.Intn(700)),
	}
	return l[r.Intn(len(l))]
}

// P150, P151: whatever is asked, in whatever order, a session and its model answer the same.
func TestModel(t *testing.T) {
	for seed := range 60 {
		r := rand.New(rand.NewSource(int64(seed)))
		m := &model{fuel: r.Intn(1 << (4 + r.Intn(7)))}
		s := begun(t, m.fuel)
		for range 10 + r.Intn(150) {
			var told, want string
			var err, wanted error
			text := ""
			switch r.Intn(8) {
			case 0:
				err, wanted = s.Undo(), m.undo()
			case 1:
				line := []string{"a", "b", ""}[r.Intn(3)]
				err, wanted = s.Give(line), m.give(line)
			default:
				text = somePiece(r)
				told, err = s.Do(text)
				want, wanted = m.do(text)
			}
			if told != want || !alike(err, wanted) || s.Last() != m.last || s.Program() != m.program() {
				t.Fatalf("seed %d: %q: %q and %v, not %q and %v; %v, not %v", seed, text, told, err, want, wanted, s.Last(), m.last)
			}
		}
	}
}

// alike: the same error, at the same place.
func alike(a, b error) bool {
	x, is := a.(*api.Fault)
	y, too := b.(*api.Fault)
	if is && too {
		return *x == *y
	}
	return is == too && a == b
}

// inPieces cuts a program into pieces of a few statements each.
func inPieces(t *testing.T, l []tree.Stmt, r *rand.Rand) []string {
	t.Helper()
	var out []string
	for len(l) > 0 {
		n := 1 + r.Intn(min(3, len(l)))
		text, err := tree.Text(l[:n])
		if err != nil {
			t.Fatal(err)
		}
		out = append(out, text)
		l = l[n:]
	}
	return out
}

// programs: written ones and ones that are made up.
func programs(t *testing.T) [][]tree.Stmt {
	t.Helper()
	var out [][]tree.Stmt
	for _, text := range made.Written() {
		l, err := tree.Read(text)
		if err != nil {
			t.Fatal(err)
		}
		out = append(out, l)
	}
	for seed := range 300 {
		out = append(out, made.Program(seed))
	}
	return out
}

// P153: what pieces print is what the whole prints, as far as they are done; by the first one that is not, the whole ends as well.
func TestPiecesAndWhole(t *testing.T) {
	input := []string{"a", "", "7"}
	ended := map[string]int{}
	for i, l := range programs(t) {
		r := rand.New(rand.NewSource(int64(i)))
		fuel := 10 << r.Intn(9)
		whole, err := vm.Play(l, input, fuel, roomy())
		if err != nil {
			t.Fatal(i, err)
		}
		s := begun(t, fuel)
		for _, line := range input {
			gives(t, s, line)
		}
		printed, pieces := "", inPieces(t, l, r)
		if len(pieces) > 60 {
			continue
		}
		for n, text := range pieces {
			got, err := s.Do(text)
			printed += got
			if err != nil {
				// The piece that is not done printed, too: Last tells of it.
				pieces, printed = pieces[:n], s.Last().Output
				break
			}
		}
		if s.Program() != strings.Join(pieces, "") {
			t.Errorf("%d: %q", i, s.Program())
		}
		if s.Last() != whole && len(l) > 0 || printed != whole.Output {
			t.Errorf("%d: pieces: %v, %q; the whole: %v", i, s.Last(), printed, whole)
		}
		ended[whole.Kind]++
	}
	for _, kind := range []string{"done", "raised", "tired"} {
		if ended[kind] < 10 {
			t.Error(kind, ended)
		}
	}
}

// P2: what was asked in vain between two pieces leaves no trace: only Last tells of it.
func TestAskedInVain(t *testing.T) {
	wrong := []string{"raise 1", "while 1:\n pass", "(", "return", strings.Repeat("#", api.MaxSource+1), "print(1)\nnobody"}
	for i, l := range programs(t)[:80] {
		r := rand.New(rand.NewSource(int64(i)))
		a, b := begun(t, 2000), begun(t, 2000)
		for _, text := range inPieces(t, l, r) {
			for range r.Intn(3) {
				if got, err := b.Do(wrong[r.Intn(len(wrong))]); got != "" || err == nil {
					t.Error(i, got, err)
				}
			}
			first, err := a.Do(text)
			second, other := b.Do(text)
			if first != second || !alike(err, other) {
				t.Fatalf("%d: %q: %q and %v, %q and %v", i, text, first, err, second, other)
			}
		}
		if a.Program() != b.Program() {
			t.Errorf("%d: %q, %q", i, a.Program(), b.Program())
		}
	}
}

// P2, P153: sessions that work side by side answer what each answers alone.
func TestSessionsSideBySide(t *testing.T) {
	const among = 8
	play := func(seed int) []string {
		r := rand.New(rand.NewSource(int64(seed)))
		s, err := session.New(roomy(), 500)
		if err != nil {
			return []string{err.Error()}
		}
		var out []string
		for range 60 {
			got, err := s.Do(somePiece(r))
			if err != nil {
				got = err.Error()
			}
			out = append(out, got, s.Last().Output)
		}
		return append(out, s.Program())
	}
	answers := make(chan []string)
	for range among {
		go func() { answers <- play(5) }()
	}
	want := play(5)
	for range among {
		if got := <-answers; !slices.Equal(got, want) {
			t.Error("another answer side by side")
		}
	}
}

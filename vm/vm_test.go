package vm_test

import (
	"math/rand"
	"strconv"
	"strings"
	"testing"

	"nurserypy/api"
	"nurserypy/code"
	"nurserypy/heap"
	"nurserypy/tree"
	"nurserypy/vm"
)

// roomy: a setting with which nothing of these tests is full, unless it is to be.
func roomy(half int) vm.Setting {
	return vm.Setting{Config: heap.Config{Half: half, Old: api.MaxWords, Card: 16, Tenure: 1}}
}

// random: any setting. Small ones come as often as great ones.
func random(r *rand.Rand) vm.Setting {
	any := func(bits int) int { return 1 + r.Intn(1<<r.Intn(bits+1)) }
	s := vm.Setting{Config: heap.Config{Half: any(10), Old: any(16), Card: any(10), Tenure: r.Intn(16)}}
	for range r.Intn(40) {
		s.Force = append(s.Force, vm.Force{Step: r.Intn(120) - 2, Major: r.Intn(2) == 0})
	}
	return s
}

func read(t *testing.T, s string) []tree.Stmt {
	t.Helper()
	l, err := tree.Read(s)
	if err != nil {
		t.Fatalf("%q: %v", s, err)
	}
	return l
}

func tell(o api.Outcome) string {
	return o.Kind + "|" + o.Value + "|" + o.Output
}

// An assembler makes code of words. Each Func is a line of its numbers and ops with `;` between; A is told by what it
// means: an int, a text, a name, a constant, a label (`here:` is one, ahead of an op), or a number.
type assembler struct{ code.Code }

func assembled(funcs ...string) code.Code {
	var a assembler
	for _, text := range funcs {
		f := code.Func{}
		numbers, ops, _ := strings.Cut(text, "|")
		for i, s := range strings.Fields(numbers) {
			n, _ := strconv.Atoi(s)
			switch i {
			case 0:
				f.Name = s
			case 1:
				f.Params = n
			case 2:
				f.Locals = n
			case 3:
				f.Cells = n
			case 4:
				f.Frees = n
			}
		}
		f.Ops = a.ops(ops)
		a.Funcs = append(a.Funcs, f)
	}
	return a.Code
}

func (a *assembler) ops(text string) []code.Op {
	var out []code.Op
	labels := map[string]int{}
	var marks []string
	for _, s := range strings.Split(text, ";") {
		s = strings.TrimSpace(s)
		for {
			label, rest, ok := strings.Cut(s, ":")
			if !ok {
				break
			}
			labels[label] = len(out)
			s = strings.TrimSpace(rest)
		}
		name, mark, _ := strings.Cut(s, " ")
		out = append(out, code.Op{Name: name})
		marks = append(marks, mark)
	}
	for i, mark := range marks {
		if n, ok := labels[mark]; ok {
			out[i].A = n
		} else if mark != "" {
			out[i].A = a.number(out[i].Name, mark)
		}
	}
	return out
}

func (a *assembler) number(op, mark string) int {
	switch op {
	case "int":
		n, _ := strconv.ParseInt(mark, 10, 64)
		a.Ints = append(a.Ints, n)
		return len(a.Ints) - 1
	case "str":
		a.Strs = append(a.Strs, mark)
		return len(a.Strs) - 1
	case "global", "name":
		a.Names = append(a.Names, mark) // also those that are there: a name may stand there twice
		return len(a.Names) - 1
	case "const":
		return map[string]int{"None": 0, "False": 1, "True": 2}[mark]
	}
	n, _ := strconv.Atoi(mark)
	return n
}

// does: what assembled code does, by some settings.
func does(t *testing.T, want string, funcs ...string) {
	t.Helper()
	c := assembled(funcs...)
	for _, half := range []int{1, 7, 256, 3000} {
		o, err := vm.Run(c, []string{"line"}, 100, roomy(half))
		if got := tell(o); got != want || err != nil {
			t.Errorf("%s: %q, %v, want %q", strings.Join(funcs, "\n"), got, err, want)
		}
	}
}

// is: what is printed of the value that some ops put; or the name of what they raise.
func is(t *testing.T, ops, want string, funcs ...string) {
	t.Helper()
	if name, ok := strings.CutSuffix(want, "Error"); ok {
		want = "raised|\"" + name + "Error\"|"
	} else {
		want = "done||" + want + "\n"
	}
	does(t, want, append([]string{"|global print;" + ops + "; call 1; pop; halt"}, funcs...)...)
}

package vm_test

import (
	"math/rand"
	"strings"
	"testing"

	"nurserypy/api"
	"nurserypy/checks/machine"
	"nurserypy/checks/made"
	"nurserypy/code"
	"nurserypy/heap"
	"nurserypy/tree"
	"nurserypy/vm"
	"nurserypy/walk"
)

func input() []string { return []string{"one", "", "a b", "\xff\"\n"} }

// agrees tells whether an outcome is the one that is wanted, or full on the way to it.
func agrees(got, want api.Outcome) bool {
	if got.Kind == "full" {
		return got.Value == "" && strings.HasPrefix(want.Output, got.Output) && got.Steps <= want.Steps
	}
	return got == want
}

// plays fails unless Play tells of a program what walk.Run tells. It answers how that ended.
func plays(t *testing.T, l []tree.Stmt, fuel int, s vm.Setting) string {
	t.Helper()
	want, bad := walk.Run(l, input(), fuel)
	got, err := vm.Play(l, input(), fuel, s)
	if !agrees(got, want) || err != nil || bad != nil {
		text, _ := tree.Text(l)
		t.Fatalf("fuel %d, %v:\n%s%v, %v, want %v, %v", fuel, s, text, got, err, want, bad)
	}
	return got.Kind
}

// P121, P122: programs that lead through all statements and terms, with all fuel there is, and with each that is less.
func TestWritten(t *testing.T) {
	r := rand.New(rand.NewSource(1))
	for _, s := range made.Written() {
		l := read(t, s)
		o, _ := walk.Run(l, input(), 1000)
		for fuel := range o.Steps + 2 {
			if plays(t, l, fuel, roomy(256)) == "full" {
				t.Errorf("%s: full", s)
			}
			plays(t, l, fuel, random(r))
		}
	}
}

// P41, P46, P122: what is as great, or as deep, as it may be, and what is more.
func TestGreatest(t *testing.T) {
	const nested = "def nest(n, d):\n l = 0\n while n > 0:\n  n = n - 1\n  l = [[l], {0: l}][d]\n return l\n"
	for _, s := range []string{
		"l = range(1999)\npush(l, 1)\nprint(len(l))\npush(l, 1)\n",
		"l = range(1999)\npush(l, 1)\ntry:\n push(l, 1)\nexcept e:\n print(e, len(l), pop(l))\n",
		"l = range(1000)\nprint(len(l + l))\nl + range(1001)\n",
		"print(len(range(2000)))\nrange(2001)\n",
		"l = range(2000)\nl + []\n[] + l\nl + [1]\n",
		"l = range(2000)\ni = 0\nwhile l:\n i = i + pop(l)\nprint(i, l)\nwhile len(l) < 1000:\n push(l, i)\nwhile l:\n del l[len(l) // 2]\npop(l)\n",
		"d = {}\ni = 0\nwhile i < 2000:\n i = i + 1\n d[i * i] = [i]\nprint(len(d), d[4000000], len(keys(d)))\nd[1] = 5\nprint(d[1])\nd[0] = 5\n",
		"d = {}\nfor i in range(2000):\n d[str(i)] = i\ne = {}\nfor i in range(2000):\n e[str(1999 - i)] = 1999 - i\nprint(d == e, keys(d) == keys(e))\nfor k in d:\n del e[k]\nprint(len(e), e)\ntry:\n d[0] = 1\nexcept x:\n print(x, len(d))\n",
		"s = \"abcd\"\nwhile len(s) < 1024:\n s = s + s\nt = s + s[0]\nwhile len(s + t) < 2000:\n t = t[0] + t\n",
		"s = \"a\"\nwhile True:\n s = s + s[0]\n",
		"s = \"a\"\nwhile len(s) < 1998:\n s = s + \"b\"\nprint(len(str([s[1]])))\ntry:\n str([s])\nexcept e:\n print(e)\nprint(s)\nraise s + \"cc\"\n",
		"while True:\n print(range(100))\n",
		nested + "print(nest(20, 0), nest(20, 1))\nnest(20, 0) == nest(20, 0)\nnest(20, 1) == nest(20, 1)\nnest(20, 0) in [nest(20, 0)]\nstr(nest(21, 0))\n",
		nested + "try:\n str(nest(21, 1))\nexcept e:\n print(e)\nnest(21, 0) == nest(21, 0)\n",
		nested + "try:\n nest(21, 1) == nest(21, 1)\nexcept e:\n print(e)\nnest(21, 0) in [0, nest(21, 0)]\n",
		nested + "print(nest(22, 0) == nest(21, 1), nest(20, 0) == nest(21, 0))\n",
		nested + "a = {1: nest(20, 0), 2: 1}\nb = {2: 2, 1: nest(20, 0)}\nprint(a in [b], b == a)\nb in [a]\n",
		nested + "raise nest(21, 0)\n",
		"l = []\nm = []\nfor i in range(19):\n l = [l, l, l, l]\n m = [m, m, m, m]\nprint(l == m, l in [1, m], {0: l} == {0: m})\nl == [m]\n",
		"a = {1: [0], 2: 1}\nb = {2: 2, 1: [0]}\nprint(a == b, b == a, [a] == [b], a in [b, a], {1: 2, 2: 1} == {2: 1, 1: 2}, {1: 2} == {True: 2}, {1: None} == {2: None})\n",
		"l = [[]]\nl[0] = l\nm = {0: l}\nl == l[0]\n",
		"l = [0]\nl[0] = l\nprint(l is l[0], [l] is l)\nl in [l]\n",
		"def f(n):\n if n:\n  return f(n - 1) + 1\n return 0\nprint(f(59))\nf(60)\n",
	} {
		l := read(t, s)
		if kind := plays(t, l, api.MaxFuel, roomy(300)); kind == "full" || kind == "tired" {
			t.Errorf("%s: %s", s, kind)
		}
	}
}

// P122: by whatever Setting; a collection behind each step, and at each object that is made.
func TestMadeUp(t *testing.T) {
	r := rand.New(rand.NewSource(2))
	kinds := map[string]int{}
	for seed := range 400 {
		l := made.Program(seed)
		often := roomy(1 + seed%5)
		for n := range 100 {
			often.Force = append(often.Force, vm.Force{Step: n, Major: n%3 == 0})
		}
		kinds[plays(t, l, 300, often)]++
		kinds[plays(t, l, []int{2000, seed % 97}[seed%2], random(r))]++
		kinds[plays(t, l, 2000, roomy(256))]++
	}
	for _, k := range []string{"done", "raised", "tired", "full"} {
		if kinds[k] < 60 {
			t.Errorf("just %d were %s", kinds[k], k)
		}
	}
}

// runs fails unless Run tells of code what a machine without a heap does. It answers how that ended.
func runs(t *testing.T, c code.Code, fuel int, s vm.Setting) string {
	t.Helper()
	want := machine.Run(c, input(), fuel)
	got, err := vm.Run(c, input(), fuel, s)
	if !agrees(got, want) || err != nil {
		t.Fatalf("fuel %d, %v:\n%s%v, %v, want %v", fuel, s, code.Text(c), got, err, want)
	}
	return got.Kind
}

// P120, P122: what code.Verify takes, whatever it is.
func TestMadeUpCode(t *testing.T) {
	r := rand.New(rand.NewSource(3))
	kinds := map[string]int{}
	spoilt := 0
	for seed := range 1800 {
		c := made.Code(seed)
		if err := code.Verify(c); err != nil {
			t.Fatal(seed, err)
		}
		kinds[runs(t, c, 1+seed%200, random(r))]++
		kinds[runs(t, c, 200, roomy(1+seed%300))]++
		for range 6 {
			made.SpoilCode(c, r.Int())
			if code.Verify(c) != nil {
				c = made.Code(seed)
				continue
			}
			spoilt++
			runs(t, c, 100, roomy(256))
		}
	}
	for _, k := range []string{"done", "raised", "tired", "full"} {
		if kinds[k] < 60 {
			t.Errorf("just %d were %s", kinds[k], k)
		}
	}
	if spoilt < 1500 {
		t.Error("spoilt", spoilt)
	}
}

// P122: the same whatever the Setting is, in which things lie elsewhere, and move at other times.
func TestSettings(t *testing.T) {
	l := read(t, `
l = []
d = {}
def keep(x):
    def get():
        return [x, i]
    return get
for i in range(60):
    push(l, keep([i, str(i)]))
    d[str(i % 7)] = l[i // 2]
    if i % 9 == 8:
        l = l + []
        del d[str(i % 7)]
print(len(l), keys(d), id(l), id(d), id(l[3]))
for k in d:
    print(k, d[k](), id(d[k]), d[k] in l, l[2]() == l[2]())
raise [l[0](), d == d, l == l + []]
`)
	want, err := walk.Run(l, nil, 5000)
	if want.Kind != "raised" || err != nil {
		t.Fatal(want, err)
	}
	for _, half := range []int{1, 2, 3, 5, 17, 64, 300, api.MaxWords} {
		for _, old := range []int{2000, api.MaxWords} {
			for tenure := 0; tenure < 16; tenure += 5 {
				s := vm.Setting{Config: heap.Config{Half: half, Old: old, Card: 1 + half%1024, Tenure: tenure}}
				if got, err := vm.Play(l, nil, 5000, s); got != want || err != nil {
					t.Error(s, got, err)
				}
			}
		}
	}
}

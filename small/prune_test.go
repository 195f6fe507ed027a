package small_test

import (
	"math/rand"
	"regexp"
	"slices"
	"strings"
	"testing"

	"nurserypy/checks/made"
	"nurserypy/scope"
	"nurserypy/small"
)

// P141: blocks, and what stays of them.
func TestPrune(t *testing.T) {
	for s, want := range map[string]string{
		"def f():\n return 1\n print(2)\n x = 3\n if x:\n  pass\n":        "def f():\n return 1\n x = 3\n",
		"while a:\n if b:\n  break\n  print(1)\n continue\n raise 2\n":    "while a:\n if b:\n  break\n continue\n",
		"raise 1\npass\nprint(2)\n":                                       "raise 1\n",
		"pass\nraise 1\nraise 2\nx = 1\nraise 3\ny = 1\npass\n":           "pass\nraise 1\nx = 1\ny = 1\n",
		"def f():\n return\n return 1\n":                                  "def f():\n return\n",
		"for x in y:\n continue\n break\n":                                "for x in y:\n continue\n",
		"while 1:\n break\n continue\n":                                   "while 1:\n break\n",
		"try:\n raise 1\n print(1)\nexcept e:\n raise 2\n print(2)\n":     "try:\n raise 1\nexcept e:\n raise 2\n",
		"if a:\n raise 1\n 1\nelif b:\n raise 2\n 2\nelse:\n raise 3\n 3": "if a:\n raise 1\nelif b:\n raise 2\nelse:\n raise 3\n",
		"if a:\n raise 1\nelse:\n raise 2\nprint(3)\n":                    "if a:\n raise 1\nelse:\n raise 2\nprint(3)\n", // the block itself is not left by such a statement of its own
		"while 1:\n pass\nprint(1)\n":                                     "while 1:\n pass\nprint(1)\n",
		"while 1:\n while 1:\n  break\n pass\npass\n":                     "while 1:\n while 1:\n  break\n pass\npass\n",
		"def f():\n def g():\n  return\n  pass\n pass\n return g\n f\n":   "def f():\n def g():\n  return\n pass\n return g\n",
		"x[0] = 1\nraise 1\nx[0] = 2\ndel x[0]\nx\nx()\npass\n":           "x[0] = 1\nraise 1\n",
		"raise 1\nwhile x:\n pass\nif x:\n x()\nelse:\n y()\n":            "raise 1\n",
		"raise 1\nx(lambda a, b: a)\n":                                    "raise 1\n", // the parameters are the lambda's own
		"x = 1 + 1\nif 0:\n pass\nwhile True:\n break\n":                  "x = 1 + 1\nif 0:\n pass\nwhile True:\n break\n",
		"":       "",
		"pass\n": "pass\n",
	} {
		becomes(t, small.Prune, s, want)
	}
}

// P141: what binds a name, or says whose it is, stays, with all that it stands in; what is in it is pruned as all else.
func TestPruneKeeps(t *testing.T) {
	for _, s := range []string{
		"x = 1\n", "for x in []:\n pass\n", "def g():\n pass\n", "try:\n pass\nexcept x:\n pass\n", "global x\n", "nonlocal y\n",
	} {
		for _, around := range []string{
			"S", "if 1:\n S", "if 1:\n pass\n S", "if 1:\n 1\nelse:\n S", "if 1:\n 1\nelif 2:\n 2\nelse:\n S", "while 1:\n S", "while 1:\n while 2:\n  if 3:\n   3\n  else:\n   S", "if 1:\n return 2\n S",
		} {
			for _, leaves := range []string{"return", "return 0", "raise 0", "break", "continue"} {
				inner := placed(around, s)
				stays := "def f():\n y = 0\n def h():\n  while 0:\n" + indented("   ", leaves+"\n"+inner)
				becomes(t, small.Prune, stays, stays)
				more := "def f():\n y = 0\n def h():\n  while 0:\n" + indented("   ", leaves+"\nprint(1)\n"+inner+"while 1:\n 2\nreturn 3\n")
				becomes(t, small.Prune, more, stays)
			}
		}
	}
	becomes(t, small.Prune, "raise 1\nif 1:\n 2\n raise 3\n 4\n x = 5\n 6\n7\n", "raise 1\nif 1:\n 2\n raise 3\n x = 5\n")
	becomes(t, small.Prune, "raise 1\ndef f():\n 1\n return 2\n 3\nfor x in y:\n 4\n break\n 5\n", "raise 1\ndef f():\n 1\n return 2\nfor x in y:\n 4\n break\n")
}

// placed: a statement in others, where S is.
func placed(around, s string) string {
	at := strings.Index(around, "S")
	blanks := around[strings.LastIndex(around, "\n")+1 : at]
	return around[:at-len(blanks)] + indented(blanks, s)
}

func indented(blanks, s string) string {
	return blanks + strings.ReplaceAll(strings.TrimSuffix(s, "\n"), "\n", "\n"+blanks) + "\n"
}

// P142: what stays must: without it a name would be another one.
func TestPruneKeepsNames(t *testing.T) {
	for s, want := range map[string]string{
		"x = 1\ndef f():\n try:\n  return x\n except e:\n  print(e)\n return 2\n x = 3\nprint(f())\n":                           "NameError\n2\n",
		"x = 1\ndef f():\n x = 2\n return x\n if 0:\n  global y\n y = 5\nprint(f(), x)\n":                                       "2 1\n",
		"def f():\n x = 1\n def g():\n  return lambda: x\n  x = 2\n return g()()\ntry:\n f()\nexcept e:\n print(e)\n":           "NameError\n",
		"def f():\n x = 1\n def g():\n  if 0:\n   return\n   nonlocal x\n  x = 2\n g()\n return x\nprint(f())\n":                "2\n",
		"def f():\n if 0:\n  raise 1\n  global x\n x = 2\n raise x\nx = 1\ntry:\n f()\nexcept e:\n print(e, x)\n":               "2 2\n",
		"len = 5\ndef f():\n return len\n try:\n  1\n except len:\n  2\ntry:\n print(f())\nexcept e:\n print(e)\n":              "NameError\n",
		"while 1:\n break\n def print():\n  pass\nprint(1)\nfor x in [1, 2]:\n continue\n for print in []:\n  pass\nprint(x)\n": "1\n2\n",
	} {
		if _, _, o := holds(t, read(t, s)); o.Output != want || o.Kind != "done" {
			t.Errorf("%s%v", s, o)
		}
	}
}

// groups: the statements of a block, each with the lines that it has.
func groups(lines []string) [][]string {
	var out [][]string
	for _, line := range lines {
		if line[0] == ' ' || regexp.MustCompile(`^(else|elif|except)\b`).MatchString(line) {
			out[len(out)-1] = append(out[len(out)-1], line)
		} else {
			out = append(out, []string{line})
		}
	}
	return out
}

var (
	leaving = regexp.MustCompile(`^(return|raise|break|continue)\b`)
	naming  = regexp.MustCompile(`^ *((for|def|global|nonlocal) |try:|[a-z_0-9]+ = )`)
)

// prunedLines: a second pruner, which goes by lines alone.
func prunedLines(lines []string) []string {
	var out []string
	left := false
	for _, group := range groups(lines) {
		if left && !slices.ContainsFunc(group, naming.MatchString) {
			continue
		}
		left = left || leaving.MatchString(group[0])
		var inner []string
		flush := func() {
			for _, line := range prunedLines(inner) {
				out = append(out, "    "+line)
			}
			inner = nil
		}
		for _, line := range group {
			if rest, within := strings.CutPrefix(line, "    "); within {
				inner = append(inner, rest)
				continue
			}
			flush()
			out = append(out, line)
		}
		flush()
	}
	return out
}

// P141: made-up programs.
func TestPruneMadeUp(t *testing.T) {
	r := rand.New(rand.NewSource(141))
	pruned, kept := 0, 0
	for seed := range 200 {
		l := made.Program(seed)
		if fat := thicken(r, l); scope.Check(fat) == nil {
			l = fat
		}
		s := text(t, l)
		want := strings.Join(prunedLines(strings.Split(strings.TrimSuffix(s, "\n"), "\n")), "\n") + "\n"
		if got := text(t, by(t, small.Prune, l)); got != want {
			t.Fatalf("%s-- becomes\n%s-- want\n%s", s, got, want)
		}
		if want != s {
			pruned++
		}
		if regexp.MustCompile(`\n( *)(return|raise|break|continue)\b.*\n( *)[a-z]+ = `).MatchString(want) {
			kept++
		}
	}
	if pruned < 100 || kept < 20 {
		t.Errorf("%d were pruned, %d have names that stay", pruned, kept)
	}
}

package code

import (
	"strconv"
	"strings"
	"testing"
)

// What each op takes and puts, by P50.
const asSaid = `const 0: 0 1; const 1: 0 1; const 2: 0 1; int 0: 0 1; str 0: 0 1; load 0: 0 1; store 0: 1 0; cell 0: 0 1; fill 0: 1 0; global 0: 0 1; name 0: 1 0;
neg: 1 1; not: 1 1; add: 2 1; sub: 2 1; mul: 2 1; div: 2 1; mod: 2 1; eq: 2 1; ne: 2 1; lt: 2 1; le: 2 1; gt: 2 1; ge: 2 1; is: 2 1; in: 2 1;
call 0: 1 1; call 1: 2 1; call 7: 8 1; call 999: 1000 1; index: 2 1; put: 3 0; del: 2 0; list 0: 0 1; list 1: 1 1; list 5: 5 1; list 1000: 1000 1; dict 0: 0 1; dict 1: 2 1; dict 3: 6 1; dict 500: 1000 1;
closure 2: 0 1; closure 3, take 0, take 1: 0 1; pop: 1 0; dup: 1 2; iter: 1 1; step: 0 0`

// P50, P51: each op has what it takes, and puts what it puts; behind a try it takes nothing that was there.
func TestTakesAndPuts(t *testing.T) {
	for _, s := range strings.Split(asSaid, ";") {
		op, counts, _ := strings.Cut(strings.TrimSpace(s), ": ")
		words := strings.Fields(counts)
		n, _ := strconv.Atoi(words[0])
		puts, _ := strconv.Atoi(words[1])
		// with: so many values, the op, so many pops.
		with := func(ahead string, values, pops int) string {
			return strings.Join([]string{ahead, times(values, "const 0"), op, times(pops, "pop"), "const 0, return"}, ",")
		}
		takesWithin(t, with("", n, puts), with("", n, 0))
		refusesWithin(t, with("", n, puts+1))
		tried := "const 0, jump 3, return, try 2"
		refusesWithin(t, with(tried, n, puts+1))
		if n < 1000 {
			takesWithin(t, with("const 0", n, puts+1), with(tried, n, puts), with(tried, n, 0))
		}
		if n > 0 {
			refusesWithin(t, with("", n-1, 0), with(tried, n-1, 0))
		}
	}
}

func times(n int, op string) string { return strconv.Itoa(n) + "*" + op }

// P51: jumps.
func TestJumps(t *testing.T) {
	takes(t, "jump 1, halt", "const 0, jump 3, const 0, pop, halt", "const 2, unless 4, const 0, pop, halt", "const 2, unless 0, halt", "const 0, const 1, unless 1, halt")
	refuses(t, "unless 1, halt", "const 0, unless 2, const 0, pop, pop, halt", "const 0, unless 3, const 0, halt", "const 0, jump 0", "step, const 0, jump 1", "const 0, const 1, unless 0, halt")
	// At the end what was gone through goes: one value less than ahead.
	takes(t, "const 0, iter, next 5, pop, jump 2, halt", "const 0, next 3, halt, halt", "const 0, iter, next 5, 2*pop, halt", "const 1, const 0, iter, next 6, pop, jump 3, pop, halt")
	refuses(t, "next 1, halt", "const 0, iter, next 4, jump 2, halt", "const 0, iter, next 3, pop, halt", "const 0, iter, next 4, pop, halt", "const 0, iter, next 6, pop, jump 2, halt, pop, halt", "const 1, const 0, iter, next 6, pop, jump 3, 2*pop, halt")
	// What is never come to may take what it likes.
	takes(t, "halt, pop, pop, halt", "jump 3, pop, const 0, halt", "const 0, raise, pop, pop, jump 0")
}

// P51: tries.
func TestTries(t *testing.T) {
	takes(t, "try 3, end, jump 4, pop, halt", "try 2, halt, pop, halt", "try 3, const 0, raise, raise", "const 0, try 5, end, pop, halt, pop, pop, halt", "try 5, try 6, end, end, halt, raise, raise", "try 3, const 0, halt, raise", "try 4, const 0, end, jump 4, pop, halt")
	refuses(t, "end, halt", "try 3, end, end, raise", "try 2, end, halt", "try 2, end, pop, halt", "try 1, halt", "const 0, try 4, pop, halt, halt", "const 0, try 4, neg, halt, halt", "const 0, try 4, dup, halt, halt")
	refuses(t, "const 0, iter, try 5, next 5, halt, halt", "const 0, try 4, unless 3, halt, halt", "const 0, try 3, raise, halt", "2*const 0, try 5, const 0, put, halt")
	// Tries are as many, and begun at the same ops.
	takes(t, "const 0, unless 4, step, jump 4, try 6, halt, raise", "const 0, unless 4, try 5, end, halt, raise")
	refuses(t, "const 0, unless 4, try 6, jump 5, try 6, halt, raise", "const 0, unless 3, try 4, halt, raise", "try 2, jump 0, raise", "const 0, unless 4, try 5, step, end, raise", "const 0, unless 4, try 7, jump 5, try 8, try 9, halt, raise, raise, raise")
	// What catches has the tries of outside, and one value more than was there.
	takes(t, "try 7, try 4, end, jump 5, pop, end, halt, raise", "2*const 0, try 7, end, 2*pop, halt, pop, jump 4", "2*const 0, try 7, end, 2*pop, halt, 3*pop, halt")
	refuses(t, "try 7, try 4, end, jump 4, pop, end, halt, raise", "try 7, try 4, end, jump 6, pop, end, halt, raise", "2*const 0, try 7, end, 2*pop, halt, 4*pop, halt", "2*const 0, try 7, 2*const 0, end, halt, 4*pop, halt")
	// Behind its end what was there may be taken again, but what was there at one around it.
	takes(t, "const 0, try 5, end, pop, halt, pop, jump 3", "const 0, try 9, const 0, try 7, end, pop, halt, pop, jump 5, 2*pop, halt")
	refuses(t, "const 0, try 10, const 0, try 8, end, 2*pop, halt, pop, jump 5, raise")
}

// P51: how many values there may be.
func TestMostValues(t *testing.T) {
	takes(t, "1000*const 0, halt", "999*const 0, dup, halt", "1000*const 0, pop, const 0, halt", "1000*const 0, jump 1001, halt", "999*const 0, try 1001, halt, halt", "999*const 0, iter, next 1002, halt, halt")
	refuses(t, "1001*const 0, halt", "1000*const 0, dup, halt", "1001*const 0, raise", "1000*const 0, list 0, halt", "1000*const 0, try 1002, halt, halt", "1000*const 0, next 1002, halt, halt", "1000*const 0, closure 0, halt")
	takes(t, "1000*const 0, raise", "1000*const 0, list 1000, halt", "1000*const 0, call 999, halt", "1000*const 0, dict 500, halt")
	refuses(t, "999*const 0, list 1000, halt", "999*const 0, call 999, halt", "999*const 0, dict 500, halt", "1000*const 0, call 1000, halt", "1000*const 0, dict 501, halt")
	takesWithin(t, "1000*const 0, return")
	refusesWithin(t, "1001*const 0, return")
}

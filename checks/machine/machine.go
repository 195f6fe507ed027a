// Package machine does what code says, for tests: its values lie in no heap, and nothing of it moves.
package machine

import (
	"strings"

	"nurserypy/api"
	"nurserypy/code"
)

// Run code that code.Verify takes. (Input and fuel are as they must be.)
func Run(c code.Code, input []string, fuel int) api.Outcome {
	m := &machine{Code: c, globals: map[string]any{}, input: input, fuel: fuel}
	for _, name := range strings.Fields("len str push pop keys id range input print collect") {
		m.globals[name] = builtin(name)
	}
	m.frames = []*frame{opened(c.Funcs[0], nil, nil)}
	for m.kind == "" {
		if v, thrown := caught(m.op); thrown {
			m.unwind(v)
		}
		if m.idle >= maxIdle {
			m.kind = "tired"
		}
	}
	out := api.Outcome{Kind: m.kind, Output: m.output.String(), Steps: m.steps}
	if m.kind == "raised" {
		out.Value = told(m.value)
	}
	return out
}

// told: what is told of a value that nobody caught.
func told(v any) string {
	text := ""
	other, thrown := caught(func() { text = repr(v, 1) })
	if thrown {
		return repr(other, 1)
	}
	return text
}

type machine struct {
	code.Code
	globals map[string]any
	frames  []*frame
	input   []string
	fuel    int
	steps   int
	idle    int // ops without a step
	serials int
	output  strings.Builder
	kind    string // how it ended
	value   any    // what was raised then
}

// A frame is a call that is open; the first one is the program.
type frame struct {
	code.Func
	at     int
	locals []*slot
	cells  []*slot
	stack  []any
	tries  []try
}

// A slot is where a value may lie.
type slot struct {
	value any
	has   bool
}

// A try that is open: where it goes on, and with how many values.
type try struct {
	at, values int
}

func opened(f code.Func, frees []*slot, args []any) *frame {
	out := &frame{Func: f}
	for range f.Locals {
		out.locals = append(out.locals, &slot{})
	}
	for range f.Cells {
		out.cells = append(out.cells, &slot{})
	}
	out.cells = append(out.cells, frees...)
	for n, v := range args {
		*out.locals[n] = slot{v, true}
	}
	return out
}

// A raised value is thrown.
type raised struct {
	value any
}

func raise(name string) { panic(raised{name + "Error"}) }

// caught: what something raised, if it did.
func caught(something func()) (value any, thrown bool) {
	defer func() {
		p := recover()
		if p == nil {
			return
		}
		r, ok := p.(raised)
		if !ok {
			panic(p)
		}
		value, thrown = r.value, true
	}()
	something()
	return nil, false
}

// unwind: it goes on at the last try that is open.
func (m *machine) unwind(v any) {
	for len(m.frames) > 0 {
		f := m.top()
		if n := len(f.tries); n > 0 {
			last := f.tries[n-1]
			f.tries = f.tries[:n-1]
			f.at = last.at
			f.stack = append(f.stack[:last.values], v)
			return
		}
		m.frames = m.frames[:len(m.frames)-1]
	}
	m.kind, m.value = "raised", v
}

func (m *machine) top() *frame { return m.frames[len(m.frames)-1] }

func (f *frame) push(v any) { f.stack = append(f.stack, v) }

func (f *frame) pop() any { return f.pops(1)[0] }

// pops takes so many values, the uppermost one last.
func (f *frame) pops(n int) []any {
	from := len(f.stack) - n
	out := append([]any{}, f.stack[from:]...)
	f.stack = f.stack[:from]
	return out
}

func (s *slot) get() any {
	if !s.has {
		raise("Name")
	}
	return s.value
}

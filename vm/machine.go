package vm

import (
	"strings"

	"nurserypy/api"
	"nurserypy/code"
)

// maxIdle ops without a step, and a run is tired.
const maxIdle = 100000

// A machine does what code says. All values lie in its stack, and in what that leads to: beside it the machine has but
// numbers.
type machine struct {
	stack
	code.Code
	end      ending
	builtins []builtin
	globals  []int // of each of the Names its slot
	frames   []*frame
	shared   map[string]int // of each text that is, or was, shared the weak reference to its str
	input    []string       // what was not yet asked for
	output   strings.Builder
	force    []Force
	fuel     int
	steps    int
	idle     int // ops since the last step
}

// An ending is how a run ended, and what was raised then; as long as it did not, it is empty.
type ending struct {
	kind, value string
}

// A frame is a call that is open; the first one is the program.
type frame struct {
	ops    []code.Op
	at     int // the next op
	locals int // the slot of the first one; below it lies the function
	cells  int // the slot of the first one; behind the cells lie the frees
	tries  []try
}

// A try that is open: where it goes on, and with how many slots.
type try struct {
	at, slots int
}

func (m *machine) run() api.Outcome {
	m.attempt(m.begin)
	next := m.next
	for m.end.kind == "" {
		m.attempt(next)
		if m.idle >= maxIdle && m.end.kind != "full" {
			m.end = ending{kind: "tired"}
		}
	}
	return api.Outcome{Kind: m.end.kind, Value: m.end.value, Output: m.output.String(), Steps: m.steps}
}

// begin: ahead of all else on the stack lie the hand, and the globals.
func (m *machine) begin() {
	m.resize(hand + 1)
	slots := map[string]int{}
	for _, name := range m.Names {
		if _, ok := slots[name]; !ok {
			slots[name] = m.push()
		}
		m.globals = append(m.globals, slots[name])
	}
	for n, b := range m.builtins {
		if slot, ok := slots[string(b)]; ok {
			m.create(slot, builtinKind, 1)
			m.setNumber(slot, 0, n)
		}
	}
	m.frames = []*frame{{ops: m.Funcs[0].Ops}}
	m.collectForced()
}

// next does an op.
func (m *machine) next() {
	f := m.frames[len(m.frames)-1]
	op := f.ops[f.at]
	f.at++
	m.idle++
	if !m.moves(f, op) && !m.flows(f, op) && !m.makes(f, op) {
		m.works(op.Name)
	}
}

func (m *machine) step() {
	if m.steps == m.fuel {
		m.end = ending{kind: "tired"}
		return
	}
	m.steps++
	m.idle = 0
	m.collectForced()
}

// collectForced: the collections that are due behind this step.
func (m *machine) collectForced() {
	for _, f := range m.force {
		if f.Step == m.steps {
			m.collect(f.Major)
		}
	}
}

func (m *machine) collect(all bool) {
	if all {
		check(m.Major())
		return
	}
	check(m.Minor())
}

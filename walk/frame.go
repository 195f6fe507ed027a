package walk

import "nurserypy/rules"

// A frame is what a call of a function has for itself; the program's own has no names, for they are global.
type frame struct {
	names  map[string]*cell // its locals, cells and free names
	answer any              // what a return told
}

// A cell is where the value of a name lies; calls and functions may have it in common.
type cell struct {
	value any
	has   bool // a value, which may be None
}

// opened: the frame with which a call of a function begins.
func opened(f *function, args []any) *frame {
	out := &frame{names: map[string]*cell{}}
	for _, name := range f.own {
		out.names[name] = &cell{}
	}
	for name, shared := range f.cells {
		out.names[name] = shared
	}
	for n, name := range f.params {
		*out.names[name] = cell{value: args[n], has: true}
	}
	return out
}

// function: a new one, which has the cells of now.
func (f *frame) function(r *recipe) *function {
	out := &function{recipe: r, cells: map[string]*cell{}}
	for _, name := range r.frees {
		out.cells[name] = f.names[name]
	}
	return out
}

func (w *walker) value(name string, f *frame) any {
	if c, ok := f.names[name]; ok {
		if !c.has {
			panic(raised{rules.NameError})
		}
		return c.value
	}
	v, ok := w.globals[name]
	if !ok {
		panic(raised{rules.NameError})
	}
	return v
}

// become: a name has a value from now on.
func (w *walker) become(name string, v any, f *frame) {
	if c, ok := f.names[name]; ok {
		*c = cell{value: v, has: true}
		return
	}
	w.globals[name] = v
}

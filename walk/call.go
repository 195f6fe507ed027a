package walk

import (
	"nurserypy/api"
	"nurserypy/rules"
)

func (w *walker) call(called any, args []any) any {
	switch f := called.(type) {
	case *function:
		return w.enter(f, args)
	case builtin:
		if !rules.Takes(string(f), len(args)) {
			panic(raised{rules.TypeError})
		}
		return w.builtin(f, args)
	}
	panic(raised{rules.TypeError})
}

func (w *walker) enter(f *function, args []any) any {
	if len(args) != len(f.params) {
		panic(raised{rules.TypeError})
	}
	if w.calls == api.MaxCalls {
		panic(raised{rules.RecursionError})
	}
	w.step()
	w.calls++
	within := opened(f, args)
	if f.body == nil {
		within.answer = w.term(&f.term, within)
	} else {
		w.block(f.body, within)
	}
	w.calls--
	return within.answer
}

// builtins: the global names that there are from the beginning.
func builtins() map[string]any {
	out := map[string]any{}
	for _, name := range rules.Builtins() {
		out[name] = builtin(name)
	}
	return out
}

func (w *walker) builtin(b builtin, args []any) any {
	switch b {
	case "len":
		return int64(length(args[0]))
	case "str":
		return str(args[0])
	case "push":
		as[*list](args[0]).push(args[1])
	case "pop":
		return as[*list](args[0]).pop()
	case "keys":
		return &list{items: append([]any(nil), as[*dict](args[0]).keys...)}
	case "id":
		return int64(w.id(args[0]))
	case "range":
		return counted(as[int64](args[0]))
	case "input":
		return w.line()
	case "print":
		w.print(args)
	case "collect":
		if n := as[int64](args[0]); n != 0 && n != 1 {
			panic(raised{rules.ValueError})
		}
	}
	return nil
}

// id: the number of a thing, which it has from the first time that it is asked for.
func (w *walker) id(v any) int {
	var has *int
	switch x := v.(type) {
	case *list:
		has = &x.id
	case *dict:
		has = &x.id
	case *function:
		has = &x.id
	default:
		panic(raised{rules.TypeError})
	}
	if *has == 0 {
		w.ids++
		*has = w.ids
	}
	return *has
}

// counted: the list of the ints from 0 on that are below n.
func counted(n int64) *list {
	out := &list{}
	for i := range sure(rules.Counted(n)) {
		out.items = append(out.items, int64(i))
	}
	return out
}

func (w *walker) line() string {
	if len(w.input) == 0 {
		panic(raised{rules.ValueError})
	}
	line := w.input[0]
	w.input = w.input[1:]
	return line
}

// print tells all that it is given, or, if something of it raises, nothing.
func (w *walker) print(args []any) {
	var texts []string
	for _, v := range args {
		texts = append(texts, str(v))
	}
	w.output.WriteString(sure(rules.Line(texts, w.output.Len())))
}

package walk

// A raised value is thrown up to the try that catches it.
type raised struct {
	value any
}

// sure: what is told, where nothing is wrong with it.
func sure[T any](v T, wrong string) T {
	ask(wrong)
	return v
}

// ask raises what is wrong, if something is.
func ask(wrong string) {
	if wrong != "" {
		panic(raised{wrong})
	}
}

// An exhausted run is thrown past every try.
type exhausted struct{}

// attempt does something, and answers what it raised, if it did.
func (w *walker) attempt(something func()) (value any, caught bool) {
	calls := w.calls
	defer func() {
		if w.tired {
			return // not caught here, it goes on by itself
		}
		thrown := recover()
		if thrown == nil {
			return
		}
		r, ok := thrown.(raised)
		if !ok {
			panic(thrown)
		}
		w.calls = calls // those that were open within were given up
		value, caught = r.value, true
	}()
	something()
	return nil, false
}

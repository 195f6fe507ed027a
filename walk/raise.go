package walk

// What goes wrong raises one of these.
const (
	nameError      = "NameError"
	typeError      = "TypeError"
	indexError     = "IndexError"
	keyError       = "KeyError"
	valueError     = "ValueError"
	zeroError      = "ZeroDivisionError"
	overflowError  = "OverflowError"
	recursionError = "RecursionError"
)

// A raised value is thrown up to the try that catches it.
type raised struct {
	value any
}

// An exhausted run is thrown past every try.
type exhausted struct{}

// attempt does something, and answers what it raised, if it did.
func (w *walker) attempt(something func()) (value any, caught bool) {
	calls := w.calls
	defer func() {
		if w.tired {
			return // not caught here, it goes on by itself
		}
		thrown := recover()
		if thrown == nil {
			return
		}
		r, ok := thrown.(raised)
		if !ok {
			panic(thrown)
		}
		w.calls = calls // those that were open within were given up
		value, caught = r.value, true
	}()
	something()
	return nil, false
}

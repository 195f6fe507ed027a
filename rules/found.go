package rules

// Found remembers which lists and dicts a comparison found equal: they may stand in what is compared more often than
// could be gone through. A pair is told by P.
type Found[P comparable] struct {
	deep map[P]int // how deep they were
}

// Equal asks what is in two of one kind, if it is not yet known. (Found equal deeper in each other, they are no deeper
// here; found unlike, there was nothing left to ask.)
func (f *Found[P]) Equal(pair P, deep int, asked func() bool) (equal bool, wrong string) {
	if wrong := Nests(deep); wrong != "" {
		return false, wrong
	}
	if deep <= f.deep[pair] {
		return true, ""
	}
	if !asked() {
		return false, ""
	}
	if f.deep == nil {
		f.deep = map[P]int{}
	}
	f.deep[pair] = deep
	return true, ""
}

package small

import (
	"slices"

	"nurserypy/tree"
)

// pruned opens a block of which stays what may be begun, and what is needed though it is never begun.
func pruned() filter {
	left := false // the block was left: what follows is never begun
	return func(s tree.Stmt) bool {
		stays := !left || declares(s)
		left = left || leaves(s)
		return stays
	}
}

func leaves(s tree.Stmt) bool {
	switch s.Kind {
	case "return", "raise", "break", "continue":
		return true
	}
	return false
}

// declares: whether a statement, or one in it, has a say in whose a name is: without it a name could be another scope's.
func declares(s tree.Stmt) bool {
	switch s.Kind {
	case "set", "for", "def", "try", "global", "nonlocal":
		return true
	}
	return slices.ContainsFunc(s.Body, declares) || slices.ContainsFunc(s.Else, declares)
}

package session

import (
	"nurserypy/api"
	"nurserypy/tree"
)

const maxPieces = 60

// What is kept from call to call.
type kept struct {
	done  []piece
	input []string
	last  api.Outcome
}

// A piece that was done. What was printed stays with it: behind an Undo it counts again, and a run of now could print something else, for there may be more input.
type piece struct {
	program []tree.Stmt
	printed string // by all pieces up to this one
}

// takes tells whether a session may have this piece behind those that were done.
func (k *kept) takes(l []tree.Stmt) bool {
	if len(k.done) == maxPieces {
		return false
	}
	_, err := tree.Text(k.with(l)) // each piece by itself has a text, so all can but be too long
	return err == nil
}

// with: all pieces that were done, and this one behind, as one program.
func (k *kept) with(l []tree.Stmt) []tree.Stmt {
	var out []tree.Stmt
	for _, p := range k.done {
		out = append(out, p.program...)
	}
	return append(out, l...)
}

// printed: what was printed before.
func (k *kept) printed() string {
	if len(k.done) == 0 {
		return ""
	}
	return k.done[len(k.done)-1].printed
}

package session

import (
	"testing"

	"nurserypy/api"
	"nurserypy/heap"
	"nurserypy/vm"
)

// P4: no run could tell which collections are forced, so it is looked for here: a session has a list of its own of them.
func TestForcesCopied(t *testing.T) {
	setting := vm.Setting{Config: heap.Config{Half: 256, Old: api.MaxWords, Card: 16, Tenure: 1}, Force: []vm.Force{{Step: 1}, {Step: 2}}}
	s, err := New(setting, 10)
	if err != nil {
		t.Fatal(err)
	}
	setting.Force[0].Step = 5
	if f := s.setting.Force; len(f) != 2 || f[0].Step != 1 {
		t.Error(f)
	}
}

// Nothing is kept of what was undone, nor of what was not done.
func TestLetGo(t *testing.T) {
	s, err := New(vm.Setting{Config: heap.Config{Half: 256, Old: api.MaxWords, Card: 16, Tenure: 1}}, 10)
	if err != nil {
		t.Fatal(err)
	}
	if s.kept != nil {
		t.Error("made ahead of its first use")
	}
	for range 3 {
		if _, err := s.Do("print(1)"); err != nil {
			t.Error(err)
		}
	}
	if _, err := s.Do("raise 1"); err != api.ErrShape {
		t.Error(err)
	}
	if err := s.Undo(); err != nil {
		t.Error(err)
	}
	if len(s.done) != 2 {
		t.Error(len(s.done))
	}
	if gone := s.done[:3][2]; gone.program != nil || gone.printed != "" {
		t.Error(gone)
	}
}

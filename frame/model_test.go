package frame

import (
	"slices"
	"testing"

	"clew/api"
)

// list is a store told anew, as the document's words do: its frames in a row, Stop's not among them.
type list struct {
	most   int
	frames []Frame
}

func (l *list) put(f Frame) (int, api.Errno) {
	kindMay := f.Kind == 1 || f.Kind == 2 || f.Kind == 3
	if !kindMay || f.Node < 0 || f.K < 0 || f.From < 0 || f.Next < 0 || f.Next > len(l.frames) {
		return 0, api.ErrArg
	}
	if i := slices.Index(l.frames, f); i >= 0 {
		return i + 1, api.OK
	}
	if len(l.frames) == l.most {
		return 0, api.ErrBig
	}
	l.frames = append(l.frames, f)
	return len(l.frames), api.OK
}

func (l *list) get(id int) (Frame, bool) {
	if id == 0 {
		return Frame{}, true
	}
	if id < 0 || id > len(l.frames) {
		return Frame{}, false
	}
	return l.frames[id-1], true
}

func (l *list) deep(id int) int {
	n := 0
	for id > 0 && id <= len(l.frames) {
		id = l.frames[id-1].Next
		n++
	}
	return n
}

func (l *list) copied() *list { return &list{l.most, slices.Clone(l.frames)} }

// made is a store with room for so many.
func made(t *testing.T, most int) *Store {
	t.Helper()
	s, wrong := New(most)
	if wrong != api.OK || s == nil {
		t.Fatal("no store:", most, wrong)
	}
	return s
}

// put puts a frame into a store, and asks for its number.
func put(t *testing.T, s *Store, f Frame, want int) {
	t.Helper()
	if id, wrong := s.Put(f); id != want || wrong != api.OK {
		t.Errorf("Put(%v): %d, %d instead of %d", f, id, wrong, want)
	}
}

// refused puts a frame that is to be refused.
func refused(t *testing.T, s *Store, f Frame, want api.Errno) {
	t.Helper()
	if id, wrong := s.Put(f); id != 0 || wrong != want {
		t.Errorf("Put(%v): %d, %d instead of 0, %d", f, id, wrong, want)
	}
}

// alike holds all that a store tells against its list.
func alike(t *testing.T, s *Store, l *list) {
	t.Helper()
	if s.Len() != len(l.frames) {
		t.Errorf("Len %d instead of %d", s.Len(), len(l.frames))
	}
	for id := -2; id <= len(l.frames)+2; id++ {
		f, is := s.Get(id)
		wantF, wantIs := l.get(id)
		if f != wantF || is != wantIs {
			t.Errorf("Get(%d): %v %v instead of %v %v", id, f, is, wantF, wantIs)
		}
		if s.Deep(id) != l.deep(id) {
			t.Errorf("Deep(%d): %d instead of %d", id, s.Deep(id), l.deep(id))
		}
	}
}

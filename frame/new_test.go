package frame

import (
	"math"
	"testing"

	"clew/api"
)

// P12.1: most is 0 to 2^20, also where a number cut to fewer digits would be.
func TestNewHoldsMost(t *testing.T) {
	for _, most := range []int{0, 1, 2, 255, 256, 65535, 65536, 1<<20 - 1, 1 << 20} {
		s, wrong := New(most)
		if s == nil || wrong != api.OK {
			t.Error("no store:", most, wrong)
			continue
		}
		if s.Len() != 0 {
			t.Error("a new store has frames:", most, s.Len())
		}
		if f, is := s.Get(0); f != (Frame{}) || !is {
			t.Error("a new store has no Stop:", most, f, is)
		}
		if f, is := s.Get(1); f != (Frame{}) || is {
			t.Error("a new store has a frame 1:", most, f, is)
		}
	}
	for _, most := range []int{-1, -2, -1 << 20, math.MinInt, math.MinInt32, 1<<20 + 1, 1 << 21, 1 << 31, 1 << 32, 1<<32 + 1, math.MinInt + 1, math.MaxInt} {
		if s, wrong := New(most); s != nil || wrong != api.ErrArg {
			t.Error("a store:", most, s, wrong)
		}
	}
}

// P12.1: there is room for so many beside Stop's, and for no more.
func TestRoom(t *testing.T) {
	for _, most := range []int{0, 1, 2, 3, 100, 255, 256, 257, 1000} {
		s := made(t, most)
		for i := range most {
			put(t, s, Frame{Kind: Do, Node: i}, i+1)
			if s.Len() != i+1 {
				t.Error("Len:", most, i, s.Len())
			}
		}
		refused(t, s, Frame{Kind: Do, Node: most}, api.ErrBig)
		if s.Len() != most {
			t.Error("Len of a full one:", most, s.Len())
		}
	}
}

// P12.1, P12.2: the greatest store is filled; each of its frames stands on the one put ahead of it.
func TestGreatestStore(t *testing.T) {
	t.Parallel()
	const most = 1 << 20
	s := made(t, most)
	for i := range most {
		if id, wrong := s.Put(Frame{Kind: Do, Node: 7, Next: i}); id != i+1 || wrong != api.OK {
			t.Fatal("Put:", i, id, wrong)
		}
	}
	refused(t, s, Frame{Kind: Do, Node: 7, Next: most}, api.ErrBig)
	refused(t, s, Frame{Kind: Do, Node: 7, Next: most + 1}, api.ErrArg)
	if s.Len() != most {
		t.Error("Len:", s.Len())
	}
	for id := range most + 1 {
		if s.Deep(id) != id {
			t.Fatal("Deep:", id, s.Deep(id))
		}
		f, is := s.Get(id)
		want := Frame{}
		if id > 0 {
			want = Frame{Kind: Do, Node: 7, Next: id - 1}
		}
		if f != want || !is {
			t.Fatal("Get:", id, f, is)
		}
	}
	for i := range most {
		if id, wrong := s.Put(Frame{Kind: Do, Node: 7, Next: i}); id != i+1 || wrong != api.OK {
			t.Fatal("Put of what is there:", i, id, wrong)
		}
	}
}

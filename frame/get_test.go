package frame

import (
	"math"
	"testing"
)

// P12.2: Get answers Stop's, each frame that is there, and no other.
func TestGet(t *testing.T) {
	s := made(t, 1000)
	var all []Frame
	for i := range 1000 {
		f := Frame{1 + i%3, i, 2 * i, 3 * i, i / 2}
		put(t, s, f, i+1)
		all = append(all, f)
		if f, is := s.Get(i + 2); f != (Frame{}) || is {
			t.Error("the next one is there:", i, f, is)
		}
	}
	for i, want := range all {
		if f, is := s.Get(i + 1); f != want || !is {
			t.Error("Get:", i+1, f, is)
		}
	}
	if f, is := s.Get(0); f != (Frame{}) || !is {
		t.Error("Stop:", f, is)
	}
	for _, id := range []int{math.MinInt, math.MinInt + 1, -1 << 32, -256, -1000, -2, -1, 1001, 1002, 1 << 16, 1 << 20, 1 << 32, 1<<32 + 1, math.MaxInt} {
		if f, is := s.Get(id); f != (Frame{}) || is {
			t.Error("Get:", id, f, is)
		}
		if s.Deep(id) != 0 {
			t.Error("Deep:", id, s.Deep(id))
		}
	}
}

// P12.2: Deep counts the frames from one on up to Stop, along each chain.
func TestDeep(t *testing.T) {
	s := made(t, 100)
	for i := range 10 { // a chain
		put(t, s, Frame{Kind: Do, Node: i, Next: i}, i+1)
	}
	put(t, s, Frame{Kind: Turn}, 11)
	put(t, s, Frame{Kind: Turn, Next: 11}, 12)
	put(t, s, Frame{Kind: Close, Next: 5}, 13) // several on the same one
	put(t, s, Frame{Kind: Turn, Next: 5}, 14)
	put(t, s, Frame{Kind: Do, Next: 5}, 15)
	put(t, s, Frame{Kind: Do, Next: 13}, 16)
	put(t, s, Frame{Kind: Close, Next: 10}, 17)
	put(t, s, Frame{Kind: Close, Next: 0}, 18)
	want := []int{0, 1, 2, 3, 4, 5, 6, 7, 8, 9, 10, 1, 2, 6, 6, 6, 7, 11, 1, 0, 0}
	for id, n := range want {
		if s.Deep(id) != n {
			t.Error("Deep:", id, s.Deep(id), n)
		}
	}
	put(t, s, Frame{Kind: Do, Node: 4, Next: 4}, 5)
	if s.Deep(5) != 5 || s.Deep(-1) != 0 || s.Deep(19) != 0 || s.Deep(math.MinInt) != 0 || s.Deep(math.MaxInt) != 0 {
		t.Error("Deep:", s.Deep(5), s.Deep(-1), s.Deep(19))
	}
}

// R4: a frame handed out is the caller's own.
func TestHandedOut(t *testing.T) {
	s := made(t, 10)
	f := Frame{Turn, 1, 2, 3, 0}
	put(t, s, f, 1)
	before := f
	f.Node, f.Next = 99, 1
	got, _ := s.Get(1)
	got.Kind, got.K, got.Next = Stop, 77, 1
	stop, _ := s.Get(0)
	stop.Kind, stop.Next = Do, 1
	if again, is := s.Get(1); again != before || !is || s.Deep(1) != 1 {
		t.Error("changed within:", again, is, s.Deep(1))
	}
	if again, is := s.Get(0); again != (Frame{}) || !is || s.Deep(0) != 0 {
		t.Error("Stop changed within:", again, is, s.Deep(0))
	}
	put(t, s, before, 1)
	put(t, s, f, 2)
	got.Kind = Do
	put(t, s, got, 3)
}

package frame

import (
	"math"
	"testing"

	"clew/api"
)

// P12.2: the document's example.
func TestExample(t *testing.T) {
	s := made(t, 10)
	put(t, s, Frame{Do, 3, 0, 0, 0}, 1)
	put(t, s, Frame{Close, 4, 0, 2, 1}, 2)
	put(t, s, Frame{Do, 3, 0, 0, 0}, 1)
	if s.Len() != 2 || s.Deep(2) != 2 || s.Deep(1) != 1 || s.Deep(0) != 0 {
		t.Error("example:", s.Len(), s.Deep(2), s.Deep(1), s.Deep(0))
	}
}

// P12.2: the kinds have their numbers, and Do, Turn and Close alone may be put.
func TestKinds(t *testing.T) {
	if Stop != 0 || Do != 1 || Turn != 2 || Close != 3 {
		t.Error("kinds:", Stop, Do, Turn, Close)
	}
	for _, kind := range []int{math.MinInt, math.MinInt + 1, math.MinInt + 3, -256, -255, -3, -2, -1, 0, 4, 5, 255, 256, 257, 259, 1 << 16, 1<<16 + 1, 1<<32 + 1, 1<<32 + 2, 1<<32 + 3, math.MaxInt} {
		s := made(t, 10)
		put(t, s, Frame{Kind: Do}, 1)
		refused(t, s, Frame{Kind: kind}, api.ErrArg)
		refused(t, s, Frame{Kind: kind, Node: 1, K: 2, From: 3, Next: 1}, api.ErrArg)
		if s.Len() != 1 {
			t.Error("Len:", kind, s.Len())
		}
	}
	s := made(t, 10)
	for i, kind := range []int{Do, Turn, Close} {
		put(t, s, Frame{Kind: kind}, i+1)
	}
}

// P12.2: Node, K and From are not below 0; nothing else is asked of them.
func TestFields(t *testing.T) {
	for kind := Do; kind <= Close; kind++ {
		for field := range 3 {
			s := made(t, 100)
			next := 1
			for _, n := range []int{math.MinInt, math.MinInt + 1, -1 << 32, math.MinInt32, -256, -2, -1, 0, 1, 2, 255, 256, 257, 499, 500, 501, 9999, 10000, 10001, 65536, math.MaxInt32, 1 << 31, 1 << 32, 1<<32 + 1, math.MaxInt - 1, math.MaxInt} {
				f := Frame{Kind: kind}
				*[]*int{&f.Node, &f.K, &f.From}[field] = n
				if n < 0 {
					refused(t, s, f, api.ErrArg)
					continue
				}
				put(t, s, f, next)
				if got, is := s.Get(next); got != f || !is {
					t.Error("Get:", f, got, is)
				}
				next++
			}
		}
	}
}

// P12.2: Next is the number of a frame that is there.
func TestNext(t *testing.T) {
	for there := range 4 {
		for _, next := range []int{math.MinInt, -1 << 32, -256, -2, -1, 0, 1, 2, 3, 4, 5, 255, 256, 257, 65536, 1 << 20, 1<<20 + 1, 1 << 32, 1<<32 + 1, math.MaxInt} {
			s := made(t, 10)
			for i := range there {
				put(t, s, Frame{Kind: Turn, K: i, Next: i}, i+1)
			}
			f := Frame{Kind: Do, Node: 1, Next: next}
			if next < 0 || next > there {
				refused(t, s, f, api.ErrArg)
				put(t, s, Frame{Kind: Close}, there+1)
			} else {
				put(t, s, f, there+1)
			}
		}
	}
}

// P12.2, P12.3: frames that differ in one field alone are others; whole ones are the same.
func TestOneFieldAlone(t *testing.T) {
	s := made(t, 100)
	put(t, s, Frame{Kind: Do}, 1)
	put(t, s, Frame{Kind: Do, Next: 1}, 2)
	first := Frame{Do, 5, 6, 7, 1}
	put(t, s, first, 3)
	others := []Frame{
		{Turn, 5, 6, 7, 1}, {Close, 5, 6, 7, 1},
		{Do, 6, 6, 7, 1}, {Do, 5 + 256, 6, 7, 1}, {Do, 5 + 1<<32, 6, 7, 1},
		{Do, 5, 7, 7, 1}, {Do, 5, 6 + 256, 7, 1}, {Do, 5, 6 + 1<<32, 7, 1},
		{Do, 5, 6, 6, 1}, {Do, 5, 6, 7 + 256, 1}, {Do, 5, 6, 7 + 1<<32, 1},
		{Do, 5, 6, 7, 0}, {Do, 5, 6, 7, 2},
		{Do, 6, 5, 7, 1}, {Do, 7, 6, 5, 1}, {Do, 5, 7, 6, 1}, {Do, 1, 6, 7, 1},
	}
	for i, f := range others {
		put(t, s, f, i+4)
	}
	for i, f := range others {
		put(t, s, f, i+4)
		put(t, s, first, 3)
	}
	if s.Len() != len(others)+3 {
		t.Error("Len:", s.Len())
	}
}

// P12.2, P12.3: the same frame has the same number, at once and with others between.
func TestSameAgain(t *testing.T) {
	s := made(t, 100)
	f, g := Frame{Kind: Turn, Node: 2, K: 1, From: 9}, Frame{Kind: Close, Node: 2, From: 9}
	put(t, s, f, 1)
	put(t, s, f, 1)
	put(t, s, f, 1)
	put(t, s, g, 2)
	put(t, s, f, 1)
	for i := range 50 {
		put(t, s, Frame{Kind: Do, Node: i, Next: i}, i+3)
		put(t, s, f, 1)
		put(t, s, g, 2)
		if s.Len() != i+3 {
			t.Error("Len:", s.Len())
		}
	}
}

// P12.2: a full store tells the number of what is there, ErrArg of what may not be, and of others ErrBig.
func TestFull(t *testing.T) {
	none := made(t, 0)
	refused(t, none, Frame{Kind: Do}, api.ErrBig)
	refused(t, none, Frame{}, api.ErrArg)
	refused(t, none, Frame{Kind: Do, Next: 1}, api.ErrArg)
	refused(t, none, Frame{Kind: Do, Node: -1}, api.ErrArg)
	alike(t, none, &list{})
	s := made(t, 2)
	f, g := Frame{Kind: Do, Node: 1}, Frame{Kind: Turn, Node: 2, Next: 1}
	put(t, s, f, 1)
	put(t, s, g, 2)
	for range 3 {
		refused(t, s, Frame{Kind: Do, Node: 3}, api.ErrBig)
		refused(t, s, Frame{Kind: Do, Node: 1, Next: 2}, api.ErrBig)
		refused(t, s, Frame{Kind: Close, Node: 1}, api.ErrBig)
		for _, bad := range []Frame{{}, {Kind: 4}, {Kind: -1}, {Kind: Do, Node: -1}, {Kind: Do, K: -1}, {Kind: Do, From: -1}, {Kind: Do, Next: -1}, {Kind: Do, Next: 3}, {Kind: Do, Node: 1, Next: 3}, {Node: 1}} {
			refused(t, s, bad, api.ErrArg)
		}
		put(t, s, f, 1)
		put(t, s, g, 2)
		alike(t, s, &list{2, []Frame{f, g}})
	}
}

// P12.2, R2: what is refused changes nothing: not what is there, nor which number comes next.
func TestRefusedChangesNothing(t *testing.T) {
	l := &list{most: 6}
	s := made(t, 6)
	bad := []Frame{{}, {Kind: 4}, {Kind: Do, Node: -1}, {Kind: Turn, K: -1}, {Kind: Close, From: -1}, {Kind: Do, Next: -1}, {Kind: Do, Next: 7}, {Kind: Do, Node: 9, Next: math.MaxInt}}
	for i := range 6 {
		for _, f := range bad {
			refused(t, s, f, api.ErrArg)
		}
		refused(t, s, Frame{Kind: Do, Node: 77, Next: i + 1}, api.ErrArg)
		alike(t, s, l)
		f := Frame{Kind: Do, Node: 77, Next: i}
		l.put(f)
		put(t, s, f, i+1)
		alike(t, s, l)
	}
	for _, f := range bad {
		refused(t, s, f, api.ErrArg)
	}
	refused(t, s, Frame{Kind: Do, Node: 77, Next: 6}, api.ErrBig)
	alike(t, s, l)
}

// P12.2, P12.3: whatever is put, in whatever order, a store tells what a list of its frames does; Next is below each number.
func TestAgainstList(t *testing.T) {
	for _, most := range []int{0, 1, 5, 30, 200, 5000} {
		s, l := made(t, most), &list{most: most}
		drawn := uint32(most + 1)
		draw := func(n int) int {
			drawn = drawn*1664525 + 1013904223
			return int(drawn>>8) % n
		}
		for range 3000 {
			f := Frame{draw(6) - 1, draw(5) - 1, draw(4) - 1, draw(4) - 1, draw(len(l.frames)+4) - 2}
			if draw(2) == 0 {
				f = Frame{1 + draw(3), draw(3), draw(2), draw(2), draw(min(len(l.frames), 8) + 1)}
			}
			id, wrong := s.Put(f)
			wantId, wantWrong := l.put(f)
			if id != wantId || wrong != wantWrong {
				t.Fatal("Put:", most, f, id, wrong, wantId, wantWrong)
			}
			if f, is := s.Get(id); id > 0 && (!is || f.Next >= id) {
				t.Fatal("Next is not below:", id, f, is)
			}
		}
		alike(t, s, l)
	}
}

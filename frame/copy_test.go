package frame

import (
	"sync"
	"testing"

	"clew/api"
)

// R5: two stores know nothing of one another, also where they are asked by turns.
func TestTwoStores(t *testing.T) {
	s, o := made(t, 5), made(t, 3)
	sList, oList := &list{most: 5}, &list{most: 3}
	for i := range 8 {
		f, g := Frame{Kind: Do, Node: i, Next: 0}, Frame{Kind: Turn, Node: 7 - i, Next: i / 3}
		for _, f := range []Frame{f, g} {
			id, wrong := s.Put(f)
			if wantId, want := sList.put(f); id != wantId || wrong != want {
				t.Error("the one:", f, id, wrong, wantId, want)
			}
			alike(t, o, oList)
		}
		for _, f := range []Frame{g, f} {
			id, wrong := o.Put(f)
			if wantId, want := oList.put(f); id != wantId || wrong != want {
				t.Error("the other one:", f, id, wrong, wantId, want)
			}
			alike(t, s, sList)
		}
	}
}

// R7: a copy tells what its original told then, and each goes its own way, whichever goes on first.
func TestCopies(t *testing.T) {
	for _, first := range []int{0, 1} {
		for there := range 6 {
			s, l := made(t, 9), &list{most: 9}
			for i := range there {
				f := Frame{Kind: Do, Node: i, Next: i}
				l.put(f)
				put(t, s, f, i+1)
			}
			c := *s
			both, lists := []*Store{s, &c}, []*list{l, l.copied()}
			for i := range 2 {
				which := (first + i) % 2
				for k := range 6 {
					f := Frame{Kind: Turn, Node: 10*which + k/2, Next: min(k, there)}
					id, wrong := both[which].Put(f)
					if wantId, want := lists[which].put(f); id != wantId || wrong != want {
						t.Error("Put:", first, there, which, f, id, wrong, wantId, want)
					}
					alike(t, s, lists[0])
					alike(t, &c, lists[1])
				}
			}
		}
	}
}

// R7: a copy is kept through all that its original does, and is put back into it; copies of copies too.
func TestPutBack(t *testing.T) {
	const most = 40
	s, l := made(t, most), &list{most: most}
	var kept []Store
	var keptLists []*list
	drawn := uint32(5)
	draw := func(n int) int {
		drawn = drawn*1664525 + 1013904223
		return int(drawn>>8) % n
	}
	for i := range 20000 {
		k := draw(len(kept) + 1)
		f := Frame{Kind: 1 + draw(2), Node: draw(30), Next: draw(3)}
		switch draw(12) {
		case 0:
			kept, keptLists = append(kept, *s), append(keptLists, l.copied())
		case 1:
			if k > 0 {
				*s, l = kept[k-1], keptLists[k-1].copied()
			}
		case 2: // one that is kept goes on by itself
			if k > 0 {
				kept[k-1].Put(f)
				keptLists[k-1].put(f)
			}
		case 3:
			if len(l.frames) == most {
				*s, l = *made(t, most), &list{most: most}
			}
		default:
			id, wrong := s.Put(f)
			if wantId, want := l.put(f); id != wantId || wrong != want {
				t.Fatal("Put:", i, f, id, wrong, wantId, want)
			}
		}
		if len(kept) > 20 {
			kept, keptLists = append([]Store(nil), kept[5:]...), keptLists[5:]
		}
	}
	alike(t, s, l)
	for i := range kept {
		alike(t, &kept[i], keptLists[i])
	}
}

// R7: what a copy does at the same time as its original is its own.
func TestCopiesAtOnce(t *testing.T) {
	s := made(t, 1000)
	for i := range 100 {
		put(t, s, Frame{Kind: Do, Node: i, Next: i}, i+1)
	}
	copies := make([]Store, 8)
	for i := range copies {
		copies[i] = *s
	}
	goOn := func(s *Store, from int) {
		for i := range 500 {
			if id, wrong := s.Put(Frame{Kind: Turn, Node: from + i, Next: 100 + i}); id != 101+i || wrong != api.OK {
				t.Error("Put:", from, i, id, wrong)
			}
			if id, wrong := s.Put(Frame{Kind: Do, Node: i % 100, Next: i % 100}); id != i%100+1 || wrong != api.OK {
				t.Error("Put of what is there:", from, i, id, wrong)
			}
		}
		for i := range 500 {
			if f, is := s.Get(101 + i); f != (Frame{Kind: Turn, Node: from + i, Next: 100 + i}) || !is || s.Deep(101+i) != 101+i {
				t.Error("Get:", from, i, f, is)
			}
		}
	}
	var waiting sync.WaitGroup
	begin := make(chan int)
	for i := range copies {
		waiting.Go(func() {
			<-begin
			goOn(&copies[i], 1000*i)
		})
	}
	close(begin)
	waiting.Go(func() { goOn(s, 8000) })
	waiting.Wait()
}

// R5: a store that is only asked may be asked by many at once, in any order.
func TestAskedAtOnce(t *testing.T) {
	s, l := made(t, 50), &list{most: 50}
	for i := range 40 {
		f := Frame{Kind: 1 + i%3, Node: i, Next: i / 2}
		l.put(f)
		put(t, s, f, i+1)
	}
	var waiting sync.WaitGroup
	for range 8 {
		waiting.Go(func() {
			for range 20 {
				alike(t, s, l)
			}
		})
	}
	waiting.Wait()
}

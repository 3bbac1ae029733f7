package step

import (
	"slices"
	"sync"
	"testing"

	"clew/api"
	"clew/frame"
)

// R7: a copy tells what its original told then, and each goes its own way, whichever goes on first.
func TestCopies(t *testing.T) {
	const pattern, text = "(a|b)*c(?<=bc)", "abbc"
	whole := made(t, pattern, text)
	want := searched(t, whole, len(text))
	for _, first := range []int{0, 1} {
		for places := range len(text) + 2 {
			m := made(t, pattern, text)
			if places > 0 {
				searched(t, m, places-1)
			}
			there := framesOf(m)
			c := *m
			both := []*Machine{m, &c}
			one, other := both[first], both[1-first]
			if got := searched(t, one, len(text)); !slices.Equal(got, want) || one.Len() != whole.Len() {
				t.Error("the one that goes on:", first, places, got)
			}
			holdFrames(t, other, there...)
			lay(t, other, frame.Frame{Kind: frame.Do, Node: 0, K: 9}, len(there)+1)
			holdFrames(t, one, framesOf(whole)...)
			if got := searched(t, other, len(text)); !slices.Equal(got, want) || len(there) < whole.Len() && other.Len() != whole.Len()+1 {
				t.Error("the other one:", first, places, got, other.Len())
			}
			holdFrames(t, one, framesOf(whole)...)
		}
	}
}

// R7: a copy that is put back is what the machine was then.
func TestPutBack(t *testing.T) {
	m := made(t, "(a|b)c", "bc")
	c, _ := m.Begin(0)
	kept := *m
	want := searched(t, m, 2)
	whole := framesOf(m)
	*m = kept
	holdFrames(t, m, doOf(5, 0))
	if got := searched(t, m, 2); !slices.Equal(got, want) {
		t.Error("what was put back:", got, want)
	}
	holdFrames(t, m, whole...)
	holdFrames(t, &kept, doOf(5, 0))
	if step, wrong := kept.Next(c); step.Kind != Go || wrong != api.OK || kept.Len() != 3 {
		t.Error("the copy:", step, wrong, kept.Len())
	}
}

// R5: machines know nothing of one another, also at the same time, and copies neither.
func TestMachinesAtOnce(t *testing.T) {
	const pattern, text = "(?:(a|ab)(?=b)|b)*?c", "ababbabc"
	want := searched(t, made(t, pattern, text), len(text))
	m := made(t, pattern, text)
	searched(t, m, 3)
	copies := make([]Machine, 6)
	for i := range copies {
		copies[i] = *m
	}
	got := make([][]string, 12)
	var waiting sync.WaitGroup
	for i := range got {
		waiting.Go(func() {
			one := m
			switch {
			case i < len(copies):
				one = &copies[i]
			case i > len(copies):
				one, _ = New(parsed(t, pattern), text, room)
			}
			for at := range len(text) + 1 {
				r := runner{t: t, m: one, most: 1 << 16}
				got[i] = append(got[i], r.fromPlace(at))
			}
		})
	}
	waiting.Wait()
	for i := range got {
		if !slices.Equal(got[i], want) {
			t.Error("machine", i, got[i], want)
		}
	}
}

// R5: in which order one asks changes the frames' numbers, but not where runs end.
func TestOrderOfPlaces(t *testing.T) {
	const pattern, text = "(a|b)*?(?!b)c|(?>a|ab)b", "ababcab"
	want := searched(t, made(t, pattern, text), len(text))
	m := made(t, pattern, text)
	for round := range 3 {
		for at := len(text); at >= 0; at-- {
			r := runner{t: t, m: m, most: 1 << 16}
			if got := r.fromPlace(at); got != want[at] {
				t.Error("in round", round, "from", at, got, want[at])
			}
		}
	}
	if m.Len() != lenOf(t, pattern, text) {
		t.Error("other frames were put:", m.Len())
	}
}

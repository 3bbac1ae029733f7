package step

import (
	"testing"

	"clew/caps"
	"clew/frame"
)

// What a Turn does, in the tables below.
const (
	fail  = iota // it fails, as it went no further
	end          // it goes to what is next
	must         // it goes on with one turn more
	might        // it has a choice: one turn more, or what is next
)

// A turnRow tries a Turn, behind k turns, at the place 3: further, if the last one went further; again is the K that is put.
type turnRow struct {
	often   string
	k       int
	further bool
	does    int
	again   int
}

// hold tries the row in a mode: what is put, and the step.
func (r turnRow) hold(t *testing.T, mode string) {
	t.Helper()
	const at = 3
	from := at
	if r.further {
		from = r.k % at
	}
	m := setting(t, "a"+r.often+mode, "aaaaa", turning(1, r.k, from, 0))
	var put []frame.Frame
	if r.does >= must {
		put = []frame.Frame{turning(1, r.again, at, 1), doOf(0, 3)}
	}
	want := [...]Step{fail: fails, end: goes(1, at), must: goes(4, at), might: either(4, 1, at)}[r.does]
	if r.does == might && mode == "?" {
		want = either(1, 4, at)
	}
	holdNext(t, m, Config{2, at, odd()}, want)
	holdFrames(t, m, append([]frame.Frame{marker, turning(1, r.k, from, 1)}, put...)...)
	if t.Failed() {
		t.Fatal("in", r, mode)
	}
}

// P13.3: Turn with K below Min, at Min, at Min and one more, at Max, and above, with and without an end; went it no further or not.
func TestTurn(t *testing.T) {
	for _, r := range []turnRow{
		{"{2,4}", 0, false, must, 1}, {"{2,4}", 1, false, must, 2}, {"{2,4}", 2, false, might, 3}, {"{2,4}", 3, false, fail, 0}, {"{2,4}", 4, false, fail, 0}, {"{2,4}", 5, false, fail, 0},
		{"{2,4}", 0, true, must, 1}, {"{2,4}", 1, true, must, 2}, {"{2,4}", 2, true, might, 3}, {"{2,4}", 3, true, might, 4}, {"{2,4}", 4, true, end, 0}, {"{2,4}", 5, true, might, 6}, {"{2,4}", 1000, true, might, 1001},
		{"{2,}", 0, false, must, 1}, {"{2,}", 1, false, must, 2}, {"{2,}", 2, false, might, 3}, {"{2,}", 3, false, fail, 0}, {"{2,}", 4, false, fail, 0},
		{"{2,}", 0, true, must, 1}, {"{2,}", 1, true, must, 2}, {"{2,}", 2, true, might, 3}, {"{2,}", 3, true, might, 3}, {"{2,}", 4, true, might, 3}, {"{2,}", 1000, true, might, 3},
		{"*", 0, false, might, 1}, {"*", 1, false, fail, 0}, {"*", 2, false, fail, 0}, {"*", 0, true, might, 1}, {"*", 1, true, might, 1}, {"*", 2, true, might, 1}, {"*", 9, true, might, 1},
		{"+", 0, false, must, 1}, {"+", 1, false, might, 2}, {"+", 2, false, fail, 0}, {"+", 0, true, must, 1}, {"+", 1, true, might, 2}, {"+", 2, true, might, 2},
		{"?", 0, false, might, 1}, {"?", 1, false, fail, 0}, {"?", 2, false, fail, 0}, {"?", 0, true, might, 1}, {"?", 1, true, end, 0}, {"?", 2, true, might, 3},
		{"{0}", 0, false, end, 0}, {"{0}", 0, true, end, 0}, {"{0}", 1, false, fail, 0}, {"{0}", 1, true, might, 2},
		{"{2}", 0, false, must, 1}, {"{2}", 1, false, must, 2}, {"{2}", 2, false, end, 0}, {"{2}", 2, true, end, 0}, {"{2}", 3, false, fail, 0}, {"{2}", 3, true, might, 4},
		{"{1,2}", 1, false, might, 2}, {"{1,2}", 2, false, fail, 0}, {"{1,2}", 2, true, end, 0},
		{"{0,100}", 99, true, might, 100}, {"{0,100}", 100, true, end, 0}, {"{0,100}", 101, true, might, 102},
		{"{100}", 99, false, must, 100}, {"{100}", 100, false, end, 0},
		{"{100,}", 99, true, must, 100}, {"{100,}", 100, false, might, 101}, {"{100,}", 101, true, might, 101}, {"{100,}", 101, false, fail, 0},
	} {
		for _, mode := range []string{"", "?", "+"} {
			r.hold(t, mode)
		}
	}
}

// P13.3: a Turn at the text's ends, and one that began at the text's begin.
func TestTurnAtTheEnds(t *testing.T) {
	m := setting(t, "a*", "aa", turning(1, 1, 0, 0))
	holdNext(t, m, Config{2, 0, odd()}, fails)
	holdNext(t, m, Config{2, 2, odd()}, either(4, 1, 2))
	holdFrames(t, m, marker, turning(1, 1, 0, 1), turning(1, 1, 2, 1), doOf(0, 3))
	m = setting(t, "a*", "", turning(1, 0, 0, 0))
	holdNext(t, m, Config{2, 0, odd()}, either(4, 1, 0))
	holdFrames(t, m, marker, turning(1, 0, 0, 1), turning(1, 1, 0, 1), doOf(0, 3))
}

// P13.3: a Turn of a repeat within others tells of its own node, and its own child.
func TestTurnOfANodeWithin(t *testing.T) {
	// Nodes: 0 a, 1 b, 2 Alt, 3 Group, 4 Repeat 1 to 3, 5 c, 6 Cat.
	m := setting(t, "(a|b){1,3}?c", "abc", turning(4, 1, 1, 0))
	holdNext(t, m, Config{2, 2, odd()}, either(1, 4, 2))
	holdFrames(t, m, marker, turning(4, 1, 1, 1), turning(4, 2, 2, 1), doOf(3, 3))
}

// P13.3: without an end turns are counted to Min and one more, and no further: what goes on anew from a place is the frame that was there.
func TestTurnsAreCountedNoFurther(t *testing.T) {
	m := made(t, "a{2,}", "aaaaaa")
	c, _ := m.Begin(0)
	step, _ := m.Next(c)
	for want := range 7 {
		turn, _ := m.frames.Get(step.A.Frame)
		if turn != turning(1, min(want, 3), max(want-1, 0), 0) || step.A.Pos != want {
			t.Error("the Turn is", turn, "at", step.A.Pos, "behind", want)
		}
		step, _ = m.Next(step.A) // a turn more
		step, _ = m.Next(step.A) // its byte
	}
	if step != fails {
		t.Error("no byte stands there:", step)
	}
}

// P13.3: Close sets its group anew, and leaves the others as they are.
func TestClose(t *testing.T) {
	// Nodes: 0 a, 1 Group of 1, 2 b, 3 Group of 2, 4 Cat.
	const pattern = "(a)(b)"
	with := func(c caps.Caps, g, from, to int) caps.Caps {
		c.Is[g-1], c.At[g-1] = true, [2]int{from, to}
		return c
	}
	for _, before := range []caps.Caps{{}, odd(), capsOf(t, 1, 1, 2), capsOf(t, 2, 0, 1), capsOf(t, 1, 0, 4, 2, 4, 4, 9, 0, 1)} {
		for from := range 5 {
			for pos := from; pos < 5; pos++ {
				for node, group := range map[int]int{1: 1, 3: 2} {
					m := setting(t, pattern, "abab", closing(node, from, 0))
					holdNext(t, m, Config{2, pos, before}, Step{Kind: Go, A: Config{1, pos, with(before, group, from, pos)}})
					holdFrames(t, m, marker, closing(node, from, 1))
				}
			}
		}
	}
}

// P13.3: the ninth group, at the end of the longest text.
func TestCloseAtTheLimits(t *testing.T) {
	m := made(t, "()()()()()()()()()", string(make([]byte, 10000)))
	for node, n := range m.nodes {
		if n.N != 9 {
			continue
		}
		lay(t, m, closing(node, 0, 0), 1)
		lay(t, m, closing(node, 10000, 0), 2)
		holdNext(t, m, Config{Frame: 1, Pos: 10000}, Step{Kind: Go, A: Config{0, 10000, capsOf(t, 9, 0, 10000)}})
		holdNext(t, m, Config{Frame: 2, Pos: 10000}, Step{Kind: Go, A: Config{0, 10000, capsOf(t, 9, 10000, 10000)}})
	}
	if m.Len() != 2 {
		t.Error("no ninth group")
	}
}

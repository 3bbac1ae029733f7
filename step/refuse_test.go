package step

import (
	"testing"

	"clew/api"
	"clew/caps"
	"clew/frame"
)

const least, greatest = -1 << 63, 1<<63 - 1

// P13.3: a config whose frame is none.
func TestNextOfNoFrame(t *testing.T) {
	m := made(t, "ab", "ab")
	for there := range 3 {
		for _, id := range []int{-1, there + 1, there + 2, room, least, greatest} {
			for at := -1; at <= 3; at++ {
				refused(t, m, Config{id, at, odd()}, api.ErrArg, 0)
			}
		}
		lay(t, m, doOf(0, there), there+1)
	}
}

// P13.3: a config whose place is none, of each kind of frames.
func TestNextOfNoPlace(t *testing.T) {
	// Nodes: 0 a, 1 Group, 2 Repeat.
	for _, s := range []string{"", "a", "abc"} {
		m := made(t, "(a)*", s)
		for id, f := range []frame.Frame{doOf(0, 0), doOf(1, 0), doOf(2, 0), turning(2, 0, 0, 0), closing(1, 0, 0)} {
			lay(t, m, f, id+1)
		}
		for id := range m.Len() + 1 {
			for _, at := range []int{-1, -2, len(s) + 1, len(s) + 2, least, greatest} {
				refused(t, m, Config{id, at, odd()}, api.ErrArg, 0)
			}
			for at := range len(s) + 1 {
				if _, wrong := m.Next(Config{Frame: id, Pos: at}); wrong != api.OK {
					t.Error("Next is refused:", s, id, at, wrong)
				}
			}
		}
	}
}

// P13.3: a config whose frame's node is none, or not of its kind.
func TestNextOfWrongNodes(t *testing.T) {
	// Nodes: 0 a, 1 Group, 2 Repeat, 3 Empty, 4 Cat.
	const nodes = 5
	m := made(t, "(a)*(?:)", "aa")
	if len(m.nodes) != nodes {
		t.Fatal("the tree is another one:", m.nodes)
	}
	id := 0
	for _, kind := range []int{frame.Do, frame.Turn, frame.Close} {
		for _, node := range []int{0, 1, 2, 3, 4, 5, 6, 1000, greatest} {
			id++
			lay(t, m, frame.Frame{Kind: kind, Node: node}, id)
			may := kind == frame.Do && node < nodes || kind == frame.Turn && node == 2 || kind == frame.Close && node == 1
			for at := range 3 {
				if !may {
					refused(t, m, Config{id, at, odd()}, api.ErrArg, 0)
				}
			}
		}
	}
	there := m.Len()
	for id := range there + 1 {
		f, _ := m.frames.Get(id)
		may := f.Kind == frame.Stop || f.Kind == frame.Do && f.Node < nodes || f.Kind == frame.Turn && f.Node == 2 || f.Kind == frame.Close && f.Node == 1
		if _, wrong := m.Next(Config{Frame: id, Pos: 1}); (wrong == api.OK) != may {
			t.Error("Next:", f, wrong)
		}
	}
}

// P13.3: a Turn or a Close that began behind where one is; of Do From counts for nothing.
func TestNextOfWhatBeganBehind(t *testing.T) {
	// Nodes: 0 a, 1 Group, 2 Repeat.
	for from := range 6 {
		m := made(t, "(a)*", "aaa")
		lay(t, m, marker, 1)
		lay(t, m, turning(2, 0, from, 1), 2)
		lay(t, m, closing(1, from, 1), 3)
		lay(t, m, frame.Frame{Kind: frame.Do, Node: 0, K: 4, From: from, Next: 1}, 4)
		for pos := range 4 {
			if from > pos {
				refused(t, m, Config{2, pos, odd()}, api.ErrArg, 0)
				refused(t, m, Config{3, pos, odd()}, api.ErrArg, 0)
			} else {
				for _, id := range []int{2, 3} {
					if _, wrong := m.Next(Config{id, pos, odd()}); wrong != api.OK {
						t.Error("Next is refused:", from, pos, id, wrong)
					}
				}
			}
			want := fails
			if pos < 3 {
				want = goes(1, pos+1)
			}
			holdNext(t, m, Config{4, pos, odd()}, want)
		}
	}
	m := made(t, "(a)*", "aaa")
	lay(t, m, turning(2, 0, greatest, 0), 1)
	lay(t, m, closing(1, greatest, 0), 2)
	refused(t, m, Config{1, 3, odd()}, api.ErrArg, 0)
	refused(t, m, Config{2, 3, odd()}, api.ErrArg, 0)
}

// A fullRow is a frame whose step puts so many frames.
type fullRow struct {
	pattern string
	f       frame.Frame
	at      int
	puts    int
}

func fullRows() []fullRow {
	return []fullRow{
		{"ab", doOf(2, 0), 0, 2}, {"a|b", doOf(2, 0), 1, 2}, {"(a)", doOf(1, 0), 2, 2},
		{"a*", turning(1, 0, 0, 0), 0, 2}, {"a*?", turning(1, 1, 0, 0), 1, 2}, {"a{2,3}", turning(1, 0, 1, 0), 1, 2}, {"a{2,3}", turning(1, 2, 1, 0), 1, 2},
		{"a*", doOf(1, 0), 0, 1}, {"a*?", doOf(1, 0), 0, 1}, {"a*+", doOf(1, 0), 0, 1}, {"(?=a)", doOf(1, 0), 0, 1}, {"(?!a)", doOf(1, 0), 0, 1}, {"(?>a)", doOf(1, 0), 0, 1}, {"(?<=a)", doOf(1, 0), 1, 1}, {"(?<!a)", doOf(1, 0), 1, 1},
		{"(?<=a)", doOf(1, 0), 0, 0}, {"(?<!a)", doOf(1, 0), 0, 0}, {"a", doOf(0, 0), 0, 0}, {"(?:)", doOf(0, 0), 2, 0}, {"^", doOf(0, 0), 0, 0}, {"a{3}", turning(1, 3, 0, 0), 2, 0}, {"a*", turning(1, 1, 1, 0), 1, 0}, {"(a)", closing(1, 0, 0), 2, 0},
	}
}

// P13.3: where room ends at the first frame that is put, or at the second one: what was put ahead of that stays, and nothing else is changed.
func TestNextWithNoRoom(t *testing.T) {
	for _, r := range fullRows() {
		wide := setting(t, r.pattern, "aab", r.f)
		c := Config{2, r.at, odd()}
		want, wrong := wide.Next(c)
		if wrong != api.OK || wide.Len() != 2+r.puts {
			t.Fatal("the row is wrong:", r, want, wrong, wide.Len())
		}
		for more := range r.puts + 2 {
			m := machineOf(t, parsed(t, r.pattern), "aab", 2+more)
			laid := r.f
			laid.Next = 1
			lay(t, m, marker, 1)
			lay(t, m, laid, 2)
			if more >= r.puts {
				holdNext(t, m, c, want)
				holdFrames(t, m, framesOf(wide)...)
				continue
			}
			refused(t, m, c, api.ErrBig, more)
			refused(t, m, c, api.ErrBig, 0)
			refused(t, m, Config{2, -1, odd()}, api.ErrArg, 0)
			refused(t, m, Config{3 + more, r.at, odd()}, api.ErrArg, 0)
			holdFrames(t, m, framesOf(wide)[:2+more]...)
			holdNext(t, m, Config{0, r.at, odd()}, Step{Kind: Done})
			if _, wrong := m.Begin(4); wrong != api.ErrArg {
				t.Error("Begin behind what was refused:", r, more, wrong)
			}
		}
	}
}

// P13.3: what was put ahead of the end of room can be gone on from.
func TestWhatWasPutStays(t *testing.T) {
	m := machineOf(t, parsed(t, "a|b"), "ab", 2)
	c, _ := m.Begin(0)
	refused(t, m, c, api.ErrBig, 1)
	holdNext(t, m, Config{2, 0, odd()}, goes(0, 1))
	holdNext(t, m, Config{2, 1, odd()}, fails)
	holdFrames(t, m, doOf(2, 0), doOf(0, 0))
}

// P13.3: a step whose frames are there needs no room.
func TestNextOfWhatIsThereNeedsNoRoom(t *testing.T) {
	for _, r := range fullRows() {
		wide := setting(t, r.pattern, "aab", r.f)
		c := Config{2, r.at, odd()}
		want, _ := wide.Next(c)
		m := machineOf(t, parsed(t, r.pattern), "aab", wide.Len())
		for id, f := range framesOf(wide) {
			lay(t, m, f, id+1)
		}
		holdNext(t, m, c, want)
		holdFrames(t, m, framesOf(wide)...)
	}
}

// P13.3: a Next that is refused changes nothing that a whole search could tell.
func TestRefusedAmongOthers(t *testing.T) {
	for _, p := range []string{"(a|b)*(?<=b)c", "(?:(a+)b|a\\1?)*?c", "(?>a|ab)(?!c)"} {
		const s = "abaababc"
		want := searched(t, made(t, p, s), len(s))
		m := made(t, p, s)
		refuse := func() {
			for _, c := range []Config{{Frame: m.Len() + 1}, {Frame: -1}, {Frame: m.Len(), Pos: len(s) + 1}, {Pos: -1}, {Frame: m.Len() / 2, Pos: -1, Caps: odd()}} {
				refused(t, m, c, api.ErrArg, 0)
			}
			if c, wrong := m.Begin(len(s) + 1); c != (Config{}) || wrong != api.ErrArg {
				t.Error("Begin:", c, wrong)
			}
		}
		var got []string
		for at := range len(s) + 1 {
			r := runner{t: t, m: m, most: 100000, ahead: refuse}
			got = append(got, r.fromPlace(at))
		}
		if len(got) != len(want) {
			t.Fatal("there are more places:", got, want)
		}
		for at := range got {
			if got[at] != want[at] {
				t.Error("the run of", p, "from", at, "ends", got[at], "instead of", want[at])
			}
		}
		if m.Len() != lenOf(t, p, s) {
			t.Error("more frames were put:", m.Len(), lenOf(t, p, s))
		}
	}
	if got, wrong := made(t, "a", "a").Next(Config{Frame: 0, Pos: 0, Caps: caps.Caps{}}); got != (Step{Kind: Done}) || wrong != api.OK {
		t.Error("Stop of a machine without frames:", got, wrong)
	}
}

// lenOf is how many frames a whole search of all places puts.
func lenOf(t *testing.T, p, s string) int {
	t.Helper()
	m := made(t, p, s)
	searched(t, m, len(s))
	return m.Len()
}

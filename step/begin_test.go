package step

import (
	"strings"
	"testing"

	"clew/api"
)

func holdBegin(t *testing.T, m *Machine, at int, want Config, wrong api.Errno) {
	t.Helper()
	if c, got := m.Begin(at); c != want || got != wrong {
		t.Errorf("Begin(%d) = %v, %d instead of %v, %d", at, c, got, want, wrong)
	}
}

// P13.2: the root is put once, whatever the place is; a place that is none puts nothing.
func TestBegin(t *testing.T) {
	for pattern, root := range map[string]int{"": 0, "a": 0, "ab": 2, "(a|b)*": 4, "(?=a)b|c": 5} {
		for _, s := range []string{"", "a", "abc", strings.Repeat("b", api.MaxText)} {
			m := made(t, pattern, s)
			none := []int{-1, -2, len(s) + 1, len(s) + 2, -1 << 63, 1<<63 - 1}
			for _, at := range none {
				holdBegin(t, m, at, Config{}, api.ErrArg)
				holdFrames(t, m)
			}
			for _, at := range []int{len(s), 0, len(s) / 2, 0} {
				holdBegin(t, m, at, Config{Frame: 1, Pos: at}, api.OK)
				holdFrames(t, m, doOf(root, 0))
			}
			for _, at := range none {
				holdBegin(t, m, at, Config{}, api.ErrArg)
				holdFrames(t, m, doOf(root, 0))
			}
		}
	}
}

// P13.2: with no room the root can't be put; a place that is none is told ahead of that.
func TestBeginWithNoRoom(t *testing.T) {
	m := machineOf(t, parsed(t, "ab"), "ab", 0)
	for range 2 {
		for at := range 3 {
			holdBegin(t, m, at, Config{}, api.ErrBig)
			holdFrames(t, m)
		}
		holdBegin(t, m, -1, Config{}, api.ErrArg)
		holdBegin(t, m, 3, Config{}, api.ErrArg)
	}
	holdNext(t, m, Config{}, Step{Kind: Done})
}

// P13.2: where the room is used up by others; a root that is there needs no more.
func TestBeginInAFullMachine(t *testing.T) {
	m := machineOf(t, parsed(t, "ab"), "ab", 1)
	lay(t, m, marker, 1)
	holdBegin(t, m, 0, Config{}, api.ErrBig)
	holdFrames(t, m, marker)
	m = machineOf(t, parsed(t, "ab"), "ab", 2)
	lay(t, m, marker, 1)
	for range 2 {
		holdBegin(t, m, 2, Config{Frame: 2, Pos: 2}, api.OK)
		holdFrames(t, m, marker, doOf(2, 0))
	}
}

// P13.2: a root of which frames of another Next are there is another frame.
func TestBeginIsWithNext0(t *testing.T) {
	m := made(t, "a", "a")
	lay(t, m, marker, 1)
	lay(t, m, doOf(0, 1), 2)
	holdBegin(t, m, 0, Config{Frame: 3}, api.OK)
	holdFrames(t, m, marker, doOf(0, 1), doOf(0, 0))
}

// The document's example: of a|b Begin, then Choice of two.
func TestExample(t *testing.T) {
	for _, s := range []string{"", "ab", "xyz"} {
		for at := range len(s) + 1 {
			m := made(t, "a|b", s)
			holdBegin(t, m, at, Config{Frame: 1, Pos: at}, api.OK)
			holdNext(t, m, Config{Frame: 1, Pos: at}, Step{Kind: Choice, A: Config{Frame: 2, Pos: at}, B: Config{Frame: 3, Pos: at}})
			holdFrames(t, m, doOf(2, 0), doOf(0, 0), doOf(1, 0))
		}
	}
}

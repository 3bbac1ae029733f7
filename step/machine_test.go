package step

import (
	"slices"
	"testing"

	"clew/api"
	"clew/ast"
	"clew/caps"
	"clew/frame"
	"clew/parse"
)

// room is as many frames as a store may have room for.
const room = 1 << 20

// parsed is the tree of a pattern.
func parsed(t *testing.T, p string) ast.Tree {
	t.Helper()
	tree, wrong := parse.Parse(p)
	if wrong != api.OK {
		t.Fatal("no tree:", p, wrong)
	}
	return tree
}

// machineOf is a machine of a tree that is right.
func machineOf(t *testing.T, tree ast.Tree, s string, most int) *Machine {
	t.Helper()
	m, wrong := New(tree, s, most)
	if wrong != api.OK || m == nil {
		t.Fatal("no machine:", tree.Nodes, len(s), most, wrong)
	}
	return m
}

// made is a machine of a pattern, with as much room as may be.
func made(t *testing.T, p, s string) *Machine {
	t.Helper()
	return machineOf(t, parsed(t, p), s, room)
}

// framesOf are all frames of a machine, by their numbers from 1 on.
func framesOf(m *Machine) []frame.Frame {
	var l []frame.Frame
	for id := 1; id <= m.Len(); id++ {
		f, _ := m.frames.Get(id)
		l = append(l, f)
	}
	return l
}

// holdFrames asks that a machine has these frames, and no others.
func holdFrames(t *testing.T, m *Machine, want ...frame.Frame) {
	t.Helper()
	if got := framesOf(m); !slices.Equal(got, want) || m.Len() != len(want) {
		t.Errorf("the frames are %v (Len %d) instead of %v", got, m.Len(), want)
	}
}

// lay puts a frame that no call of the machine put, and asks for its number.
func lay(t *testing.T, m *Machine, f frame.Frame, want int) {
	t.Helper()
	if id, wrong := m.frames.Put(f); id != want || wrong != api.OK {
		t.Fatalf("Put(%v): %d, %d instead of %d", f, id, wrong, want)
	}
}

// holdNext asks for the step of a config, twice: the second time nothing more is put.
func holdNext(t *testing.T, m *Machine, c Config, want Step) {
	t.Helper()
	got, wrong := m.Next(c)
	if got != want || wrong != api.OK {
		t.Errorf("Next(%v) = %v, %d instead of %v", c, got, wrong, want)
	}
	there := m.Len()
	if more, wrong := m.Next(c); more != got || wrong != api.OK || m.Len() != there {
		t.Errorf("Next(%v) once more = %v, %d (Len %d) instead of %v (Len %d)", c, more, wrong, m.Len(), got, there)
	}
}

// refused asks for an error of Next, that puts so many frames.
func refused(t *testing.T, m *Machine, c Config, want api.Errno, puts int) {
	t.Helper()
	there := framesOf(m)
	if got, wrong := m.Next(c); got != (Step{}) || wrong != want {
		t.Errorf("Next(%v) = %v, %d instead of none, %d", c, got, wrong, want)
	}
	now := framesOf(m)
	if len(now) != len(there)+puts || !slices.Equal(now[:len(there)], there) {
		t.Errorf("Next(%v) was refused: the frames are %v, and were %v", c, now, there)
	}
}

// capsOf are the groups of numbers: each three are a group, from where and to where.
func capsOf(t *testing.T, l ...int) caps.Caps {
	t.Helper()
	var c caps.Caps
	for ; len(l) > 0; l = l[3:] {
		with, wrong := c.With(l[0], l[1], l[2])
		if wrong != api.OK {
			t.Fatal("no groups:", l, wrong)
		}
		c = with
	}
	return c
}

// odd are groups as With would never make them: what counts for nothing, and what matched where none may, is to stay as it is.
func odd() caps.Caps {
	var c caps.Caps
	c.Is[4], c.At[4] = true, [2]int{2, 3}
	c.At[6] = [2]int{-7, 20000}
	c.Is[8], c.At[8] = true, [2]int{9, -1}
	return c
}

// marker is a frame that no machine puts: what is tried stands ahead of it.
var marker = frame.Frame{Kind: frame.Turn, Node: 77, K: 5, From: 6}

// setting is a machine that has the marker as frame 1, and as frame 2 one that is to be tried, ahead of it.
func setting(t *testing.T, p, s string, f frame.Frame) *Machine {
	t.Helper()
	m := made(t, p, s)
	f.Next = 1
	lay(t, m, marker, 1)
	lay(t, m, f, 2)
	return m
}

// The steps of a row: their configs have the groups that odd tells.
func goes(id, pos int) Step { return Step{Kind: Go, A: Config{id, pos, odd()}} }

func either(a, b, pos int) Step {
	return Step{Kind: Choice, A: Config{a, pos, odd()}, B: Config{b, pos, odd()}}
}

func runs(how, a, from, b, pos int) Step {
	return Step{Kind: Sub, How: how, A: Config{a, from, odd()}, B: Config{b, pos, odd()}}
}

var fails = Step{}

// The frames of a row.
func doOf(node, next int) frame.Frame { return frame.Frame{Kind: frame.Do, Node: node, Next: next} }

func turning(node, k, from, next int) frame.Frame {
	return frame.Frame{Kind: frame.Turn, Node: node, K: k, From: from, Next: next}
}

func closing(node, from, next int) frame.Frame {
	return frame.Frame{Kind: frame.Close, Node: node, From: from, Next: next}
}

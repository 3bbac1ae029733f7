package step

import (
	"slices"
	"strings"
	"testing"

	"clew/api"
	"clew/ast"
	"clew/class"
)

var letterA = ast.Node{Kind: ast.Bytes, Set: class.One('a')}

// manyNodes is a tree of so many nodes, as flat as it may be.
func manyNodes(leaves int) ast.Tree {
	if leaves == 1 {
		return ast.Leaf(letterA)
	}
	return ast.Join(manyNodes(leaves/2), manyNodes(leaves-leaves/2), ast.Cat)
}

// deepTree is a tree that is so deep.
func deepTree(deep int) ast.Tree {
	t := ast.Leaf(letterA)
	for range deep - 1 {
		t = ast.Wrap(t, ast.Node{Kind: ast.Atomic})
	}
	return t
}

// wrongTrees are trees that are not right, of each of ast.Right's errors.
func wrongTrees() map[api.Errno][]ast.Tree {
	a := ast.Leaf(letterA)
	many := ast.Wrap(a, ast.Node{Kind: ast.Repeat, Max: -1})
	tooMany := manyNodes(251)
	tooMany.Nodes[0].N = 1 // too many goes ahead of the wrong field
	return map[api.Errno][]ast.Tree{
		api.ErrForm: {
			{}, {Nodes: []ast.Node{}}, {Nodes: []ast.Node{letterA, letterA}}, ast.Leaf(ast.Node{Kind: ast.Kinds}), ast.Leaf(ast.Node{Kind: -1}),
			ast.Leaf(ast.Node{Kind: ast.Cat}), ast.Leaf(ast.Node{Kind: ast.Empty, A: 1}), ast.Wrap(a, ast.Node{Kind: ast.Repeat, Min: 2, Max: 1}), ast.Wrap(a, ast.Node{Kind: ast.Repeat, Mode: 3}),
		},
		api.ErrBig:    {manyNodes(251), tooMany, deepTree(41)},
		api.ErrGroup:  {ast.Wrap(a, ast.Node{Kind: ast.Group}), ast.Wrap(a, ast.Node{Kind: ast.Group, N: 2}), ast.Leaf(ast.Node{Kind: ast.Back, N: 1})},
		api.ErrBehind: {ast.Wrap(many, ast.Node{Kind: ast.Behind}), ast.Wrap(many, ast.Node{Kind: ast.NotBehind})},
	}
}

func holdNew(t *testing.T, tree ast.Tree, s string, most int, want api.Errno) {
	t.Helper()
	m, wrong := New(tree, s, most)
	if wrong != want || (m != nil) != (want == api.OK) {
		t.Errorf("New of %d nodes, %d bytes, %d frames: %v, %d instead of %d", len(tree.Nodes), len(s), most, m != nil, wrong, want)
	}
	if m != nil && m.Len() != 0 {
		t.Error("a new machine has frames:", m.Len())
	}
}

// P13.1: a tree's error is told ahead of all else.
func TestNewOfWrongTrees(t *testing.T) {
	for want, trees := range wrongTrees() {
		for _, tree := range trees {
			if got := ast.Right(tree); got != want {
				t.Fatal("ast.Right:", tree.Nodes, got, want)
			}
			holdNew(t, tree, "", 10, want)
			for _, size := range []int{0, api.MaxText, api.MaxText + 1} {
				for _, most := range []int{-1, 0, room, room + 1} {
					holdNew(t, tree, strings.Repeat("a", size), most, want)
				}
			}
		}
	}
}

// P13.1: trees that just may be.
func TestNewOfGreatTrees(t *testing.T) {
	for _, tree := range []ast.Tree{ast.Leaf(letterA), manyNodes(250), deepTree(40)} {
		holdNew(t, tree, "aaa", 10, api.OK)
	}
	if n := len(manyNodes(250).Nodes); n != api.MaxNodes-1 {
		t.Error("so many nodes:", n)
	}
	holdNew(t, ast.Wrap(manyNodes(250), ast.Node{Kind: ast.Atomic}), "", 10, api.OK)
}

// P13.1: a text has 10000 bytes at most; that it has more is told ahead of what is wrong with the room.
func TestNewOfTexts(t *testing.T) {
	a := ast.Leaf(letterA)
	for _, size := range []int{0, 1, api.MaxText - 1, api.MaxText} {
		s := strings.Repeat("x", size)
		for _, most := range []int{0, 1, 100, room - 1, room} {
			holdNew(t, a, s, most, api.OK)
		}
		for _, most := range []int{-1 << 63, -room, -1, room + 1, 1<<63 - 1} {
			holdNew(t, a, s, most, api.ErrArg)
		}
	}
	for _, size := range []int{api.MaxText + 1, 2 * api.MaxText, 1 << 20} {
		s := strings.Repeat("x", size)
		for _, most := range []int{-1 << 63, -1, 0, 1, room, room + 1, 1<<63 - 1} {
			holdNew(t, a, s, most, api.ErrBig)
		}
	}
}

// P13.1: Len is how many frames there are beside Stop's.
func TestLen(t *testing.T) {
	// Nodes: 0 a, 1 Repeat, 2 b, 3 Cat.
	m := made(t, "a*b", "aab")
	m.Begin(0)
	if m.Len() != 1 {
		t.Error("Len behind Begin:", m.Len())
	}
	for i, x := range []struct{ id, at, want int }{{0, 0, 1}, {1, 0, 3}, {2, 0, 3}, {3, 0, 4}, {4, 0, 6}, {6, 0, 6}, {5, 1, 8}, {5, 1, 8}, {9, 1, 8}, {1, 2, 8}, {3, 2, 9}} {
		m.Next(Config{Frame: x.id, Pos: x.at})
		if m.Len() != x.want {
			t.Error("Len:", i, m.Len(), x.want, framesOf(m))
		}
	}
	if other := made(t, "a*b", "aab"); other.Len() != 0 {
		t.Error("another machine has frames:", other.Len())
	}
}

// R4: what is handed in is neither changed nor kept, nor the room behind it.
func TestTreeIsItsOwners(t *testing.T) {
	tree := parsed(t, "(?<=ab)(a|b){2,3}")
	nodes := slices.Grow(slices.Clone(tree.Nodes), 10)
	behind := nodes[len(nodes):cap(nodes)]
	for i := range behind {
		behind[i] = ast.Node{Kind: ast.Atomic, A: i}
	}
	m := machineOf(t, ast.Tree{Nodes: nodes}, "abba", room)
	want := searched(t, machineOf(t, tree, "abba", room), 4)
	if !slices.Equal(nodes, tree.Nodes) {
		t.Error("the tree was changed:", nodes)
	}
	for i := range behind {
		if behind[i] != (ast.Node{Kind: ast.Atomic, A: i}) {
			t.Error("the room behind the tree was changed:", i)
		}
	}
	for i := range nodes {
		nodes[i] = ast.Node{Kind: ast.End}
	}
	if got := searched(t, m, 4); !slices.Equal(got, want) {
		t.Error("the tree was kept:", got, want)
	}
}

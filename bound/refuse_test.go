package bound

import (
	"math"
	"slices"
	"testing"

	"clew/api"
	"clew/ast"
	"clew/limit"
)

// catOfMany is a tree of so many leaves, as flat as it may be.
func catOfMany(leaves int) ast.Tree {
	if leaves == 1 {
		return ast.Leaf(letterA)
	}
	return ast.Join(catOfMany(leaves/2), catOfMany(leaves-leaves/2), ast.Cat)
}

// wrappedOften is a letter with so many nodes around it.
func wrappedOften(n ast.Node, often int) ast.Tree {
	t := ast.Leaf(letterA)
	for range often {
		t = ast.Wrap(t, n)
	}
	return t
}

// wrongTrees are trees that are not right, of each of ast.Right's errors.
func wrongTrees() map[api.Errno][]ast.Tree {
	a := ast.Leaf(letterA)
	many := ast.Wrap(a, ast.Node{Kind: ast.Repeat, Max: -1})
	wrongAndMany := catOfMany(251)
	wrongAndMany.Nodes[0].N = 1
	return map[api.Errno][]ast.Tree{
		api.ErrForm: {
			{}, {Nodes: []ast.Node{}}, {Nodes: []ast.Node{letterA, letterA}}, ast.Leaf(ast.Node{Kind: ast.Kinds}), ast.Leaf(ast.Node{Kind: -1}),
			ast.Leaf(ast.Node{Kind: ast.Cat}), ast.Leaf(ast.Node{Kind: ast.Cat, A: -1, B: 7}), ast.Leaf(ast.Node{Kind: ast.Repeat, A: 500}), ast.Leaf(ast.Node{Kind: ast.Group}),
			ast.Wrap(a, ast.Node{Kind: ast.Repeat, Min: 2, Max: 1}), ast.Wrap(a, ast.Node{Kind: ast.Repeat, Max: 101}), ast.Wrap(a, ast.Node{Kind: ast.Repeat, Mode: 3}), ast.Wrap(a, ast.Node{Kind: ast.Repeat, Min: math.MaxInt, Max: -1}),
		},
		api.ErrBig:    {catOfMany(251), wrongAndMany, wrappedOften(ast.Node{Kind: ast.Atomic}, 40)},
		api.ErrGroup:  {ast.Wrap(a, ast.Node{Kind: ast.Group}), ast.Wrap(a, ast.Node{Kind: ast.Group, N: 2}), ast.Leaf(ast.Node{Kind: ast.Back, N: 1})},
		api.ErrBehind: {ast.Wrap(many, ast.Node{Kind: ast.Behind}), ast.Wrap(many, ast.Node{Kind: ast.NotBehind})},
	}
}

func holdRefused(t *testing.T, tree ast.Tree, n int, want api.Errno) {
	t.Helper()
	if long, got := Long(tree, n); long != 0 || got != want {
		t.Errorf("Long(%v, %d) = %d, %d instead of 0, %d", tree.Nodes, n, long, got, want)
	}
	if steps, got := Steps(tree, n); steps != 0 || math.Signbit(steps) || got != want {
		t.Errorf("Steps(%v, %d) = %v, %d instead of 0, %d", tree.Nodes, n, steps, got, want)
	}
	if b, got := Enough(tree, n); b != (limit.Budget{}) || got != want {
		t.Errorf("Enough(%v, %d) = %v, %d instead of none, %d", tree.Nodes, n, b, got, want)
	}
}

var (
	rightSizes = []int{0, 1, 2, 9999, 10000}
	wrongSizes = []int{-1, -2, 10001, 10002, 1 << 32, math.MinInt, math.MaxInt}
)

// P14.1: a tree's error is told ahead of all else.
func TestWrongTrees(t *testing.T) {
	for want, trees := range wrongTrees() {
		for _, tree := range trees {
			if got := ast.Right(tree); got != want {
				t.Fatal("ast.Right:", tree.Nodes, got, want)
			}
			for _, n := range slices.Concat(rightSizes, wrongSizes) {
				holdRefused(t, tree, n, want)
			}
		}
	}
}

// P14.1: n is 0 to 10000, whatever the tree is.
func TestWrongSizes(t *testing.T) {
	for _, tree := range []ast.Tree{ast.Leaf(letterA), catOfMany(250), wrappedOften(ast.Node{Kind: ast.Atomic}, 39), parsed(t, "(a*)*b|c")} {
		for _, n := range wrongSizes {
			holdRefused(t, tree, n, api.ErrArg)
		}
		for _, n := range rightSizes {
			long, wrong := Long(tree, n)
			if long < 2 || wrong != api.OK {
				t.Error("Long:", n, long, wrong)
			}
			steps, wrong := Steps(tree, n)
			if steps < 4 || wrong != api.OK {
				t.Error("Steps:", n, steps, wrong)
			}
			b, wrong := Enough(tree, n)
			if b != (limit.Budget{Steps: steps, Room: steps}) || wrong != api.OK {
				t.Error("Enough:", n, b, wrong)
			}
		}
	}
}

// R4, R5: a tree that is asked is not changed, nor the room behind its nodes, and tells the same again.
func TestTreeIsNotChanged(t *testing.T) {
	room := slices.Grow(parsed(t, "(?=(a*)){2,3}|b(?<!c)").Nodes, 5)
	full := room[:cap(room)]
	for i := len(room); i < len(full); i++ {
		full[i] = ast.Node{Kind: i, A: -i}
	}
	before := slices.Clone(full)
	tree := ast.Tree{Nodes: room}
	first, _ := Long(tree, 3)
	for range 3 {
		long, _ := Long(tree, 3)
		steps, _ := Steps(tree, 3)
		b, _ := Enough(tree, 3)
		if long != first || steps != math.Ldexp(4, first) || b.Steps != steps || b.Room != steps {
			t.Error("told otherwise:", long, steps, b)
		}
		Long(tree, -1)
		Steps(tree, 10001)
		Enough(tree, -1)
	}
	if !slices.Equal(full, before) {
		t.Error("the tree was changed:", full)
	}
}

package facts

import (
	"math"
	"testing"

	"clew/api"
	"clew/ast"
	"clew/class"
)

func wantWrong(t *testing.T, tree ast.Tree, want api.Errno) {
	t.Helper()
	if got := ast.Right(tree); got != want {
		t.Errorf("Right of %d nodes = %d; want %d", len(tree.Nodes), got, want)
	}
	if got, wrong := Of(tree); wrong != want || got != (Facts{}) {
		t.Errorf("Of what is not right = %s, %d; want nothing, %d", factsText(got), wrong, want)
	}
}

// nested is p with so many Atomics around it.
func nested(p plant, deep int) plant {
	for range deep {
		p = around(ast.Atomic, p)
	}
	return p
}

// P9.1: ErrBig of too many nodes, of too deep a tree, ahead of other errors.
func TestTooBig(t *testing.T) {
	wide := text(letters(250))
	first := class.One(letters(1)[0])
	wantOf(t, "499 nodes", wide, Facts{First: first, Prefix: letters(100)})
	wantOf(t, "500 nodes", group(wide), Facts{First: first, Prefix: letters(100)})
	wantWrong(t, around(ast.Atomic, group(wide)).tree(), api.ErrBig)
	wantWrong(t, ast.Tree{Nodes: make([]ast.Node, 501)}, api.ErrBig)
	wantWrong(t, ast.Tree{Nodes: make([]ast.Node, 100000)}, api.ErrBig)
	wantOf(t, "40 deep", nested(a, 39), Facts{First: firstA, Prefix: "a"})
	wantWrong(t, nested(a, 40).tree(), api.ErrBig)
	wantWrong(t, nested(backTo(1), 40).tree(), api.ErrBig)
}

// P9.1: ErrForm of no node, of nodes out of order, of kinds that are none, of fields that are to be zero, of a Repeat's numbers.
func TestNoForm(t *testing.T) {
	one := a.node
	for _, nodes := range [][]ast.Node{
		nil, {}, {one, one}, {{Kind: -1}}, {{Kind: ast.Kinds}}, {{Kind: math.MinInt}}, {{Kind: math.MaxInt}},
		{{Kind: ast.Cat}}, {one, {Kind: ast.Cat}}, {one, one, {Kind: ast.Cat, A: 1}}, {one, {Kind: ast.Atomic, A: 1}}, {one, {Kind: ast.Atomic, A: -1}}, {{Kind: ast.Group, N: 1}},
		{one, one, {Kind: ast.Alt, A: 0, B: 2}}, {one, one, {Kind: ast.Alt, A: math.MinInt, B: math.MaxInt}},
		{{Kind: ast.Empty, Set: class.One('a')}}, {{Kind: ast.Begin, Min: 1}}, {{Kind: ast.End, Max: -1}}, {{Kind: ast.Word, Mode: 1}}, {{Kind: ast.Bytes, N: 1}}, {{Kind: ast.Bytes, Fold: true}}, {{Kind: ast.Bytes, A: 1}}, {{Kind: ast.Bytes, B: 1}},
		{one, {Kind: ast.Repeat, Min: -1, Max: 1}}, {one, {Kind: ast.Repeat, Min: 2, Max: 1}}, {one, {Kind: ast.Repeat, Min: 101, Max: -1}}, {one, {Kind: ast.Repeat, Max: 101}}, {one, {Kind: ast.Repeat, Max: -2}}, {one, {Kind: ast.Repeat, Mode: 3}}, {one, {Kind: ast.Repeat, Mode: -1}},
	} {
		wantWrong(t, ast.Tree{Nodes: nodes}, api.ErrForm)
	}
}

// P9.1: ErrGroup of more than nine groups, of groups numbered otherwise, of a Back that has none; ErrBehind.
func TestGroupsAndBehinds(t *testing.T) {
	ten := group(a)
	for range 8 {
		ten = catOf(ten, group(a))
	}
	wantOf(t, "nine groups", ten, Facts{First: firstA, Prefix: "aaaaaaaaa"})
	ten = catOf(ten, group(a))
	wantWrong(t, ten.tree(), api.ErrGroup)
	wantWrong(t, backTo(1).tree(), api.ErrGroup)
	wantWrong(t, besideGroup(backTo(0)).tree(), api.ErrGroup)
	wantWrong(t, besideGroup(backTo(2)).tree(), api.ErrGroup)
	wantWrong(t, ast.Tree{Nodes: []ast.Node{a.node, {Kind: ast.Group, N: 2}}}, api.ErrGroup)
	wantWrong(t, catOf(backTo(1), around(ast.Behind, many(a))).tree(), api.ErrGroup)
	for _, kind := range []int{ast.Behind, ast.NotBehind} {
		wantOf(t, "255 behind", around(kind, times(times(a, 51, 51), 5, 5)), Facts{Open: true})
		wantWrong(t, around(kind, times(times(a, 64, 64), 4, 4)).tree(), api.ErrBehind)
		wantWrong(t, around(kind, many(a)).tree(), api.ErrBehind)
		wantWrong(t, around(kind, times(a, 0, 1)).tree(), api.ErrBehind)
		wantWrong(t, catOf(begin, around(kind, altOf(a, ab))).tree(), api.ErrBehind)
	}
}

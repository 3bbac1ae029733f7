package show

import (
	"math"
	"strings"
	"testing"

	"clew/api"
	"clew/ast"
	"clew/class"
)

// P8.2: the tree without nodes is shown as nothing.
func TestNoNodes(t *testing.T) {
	wantNothing(t, ast.Tree{}, api.ErrForm)
	wantNothing(t, ast.Tree{Nodes: []ast.Node{}}, api.ErrForm)
}

// wide is a tree of so many leaves, as flat as it may be.
func wide(leaves int) plant {
	if leaves == 1 {
		return a
	}
	return catOf(wide((leaves+1)/2), wide(leaves/2))
}

// P8.2: ErrBig of too many nodes: 500 are shown, 501 and more are not.
func TestManyNodes(t *testing.T) {
	shown := wide(250)
	if n := len(shown.tree().Nodes); n != 499 {
		t.Fatal(n)
	}
	for _, p := range []plant{shown, group(shown)} {
		got := Tree(p.tree())
		if strings.Count(got, "a") != 250 {
			t.Errorf("%d nodes: %s", len(p.tree().Nodes), got)
		}
	}
	wantNothing(t, around(ast.Atomic, group(shown)).tree(), api.ErrBig)
	wantNothing(t, wide(251).tree(), api.ErrBig)
	wantNothing(t, ast.Tree{Nodes: make([]ast.Node, 501)}, api.ErrBig)
	wantNothing(t, ast.Tree{Nodes: make([]ast.Node, 100000)}, api.ErrBig)
}

// P8.2: ErrBig of a tree that is too deep: 40 are shown, 41 are not.
func TestDeepTrees(t *testing.T) {
	within, want := a, "a"
	for range 39 {
		within, want = around(ast.Atomic, within), "(?>"+want+")"
	}
	wantTree(t, within, want)
	wantNothing(t, around(ast.Atomic, within).tree(), api.ErrBig)
	repeated, want := many(a), "a*"
	for range 38 {
		repeated, want = many(repeated), "(?:"+want+")*"
	}
	wantTree(t, repeated, want)
	wantNothing(t, many(repeated).tree(), api.ErrBig)
	left, right, want := a, a, "a"
	for range 39 {
		left, right, want = catOf(left, a), catOf(a, right), want+"a"
	}
	wantTree(t, left, want)
	wantTree(t, right, "a"+strings.Repeat("(?:a", 38)+"a"+strings.Repeat(")", 38))
	wantNothing(t, catOf(left, a).tree(), api.ErrBig)
	wantNothing(t, catOf(a, right).tree(), api.ErrBig)
}

// P8.2: ErrForm of nodes that do not stand in order, of kinds that are none, and of fields that are to be zero and are not.
func TestNotInOrder(t *testing.T) {
	leaf := ast.Node{Kind: ast.Bytes, Set: class.One('a')}
	far := []int{math.MinInt, -1 << 31, -2, -1, 1, 2, 3, 500, 1 << 31, math.MaxInt}
	for _, kind := range append(far, ast.Kinds, ast.Kinds+1) {
		if kind < 0 || kind >= ast.Kinds {
			wantNothing(t, ast.Tree{Nodes: []ast.Node{{Kind: kind}}}, api.ErrForm)
			wantNothing(t, ast.Tree{Nodes: []ast.Node{leaf, {Kind: kind}}}, api.ErrForm)
			wantNothing(t, ast.Tree{Nodes: []ast.Node{{Kind: kind}, {Kind: ast.Atomic}}}, api.ErrForm)
			wantNothing(t, ast.Tree{Nodes: []ast.Node{leaf, {Kind: kind}, {Kind: ast.Cat, B: 1}}}, api.ErrForm)
		}
	}
	for kind := range ast.Kinds {
		for _, place := range far {
			wantNothing(t, ast.Tree{Nodes: []ast.Node{{Kind: kind, A: place}}}, api.ErrForm)
			wantNothing(t, ast.Tree{Nodes: []ast.Node{{Kind: kind, B: place}}}, api.ErrForm)
			wantNothing(t, ast.Tree{Nodes: []ast.Node{leaf, {Kind: kind, A: place}}}, api.ErrForm)
			wantNothing(t, ast.Tree{Nodes: []ast.Node{leaf, {Kind: kind, B: place}}}, api.ErrForm)
			wantNothing(t, ast.Tree{Nodes: []ast.Node{leaf, leaf, {Kind: kind, A: place, B: 1}}}, api.ErrForm)
			if place != 1 {
				wantNothing(t, ast.Tree{Nodes: []ast.Node{leaf, leaf, {Kind: kind, A: 0, B: place}}}, api.ErrForm)
			}
		}
		wantNothing(t, ast.Tree{Nodes: []ast.Node{leaf, leaf, {Kind: kind}}}, api.ErrForm)
	}
	wantNothing(t, ast.Tree{Nodes: []ast.Node{leaf, leaf}}, api.ErrForm)
	wantNothing(t, ast.Tree{Nodes: []ast.Node{leaf, leaf, {Kind: ast.Atomic, A: 1}}}, api.ErrForm)
	wantNothing(t, ast.Tree{Nodes: []ast.Node{leaf, leaf, {Kind: ast.Cat, A: 1, B: 0}}}, api.ErrForm)
	wantNothing(t, ast.Tree{Nodes: []ast.Node{{Kind: ast.Cat, A: -1, B: -1}}}, api.ErrForm)
}

// P8.2: ErrForm of fields that a kind has not.
func TestFieldsOfOthers(t *testing.T) {
	for _, s := range samples() {
		tree := besideGroup(s.plant).tree()
		// The root of the part stands just ahead of the group d of two nodes, and the Alt.
		root := len(tree.Nodes) - 4
		for field, change := range map[string]func(*ast.Node){
			"A":    func(n *ast.Node) { n.A += 7 },
			"B":    func(n *ast.Node) { n.B += 7 },
			"Set":  func(n *ast.Node) { n.Set = class.One('x') },
			"Min":  func(n *ast.Node) { n.Min++ },
			"Max":  func(n *ast.Node) { n.Max++ },
			"Mode": func(n *ast.Node) { n.Mode++ },
			"N":    func(n *ast.Node) { n.N++ },
			"Fold": func(n *ast.Node) { n.Fold = !n.Fold },
		} {
			changed := ast.Tree{Nodes: append([]ast.Node{}, tree.Nodes...)}
			change(&changed.Nodes[root])
			asks := field == "N" && (s.node.Kind == ast.Group || s.node.Kind == ast.Back)
			switch wrong := ast.Right(changed); {
			case asks:
				wantNothing(t, changed, api.ErrGroup)
			case wrong != api.OK:
				wantNothing(t, changed, api.ErrForm)
			case Tree(changed) == Tree(tree):
				t.Error("shown alike:", s.pattern, field)
			}
		}
	}
}

// P8.2: ErrForm of a Repeat's numbers and modes that are none.
func TestCountsThatAreNone(t *testing.T) {
	for _, n := range []ast.Node{
		{Min: -1, Max: -1}, {Min: -1}, {Min: 101, Max: 101}, {Min: 101, Max: -1}, {Min: 0, Max: 101}, {Min: 3, Max: 2}, {Min: 1}, {Min: 0, Max: -2},
		{Max: -1, Mode: -1}, {Max: -1, Mode: 3}, {Min: math.MinInt, Max: math.MaxInt}, {Min: math.MaxInt, Max: -1}, {Max: math.MinInt},
	} {
		n.Kind = ast.Repeat
		wantNothing(t, plant{n, []plant{a}}.tree(), api.ErrForm)
	}
}

// P8.2: ErrGroup of too many groups, of numbers in no order, and of a Back to none.
func TestGroupsThatAreNone(t *testing.T) {
	var l []plant
	for range 10 {
		l = append(l, group(a))
	}
	wantNothing(t, row(l...).tree(), api.ErrGroup)
	for _, n := range []int{math.MinInt, -1, 0, 1, 2, 9, 10, math.MaxInt} {
		for _, fold := range []bool{false, true} {
			wantNothing(t, backTo(n, fold).tree(), api.ErrGroup)
			if n != 1 {
				wantNothing(t, catOf(group(a), backTo(n, fold)).tree(), api.ErrGroup)
			}
		}
	}
	for _, n := range []int{math.MinInt, -1, 0, 2, 9, 10, math.MaxInt} {
		tree := group(a).tree()
		tree.Nodes[1].N = n
		wantNothing(t, tree, api.ErrGroup)
	}
	swapped := catOf(group(a), group(b)).tree()
	swapped.Nodes[1].N, swapped.Nodes[3].N = 2, 1
	wantNothing(t, swapped, api.ErrGroup)
	inside := group(group(a)).tree()
	inside.Nodes[1].N, inside.Nodes[2].N = 1, 2
	wantNothing(t, inside, api.ErrGroup)
}

// P8.2: ErrBehind of what has no one length, or more than 255 bytes.
func TestBehindsThatAreNone(t *testing.T) {
	for kind, opening := range map[int]string{ast.Behind: "(?<=", ast.NotBehind: "(?<!"} {
		for _, p := range []plant{many(a), repeatOf(a, 0, 1, ast.Greedy), altOf(a, catOf(b, c)), altOf(a, empty)} {
			wantNothing(t, around(kind, p).tree(), api.ErrBehind)
			wantNothing(t, catOf(a, around(kind, p)).tree(), api.ErrBehind)
		}
		wantNothing(t, catOf(group(a), around(kind, backTo(1, false))).tree(), api.ErrBehind)
		three, five := repeatOf(a, 3, 3, ast.Greedy), repeatOf(a, 5, 5, ast.Greedy)
		most := repeatOf(catOf(three, catOf(five, catOf(five, catOf(a, a)))), 17, 17, ast.Greedy)
		wantTree(t, around(kind, most), opening+"(?:a{3}(?:a{5}(?:a{5}(?:aa)))){17})")
		wantNothing(t, around(kind, catOf(most, a)).tree(), api.ErrBehind)
	}
}

package ast

import (
	"fmt"
	"slices"
	"testing"

	"clew/api"
	"clew/class"
)

// mark is a node that no call makes: what is written over is seen by it.
var mark = Node{99, 98, 97, class.Of("mark"), 96, 95, 94, 93, true}

// roomy is the tree's nodes with room behind them, that is full of marks, and all of that room.
func roomy(nodes []Node) (Tree, []Node) {
	room := append(slices.Clone(nodes), mark, mark, mark)
	return Tree{Nodes: room[:len(nodes)]}, room
}

// overwrite puts marks into a tree and into the room behind it.
func overwrite(t Tree) {
	room := t.Nodes[:cap(t.Nodes)]
	for i := range room {
		room[i] = mark
	}
}

func allKinds() []int { return slices.Concat(leafKinds, wrapKinds, joinKinds, noKinds) }

// plainWrap is what the words say of Wrap.
func plainWrap(l []Node, n Node) []Node {
	n.A, n.B = len(l)-1, 0
	return append(slices.Clone(l), n)
}

// plainJoin is what the words say of Join.
func plainJoin(a, b []Node, kind int) []Node {
	l := slices.Clone(a)
	for _, n := range b {
		if slices.Contains(wrapKinds, n.Kind) || slices.Contains(joinKinds, n.Kind) {
			n.A += len(a)
		}
		if slices.Contains(joinKinds, n.Kind) {
			n.B += len(a)
		}
		l = append(l, n)
	}
	last := -1
	if len(b) > 0 {
		last = len(a) + len(b) - 1
	}
	return append(l, Node{Kind: kind, A: len(a) - 1, B: last})
}

// P5.2

func TestJoinOfTheExample(t *testing.T) {
	a, b := Node{Kind: Bytes, Set: class.One('a')}, Node{Kind: Bytes, Set: class.One('b')}
	ab := Join(Leaf(a), Leaf(b), Cat)
	wantNodes(t, "ab", ab, []Node{a, b, {Kind: Cat, A: 0, B: 1}})
	wantRight(t, "ab", ab, api.OK)
}

func TestLeaf(t *testing.T) {
	for _, n := range append(oddNodes(), mark, letter('a').node) {
		wantNodes(t, "Leaf", Leaf(n), []Node{n})
	}
}

func TestWrapByHand(t *testing.T) {
	a, b := letter('a').node, letter('b').node
	for _, c := range []struct {
		l    []Node
		n    Node
		want []Node
	}{
		{[]Node{a}, Node{Kind: Group, N: 1}, []Node{a, {Kind: Group, N: 1, A: 0}}},
		{[]Node{a, b, {Kind: Cat, A: 0, B: 1}}, Node{Kind: Repeat, Min: 1, Max: -1, Mode: Lazy}, []Node{a, b, {Kind: Cat, A: 0, B: 1}, {Kind: Repeat, A: 2, Min: 1, Max: -1, Mode: Lazy}}},
		// What the node had as its children is gone.
		{[]Node{a, b, {Kind: Cat, A: 0, B: 1}}, Node{Kind: Cat, A: 7, B: -8}, []Node{a, b, {Kind: Cat, A: 0, B: 1}, {Kind: Cat, A: 2}}},
		{nil, Node{Kind: Atomic, A: 5, B: 5}, []Node{{Kind: Atomic, A: -1}}},
		{[]Node{}, Node{Kind: -4, B: 1}, []Node{{Kind: -4, A: -1}}},
		{[]Node{{Kind: Kinds, A: 3, B: 4}}, Node{Kind: Empty, N: 3}, []Node{{Kind: Kinds, A: 3, B: 4}, {Kind: Empty, N: 3}}},
	} {
		wantNodes(t, "Wrap", Wrap(Tree{Nodes: c.l}, c.n), c.want)
	}
}

func TestJoinByHand(t *testing.T) {
	a, b := letter('a').node, letter('b').node
	odd := Node{Kind: Empty, A: 3, B: 4, N: 5}
	for _, c := range []struct {
		what string
		a, b []Node
		kind int
		want []Node
	}{
		{"two and two", []Node{a, {Kind: Atomic, A: 0}}, []Node{b, {Kind: Group, A: 0, N: 2}}, Alt, []Node{a, {Kind: Atomic, A: 0}, b, {Kind: Group, A: 2, N: 2}, {Kind: Alt, A: 1, B: 3}}},
		{"one and three", []Node{a}, []Node{a, b, {Kind: Cat, A: 0, B: 1}}, Cat, []Node{a, a, b, {Kind: Cat, A: 1, B: 2}, {Kind: Cat, A: 0, B: 3}}},
		{"a node with one child: A alone", []Node{a}, []Node{{Kind: Repeat, A: 5, B: 6}}, Cat, []Node{a, {Kind: Repeat, A: 6, B: 6}, {Kind: Cat, A: 0, B: 1}}},
		{"a node without children", []Node{a, b}, []Node{odd}, Cat, []Node{a, b, odd, {Kind: Cat, A: 1, B: 2}}},
		{"kinds that are none", []Node{a, b}, []Node{{Kind: -1, A: 1, B: 1}, {Kind: Kinds, A: 2, B: 2}}, Kinds, []Node{a, b, {Kind: -1, A: 1, B: 1}, {Kind: Kinds, A: 2, B: 2}, {Kind: Kinds, A: 1, B: 3}}},
		{"places below 0", []Node{a, b, a}, []Node{{Kind: Alt, A: -1, B: -5}}, -7, []Node{a, b, a, {Kind: Alt, A: 2, B: -2}, {Kind: -7, A: 2, B: 3}}},
		{"the first ones stay", []Node{{Kind: Alt, A: 8, B: 9}}, []Node{b}, Cat, []Node{{Kind: Alt, A: 8, B: 9}, b, {Kind: Cat, A: 0, B: 1}}},
		{"none and one", nil, []Node{{Kind: Cat, A: 1, B: 2}}, Cat, []Node{{Kind: Cat, A: 1, B: 2}, {Kind: Cat, A: -1, B: 0}}},
		{"one and none", []Node{a}, nil, Cat, []Node{a, {Kind: Cat, A: 0, B: -1}}},
		{"three and none", []Node{a, b, a}, []Node{}, Alt, []Node{a, b, a, {Kind: Alt, A: 2, B: -1}}},
		{"none and none", nil, []Node{}, Alt, []Node{{Kind: Alt, A: -1, B: -1}}},
		{"a kind of no children", []Node{a}, []Node{b}, Empty, []Node{a, b, {Kind: Empty, A: 0, B: 1}}},
		{"a kind of one child", []Node{a}, []Node{b}, Group, []Node{a, b, {Kind: Group, A: 0, B: 1}}},
	} {
		wantNodes(t, c.what, Join(Tree{Nodes: c.a}, Tree{Nodes: c.b}, c.kind), c.want)
	}
}

// P5.2: of any trees and nodes, and they stay as they were, with the room behind them.
func TestWrapOfAny(t *testing.T) {
	for _, nodes := range oddTrees() {
		for _, n := range append(oddNodes(), mark) {
			tree, room := roomy(nodes.Nodes)
			before := slices.Clone(room)
			got := Wrap(tree, n)
			wantNodes(t, "Wrap", got, plainWrap(nodes.Nodes, n))
			overwrite(got)
			if !slices.Equal(room, before) {
				t.Fatalf("Wrap(%v, %v) shares its tree", nodes, n)
			}
		}
	}
}

func TestJoinOfAny(t *testing.T) {
	trees := oddTrees()
	for i, first := range trees {
		for j, second := range trees {
			kind := allKinds()[(i+j)%len(allKinds())]
			a, roomA := roomy(first.Nodes)
			b, roomB := roomy(second.Nodes)
			beforeA, beforeB := slices.Clone(roomA), slices.Clone(roomB)
			got := Join(a, b, kind)
			wantNodes(t, "Join", got, plainJoin(first.Nodes, second.Nodes, kind))
			overwrite(got)
			if !slices.Equal(roomA, beforeA) || !slices.Equal(roomB, beforeB) {
				t.Fatalf("Join(%v, %v) shares its trees", first, second)
			}
		}
	}
}

func TestJoinOfEachKind(t *testing.T) {
	for _, n := range oddNodes() {
		for _, kind := range allKinds() {
			a, b := []Node{mark, n, mark}, []Node{n, mark}
			wantNodes(t, "Join", Join(Tree{Nodes: a}, Tree{Nodes: b}, kind), plainJoin(a, b, kind))
		}
	}
}

// A tree with itself: both halves are its own.
func TestJoinWithItself(t *testing.T) {
	tree, room := roomy(row(letter('a'), group(1, letter('b'))).nodes())
	before := slices.Clone(room)
	got := Join(tree, tree, Alt)
	wantNodes(t, "Join", got, plainJoin(tree.Nodes, tree.Nodes, Alt))
	overwrite(got)
	if !slices.Equal(room, before) {
		t.Error("Join shares its tree")
	}
}

// What is answered twice is told twice: no two answers share their nodes.
func TestAnswersOnTheirOwn(t *testing.T) {
	tree, _ := roomy([]Node{letter('a').node})
	around := Node{Kind: Atomic}
	for what, call := range map[string]func() Tree{
		"Leaf":         func() Tree { return Leaf(mark) },
		"Wrap":         func() Tree { return Wrap(tree, around) },
		"Wrap of none": func() Tree { return Wrap(Tree{Nodes: tree.Nodes[:0]}, around) },
		"Join":         func() Tree { return Join(tree, tree, Cat) },
		"Join of none": func() Tree { return Join(Tree{Nodes: tree.Nodes[:0]}, Tree{}, Cat) },
	} {
		one, other := call(), call()
		want := slices.Clone(other.Nodes)
		for i := range one.Nodes {
			one.Nodes[i] = Node{Kind: -9}
		}
		wantNodes(t, what, other, want)
		wantNodes(t, what+", again", call(), want)
	}
}

// P5.4: what is joined of trees in order stands in order, and so does what is wrapped: as the parts within parts do.
func TestJoinedStandsInOrder(t *testing.T) {
	leaves, wraps, joins := []Node{{}, letter('a').node}, []Node{{Kind: Atomic}, {Kind: Repeat, Min: 2, Max: 3}}, []Node{{Kind: Cat}, {Kind: Alt}}
	l := plantsUpTo(4, leaves, wraps, joins)
	for _, p := range l {
		for _, n := range wraps {
			got := Wrap(p.tree(), n)
			wantNodes(t, "Wrap", got, grow(n, p).nodes())
			wantRight(t, fmt.Sprint(got), got, api.OK)
		}
		for _, q := range l {
			for _, kind := range joinKinds {
				got := Join(p.tree(), q.tree(), kind)
				wantNodes(t, "Join", got, ofKind(kind, p, q).nodes())
				if wrong := Right(got); wrong != api.OK {
					t.Errorf("Right(%v) = %d", got, wrong)
				}
			}
		}
	}
}

package ast

import (
	"fmt"
	"math"
	"slices"
	"testing"

	"clew/api"
	"clew/class"
)

// P5.3, Groups

func TestGroups(t *testing.T) {
	for _, c := range []struct {
		tree Tree
		want int
	}{
		{Tree{}, 0},
		{letter('a').tree(), 0},
		{back(1).tree(), 0},
		{group(1, letter('a')).tree(), 1},
		{row(group(1, group(2, letter('a'))), group(3, letter('b'))).tree(), 3},
		// Trees that may not be: not in order, numbered anyhow, too many.
		{Tree{Nodes: []Node{{Kind: Group, A: 8, N: -1}, {}, {Kind: Group, N: 7}, {Kind: Group - 1}, {Kind: Group + 1}}}, 2},
		{Tree{Nodes: slices.Repeat([]Node{{Kind: Group}, {Kind: Kinds}}, 700)}, 700},
	} {
		if got := Groups(c.tree); got != c.want {
			t.Errorf("Groups(%v) = %d; want %d", c.tree, got, c.want)
		}
	}
	for _, kind := range slices.Concat(leafKinds, wrapKinds, joinKinds, noKinds) {
		want := 0
		if kind == Group {
			want = 3
		}
		if got := Groups(Tree{Nodes: slices.Repeat([]Node{{Kind: kind, N: 1}}, 3)}); got != want {
			t.Errorf("Groups of three of the kind %d: %d", kind, got)
		}
	}
}

// P5.3, Deep

func wantDeep(t *testing.T, what string, tree Tree, want int) {
	t.Helper()
	if got := Deep(tree); got != want {
		t.Errorf("Deep of %s: %d; want %d", what, got, want)
	}
}

func TestDeepOfEachKind(t *testing.T) {
	for _, kind := range leafKinds {
		wantDeep(t, fmt.Sprint("kind ", kind), rooted(kind).tree(), 1)
	}
	for _, kind := range slices.Concat(wrapKinds, joinKinds) {
		wantDeep(t, fmt.Sprint("kind ", kind), rooted(kind).tree(), 2)
	}
}

func TestDeepOfAllSmallTrees(t *testing.T) {
	for _, p := range plantsUpTo(7, []Node{{}}, []Node{{Kind: Behind}}, []Node{{Kind: Alt}}) {
		wantDeep(t, fmt.Sprint(p), p.tree(), p.deep())
	}
}

func TestDeepOfTreesThatMayNotBe(t *testing.T) {
	a := letter('a')
	for _, many := range []int{38, 39, 40, 41, 100, 498, 499} {
		wantDeep(t, fmt.Sprint(many, " and 1 deep"), nested(a, many).tree(), many+1)
	}
	wantDeep(t, "too many", nested(a, 500).tree(), 0)
	wantDeep(t, "501 zero nodes", Tree{Nodes: make([]Node, 501)}, 0)
	wantDeep(t, "none", Tree{}, 0)
	wantDeep(t, "no nodes", Tree{Nodes: []Node{}}, 0)
	wantDeep(t, "nodes left over", Tree{Nodes: []Node{a.node, a.node}}, 0)
	wantDeep(t, "a kind that is none", nested(ofKind(Kinds), 3).tree(), 0)
	wantDeep(t, "a child beyond", Tree{Nodes: []Node{a.node, {Kind: Atomic, A: 9}}}, 0)
	wantDeep(t, "a broken Repeat", repeat(2, 1, a).tree(), 0)
	wantDeep(t, "a field that is to be zero", grow(Node{Kind: Atomic, N: 1}, a).tree(), 0)
	// Wrong groups and what is looked for behind change nothing.
	wantDeep(t, "a group 0", group(0, a).tree(), 2)
	wantDeep(t, "a Back of none", nested(back(9), 2).tree(), 3)
	wantDeep(t, "unlike lengths behind", ofKind(Behind, repeat(0, 1, a)).tree(), 3)
}

// P5.3, Len

func TestLenOfEachKind(t *testing.T) {
	for _, c := range []struct {
		p           plant
		least, most int
	}{
		{ofKind(Empty), 0, 0}, {letter('a'), 1, 1}, {grow(Node{Kind: Bytes, Set: class.All()}), 1, 1}, {ofKind(Bytes), 1, 1},
		{ofKind(Begin), 0, 0}, {ofKind(End), 0, 0}, {ofKind(LineBegin), 0, 0}, {ofKind(LineEnd), 0, 0}, {ofKind(Word), 0, 0}, {ofKind(NotWord), 0, 0},
		{smallest(Cat), 2, 2}, {smallest(Alt), 1, 1}, {repeat(2, 5, letter('a')), 2, 5}, {group(1, letter('a')), 1, 1}, {back(1), 0, -1},
		{smallest(Ahead), 0, 0}, {smallest(NotAhead), 0, 0}, {smallest(Behind), 0, 0}, {smallest(NotBehind), 0, 0}, {smallest(Atomic), 1, 1},
	} {
		tree := c.p.tree()
		wantLen(t, fmt.Sprint(c.p), tree, len(tree.Nodes)-1, c.least, c.most, api.OK)
	}
}

func TestLenByHand(t *testing.T) {
	a := letter('a')
	maybe, star, two := repeat(0, 1, a), repeat(0, -1, a), row(a, a)
	for _, c := range []struct {
		what        string
		p           plant
		least, most int
	}{
		{"Cat of an end and none", ofKind(Cat, two, star), 2, -1},
		{"Cat of none and an end", ofKind(Cat, star, two), 2, -1},
		{"Cat of no ends", ofKind(Cat, repeat(3, -1, a), star), 3, -1},
		{"Cat of spans", ofKind(Cat, repeat(2, 3, a), repeat(4, 7, a)), 6, 10},
		{"Alt of one and two", ofKind(Alt, a, two), 1, 2},
		{"Alt of two and one", ofKind(Alt, two, a), 1, 2},
		{"Alt of spans", ofKind(Alt, repeat(2, 9, a), repeat(4, 7, a)), 2, 9},
		{"Alt of an end and none", ofKind(Alt, repeat(5, 6, a), repeat(4, -1, a)), 4, -1},
		{"Alt of none and an end", ofKind(Alt, repeat(6, -1, a), repeat(5, 9, a)), 5, -1},
		{"Repeat of two", repeat(3, 4, two), 6, 8},
		{"Repeat of a span", repeat(3, 4, repeat(2, 5, a)), 6, 20},
		{"Repeat without an end", repeat(3, -1, two), 6, -1},
		{"0 times", repeat(0, 0, two), 0, 0},
		{"0 times what is without end", repeat(0, 0, star), 0, 0},
		{"nothing, without end", repeat(0, -1, ofKind(Empty)), 0, 0},
		{"nothing, 5 times and without end", repeat(5, -1, ofKind(Word)), 0, 0},
		{"nothing or one, without end", repeat(5, -1, maybe), 0, -1},
		{"one, without end", repeat(0, -1, a), 0, -1},
		{"without end, once", repeat(1, 1, star), 0, -1},
		{"without end, 7 times", repeat(7, 7, repeat(2, -1, a)), 14, -1},
		{"without end, without end", repeat(2, -1, repeat(2, -1, a)), 4, -1},
		{"a Back, 3 times", repeat(3, 3, back(1)), 0, -1},
		{"a Back, 0 times", repeat(0, 0, back(1)), 0, 0},
		{"a Back, without end", repeat(4, -1, back(1)), 0, -1},
		{"a group", group(1, repeat(3, -1, a)), 3, -1},
		{"an Atomic", ofKind(Atomic, repeat(3, 8, a)), 3, 8},
		{"an Ahead", ofKind(Ahead, repeat(3, 8, a)), 0, 0},
		{"a NotBehind", ofKind(NotBehind, star), 0, 0},
		{"an Ahead, without end", repeat(1, -1, ofKind(Ahead, star)), 0, 0},
	} {
		tree := c.p.tree()
		wantLen(t, c.what, tree, len(tree.Nodes)-1, c.least, c.most, api.OK)
		for _, mode := range []int{Lazy, Possessive} {
			if c.p.node.Kind == Repeat {
				c.p.node.Mode = mode
				wantLen(t, c.what, c.p.tree(), len(tree.Nodes)-1, c.least, c.most, api.OK)
			}
		}
	}
}

// P5.3: numbers are cut to 2^20, which is 1048576 = 64 * 64 * 64 * 4; 33 * 31 * 25 * 41 is 1 below.
func TestLenIsCut(t *testing.T) {
	a := letter('a')
	times := func(p plant, counts ...int) plant {
		for _, n := range counts {
			p = repeat(n, n, p)
		}
		return p
	}
	below, just := times(a, 33, 31, 25, 41), times(a, 64, 64, 64, 4)
	beyond := times(a, 100, 100, 100, 100, 100, 100, 100, 100, 100, 100, 100, 100, 100, 100, 100, 100, 100, 100, 100, 100, 100, 100, 100, 100, 100, 100, 100, 100, 100, 100, 100, 100, 100)
	const top = 1 << 20
	for _, c := range []struct {
		what        string
		p           plant
		least, most int
	}{
		{"1 below", below, top - 1, top - 1},
		{"2^20", just, top, top},
		{"far beyond", beyond, top, top},
		{"1 below and 1", ofKind(Cat, below, a), top, top},
		{"1 below and 2", ofKind(Cat, below, row(a, a)), top, top},
		{"2^20 and 1", ofKind(Cat, a, just), top, top},
		{"twice far beyond", ofKind(Cat, beyond, beyond), top, top},
		{"1 below or 2^20", ofKind(Alt, just, below), top - 1, top},
		{"1 or far beyond", ofKind(Alt, a, beyond), 1, top},
		{"1 below twice", repeat(1, 2, below), top - 1, top},
		{"far beyond, without end", repeat(2, -1, beyond), top, -1},
		{"far beyond, 0 times", repeat(0, 0, beyond), 0, 0},
		{"far beyond, 0 to 100 times", repeat(0, 100, beyond), 0, top},
		{"far beyond, and without end", ofKind(Cat, beyond, repeat(0, -1, a)), top, -1},
		{"far beyond, or without end", ofKind(Alt, beyond, repeat(0, -1, a)), 0, -1},
	} {
		tree := c.p.tree()
		wantLen(t, c.what, tree, len(tree.Nodes)-1, c.least, c.most, api.OK)
	}
}

// P5.3: each node of all small trees, against what their parts come to without any cut.
func TestLenOfAllSmallTrees(t *testing.T) {
	leaves := []Node{{}, letter('a').node, {Kind: Back, N: 1}}
	wraps := []Node{{Kind: Ahead}, {Kind: Group, N: 1}, {Kind: Repeat}, {Kind: Repeat, Max: -1}, {Kind: Repeat, Min: 2, Max: 3}, {Kind: Repeat, Min: 100, Max: -1, Mode: Lazy}}
	for _, p := range plantsUpTo(5, leaves, wraps, []Node{{Kind: Cat}, {Kind: Alt}}) {
		tree := p.tree()
		for i, part := range p.all() {
			least, most := part.cutSpan()
			wantLen(t, fmt.Sprint(p), tree, i, least, most, api.OK)
		}
	}
}

func TestLenOfNoPlace(t *testing.T) {
	for _, p := range []plant{letter('a'), row(letter('a'), letter('b'), repeat(0, -1, letter('c'))), nested(back(1), 39)} {
		tree := p.tree()
		for _, i := range []int{math.MinInt, -2, -1, len(tree.Nodes), len(tree.Nodes) + 1, 500, math.MaxInt} {
			wantLen(t, "no node", tree, i, 0, 0, api.ErrNone)
		}
		for i := range tree.Nodes {
			if _, _, wrong := Len(tree, i); wrong != api.OK {
				t.Errorf("Len of node %d: %d", i, wrong)
			}
		}
	}
}

// P5.3: Right's errors are told ahead of ErrNone, but ErrGroup and ErrBehind not at all.
func TestLenOfTreesThatMayNotBe(t *testing.T) {
	a := letter('a')
	for _, c := range []struct {
		what string
		tree Tree
		want api.Errno
	}{
		{"none", Tree{}, api.ErrForm},
		{"no nodes", Tree{Nodes: []Node{}}, api.ErrForm},
		{"two nodes", Tree{Nodes: []Node{a.node, a.node}}, api.ErrForm},
		{"a broken Repeat", ofKind(Cat, a, repeat(2, 1, a)).tree(), api.ErrForm},
		{"a kind that is none", ofKind(Cat, a, ofKind(-1)).tree(), api.ErrForm},
		{"broken and too deep", nested(ofKind(Kinds), 41).tree(), api.ErrForm},
		{"too many", Tree{Nodes: make([]Node, 501)}, api.ErrBig},
		{"too deep", nested(a, 40).tree(), api.ErrBig},
	} {
		for _, i := range []int{math.MinInt, -1, 0, 1, 2, 501, math.MaxInt} {
			wantLen(t, c.what, c.tree, i, 0, 0, c.want)
		}
	}
	wantLen(t, "a group 0", group(0, a).tree(), 1, 1, 1, api.OK)
	wantLen(t, "a Back of none", ofKind(Cat, a, back(-5)).tree(), 2, 1, -1, api.OK)
	wantLen(t, "unlike lengths behind", ofKind(Behind, repeat(0, 1, a)).tree(), 1, 0, 1, api.OK)
	wantLen(t, "unlike lengths behind", ofKind(Behind, repeat(0, 1, a)).tree(), 2, 0, 0, api.OK)
	wantLen(t, "no node there", ofKind(Behind, back(0)).tree(), 2, 0, 0, api.ErrNone)
	tooManyGroups := a
	for n := range 10 {
		tooManyGroups = group(n+1, tooManyGroups)
	}
	wantLen(t, "10 groups", tooManyGroups.tree(), 10, 1, 1, api.OK)
}

// R1, R4: all calls end at all sorts of trees, tell the same each time, and leave them as they were.
func TestOddTreesStay(t *testing.T) {
	for _, odd := range oddTrees() {
		tree, room := roomy(odd.Nodes)
		before := slices.Clone(room)
		for _, i := range []int{math.MinInt, -1, 0, 1, len(odd.Nodes) - 1, len(odd.Nodes), math.MaxInt} {
			least, most, wrong := Len(tree, i)
			if wrong != api.OK && (least != 0 || most != 0) {
				t.Errorf("Len(%v, %d) tells %d, %d beside the error %d", odd, i, least, most, wrong)
			}
			wantLen(t, "again", tree, i, least, most, wrong)
		}
		if Right(tree) != Right(odd) || Deep(tree) != Deep(odd) || Groups(tree) != Groups(odd) || !Same(tree, odd) {
			t.Errorf("%v tells another thing with room behind it", odd)
		}
		if !slices.Equal(room, before) {
			t.Errorf("%v was changed", odd)
		}
	}
}

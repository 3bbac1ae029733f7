package ast

import (
	"math"
	"slices"
	"testing"

	"clew/api"
	"clew/class"
)

// The kinds, by how many children they have.
var (
	leafKinds = []int{Empty, Bytes, Begin, End, LineBegin, LineEnd, Word, NotWord, Back}
	wrapKinds = []int{Repeat, Group, Ahead, NotAhead, Behind, NotBehind, Atomic}
	joinKinds = []int{Cat, Alt}
	noKinds   = []int{-1, -2, Kinds, Kinds + 1, math.MinInt, math.MaxInt}
)

// plant is a tree told by parts within parts, to hold nodes in a row against.
type plant struct {
	node Node
	kids []plant
}

func grow(n Node, kids ...plant) plant { return plant{n, kids} }

func ofKind(kind int, kids ...plant) plant { return grow(Node{Kind: kind}, kids...) }

func letter(c byte) plant { return grow(Node{Kind: Bytes, Set: class.One(c)}) }

func group(n int, kid plant) plant { return grow(Node{Kind: Group, N: n}, kid) }

func back(n int) plant { return grow(Node{Kind: Back, N: n}) }

func repeat(least, most int, kid plant) plant {
	return grow(Node{Kind: Repeat, Min: least, Max: most}, kid)
}

// row is all of them, one behind the other, as Cats from the left.
func row(kids ...plant) plant {
	p := kids[0]
	for _, kid := range kids[1:] {
		p = ofKind(Cat, p, kid)
	}
	return p
}

// nested is p with so many Atomics around it.
func nested(p plant, many int) plant {
	for range many {
		p = ofKind(Atomic, p)
	}
	return p
}

// nodes are the plant's nodes as the words ask for them, in new memory.
func (p plant) nodes() []Node { return p.put(nil) }

func (p plant) put(l []Node) []Node {
	n := p.node
	n.A, n.B = 0, 0
	for i, kid := range p.kids {
		l = kid.put(l)
		if i == 0 {
			n.A = len(l) - 1
		} else {
			n.B = len(l) - 1
		}
	}
	return append(l, n)
}

func (p plant) tree() Tree { return Tree{Nodes: p.nodes()} }

func (p plant) deep() int {
	deepest := 0
	for _, kid := range p.kids {
		deepest = max(deepest, kid.deep())
	}
	return deepest + 1
}

// numbered is the plant with its groups numbered from next on, as their parentheses open, and the number behind them.
func (p plant) numbered(next int) (plant, int) {
	p.kids = slices.Clone(p.kids)
	if p.node.Kind == Group {
		p.node.N = next
		next++
	}
	for i := range p.kids {
		p.kids[i], next = p.kids[i].numbered(next)
	}
	return p, next
}

// span is how many bytes the plant has, without any cut; infinity is without end.
func (p plant) span() (least, most float64) {
	var l, m [2]float64
	for i, kid := range p.kids {
		l[i], m[i] = kid.span()
	}
	switch p.node.Kind {
	case Bytes:
		return 1, 1
	case Back:
		return 0, math.Inf(1)
	case Cat:
		return l[0] + l[1], m[0] + m[1]
	case Alt:
		return math.Min(l[0], l[1]), math.Max(m[0], m[1])
	case Group, Atomic:
		return l[0], m[0]
	case Repeat:
		often := math.Inf(1)
		if p.node.Max >= 0 {
			often = float64(p.node.Max)
		}
		if m[0] == 0 {
			often = 0
		}
		if often == 0 {
			m[0] = 0
		}
		return l[0] * float64(p.node.Min), m[0] * often
	}
	return 0, 0
}

// cutSpan is the span as Len tells it.
func (p plant) cutSpan() (int, int) {
	least, most := p.span()
	if math.IsInf(most, 1) {
		return int(math.Min(least, 1<<20)), -1
	}
	return int(math.Min(least, 1<<20)), int(math.Min(most, 1<<20))
}

// all are the plant and the plants within it, in the order of their nodes.
func (p plant) all() []plant {
	var l []plant
	for _, kid := range p.kids {
		l = append(l, kid.all()...)
	}
	return append(l, p)
}

// plants are all plants of so many nodes, of these leaves, these nodes around one, and these around two.
func plants(many int, leaves, wraps, joins []Node) []plant {
	sized := make([][]plant, many+1)
	for size := 1; size <= many; size++ {
		var l []plant
		if size == 1 {
			for _, n := range leaves {
				l = append(l, grow(n))
			}
		}
		for _, kid := range sized[size-1] {
			for _, n := range wraps {
				l = append(l, grow(n, kid))
			}
		}
		for first := 1; first < size-1; first++ {
			for _, a := range sized[first] {
				for _, b := range sized[size-1-first] {
					for _, n := range joins {
						l = append(l, grow(n, a, b))
					}
				}
			}
		}
		sized[size] = l
	}
	return sized[many]
}

// plantsUpTo are all plants of 1 to so many nodes.
func plantsUpTo(many int, leaves, wraps, joins []Node) []plant {
	var l []plant
	for size := 1; size <= many; size++ {
		l = append(l, plants(size, leaves, wraps, joins)...)
	}
	return l
}

// smallest is the smallest tree with a node of the kind as its root, that may be.
func smallest(kind int) plant {
	switch {
	case slices.Contains(joinKinds, kind):
		return ofKind(kind, letter('a'), letter('b'))
	case kind == Group:
		return group(1, letter('a'))
	case slices.Contains(wrapKinds, kind):
		return ofKind(kind, letter('a'))
	case kind == Back:
		// A Back needs a group: it stands ahead of it.
		return ofKind(Cat, back(1), group(1, ofKind(Empty)))
	case kind == Bytes:
		return letter('a')
	default:
		return ofKind(kind)
	}
}

// rooted is the smallest plant of a kind, that is its root also of Back.
func rooted(kind int) plant {
	if kind == Back {
		return back(1)
	}
	return smallest(kind)
}

// fields set one field each of a node to what is not zero.
func fields() map[string][]func(n *Node) {
	return map[string][]func(n *Node){
		"A":    {func(n *Node) { n.A = 1 }, func(n *Node) { n.A = -1 }, func(n *Node) { n.A = math.MaxInt }},
		"B":    {func(n *Node) { n.B = 1 }, func(n *Node) { n.B = -1 }, func(n *Node) { n.B = math.MinInt }},
		"Set":  {func(n *Node) { n.Set.W[0] = 1 }, func(n *Node) { n.Set.W[1] = 1 << 63 }, func(n *Node) { n.Set.W[2] = 5 }, func(n *Node) { n.Set = class.All() }},
		"Min":  {func(n *Node) { n.Min = 1 }, func(n *Node) { n.Min = -1 }, func(n *Node) { n.Min = 1 << 40 }},
		"Max":  {func(n *Node) { n.Max = 1 }, func(n *Node) { n.Max = -1 }, func(n *Node) { n.Max = 100 }},
		"Mode": {func(n *Node) { n.Mode = Lazy }, func(n *Node) { n.Mode = Possessive }, func(n *Node) { n.Mode = -1 }},
		"N":    {func(n *Node) { n.N = 1 }, func(n *Node) { n.N = -1 }, func(n *Node) { n.N = 9 }},
		"Fold": {func(n *Node) { n.Fold = true }},
	}
}

// oddNodes are nodes of all kinds, and of those that are none, with all fields set to what may not be.
func oddNodes() []Node {
	var l []Node
	for _, kind := range slices.Concat(leafKinds, wrapKinds, joinKinds, noKinds) {
		l = append(l, Node{Kind: kind}, Node{kind, 7, -3, class.Of("xyz"), -5, 1000, 77, -9, true}, Node{kind, math.MaxInt, math.MinInt, class.All(), 1, 1, 1, 1, true})
	}
	return l
}

// oddTrees are trees of all sorts: those that may be, and those that may not; nil, empty, broken and huge ones.
func oddTrees() []Tree {
	l := []Tree{{}, {Nodes: []Node{}}, {Nodes: oddNodes()}, {Nodes: make([]Node, 501)}, {Nodes: make([]Node, 2)}}
	for _, n := range oddNodes() {
		l = append(l, Tree{Nodes: []Node{n}}, Tree{Nodes: []Node{{}, n, n}})
	}
	for _, kind := range slices.Concat(leafKinds, wrapKinds, joinKinds) {
		l = append(l, smallest(kind).tree())
	}
	return append(l, nested(letter('a'), 100).tree(), row(back(1), group(2, letter('x')), letter('y')).tree())
}

func wantRight(t *testing.T, what string, tree Tree, want api.Errno) {
	t.Helper()
	before := slices.Clone(tree.Nodes)
	if got := Right(tree); got != want {
		t.Errorf("Right of %s: %d; want %d", what, got, want)
	}
	if !slices.Equal(before, tree.Nodes) {
		t.Errorf("Right of %s changed the tree", what)
	}
}

func wantLen(t *testing.T, what string, tree Tree, i, least, most int, wrong api.Errno) {
	t.Helper()
	if gotLeast, gotMost, gotWrong := Len(tree, i); gotLeast != least || gotMost != most || gotWrong != wrong {
		t.Errorf("Len of %s, %d: %d, %d, %d; want %d, %d, %d", what, i, gotLeast, gotMost, gotWrong, least, most, wrong)
	}
}

func wantNodes(t *testing.T, what string, got Tree, want []Node) {
	t.Helper()
	if !slices.Equal(got.Nodes, want) {
		t.Errorf("%s: %v; want %v", what, got.Nodes, want)
	}
}

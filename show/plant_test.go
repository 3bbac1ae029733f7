package show

import (
	"testing"

	"clew/api"
	"clew/ast"
	"clew/class"
)

// plant is a node and what its children are; its tree is laid out here on its own, without ast's calls.
type plant struct {
	node     ast.Node
	children []plant
}

// tree lays the plant out; groups are numbered as they begin.
func (p plant) tree() ast.Tree {
	var nodes []ast.Node
	groups := 0
	p.layOnto(&nodes, &groups)
	return ast.Tree{Nodes: nodes}
}

func (p plant) layOnto(nodes *[]ast.Node, groups *int) int {
	n := p.node
	if n.Kind == ast.Group {
		*groups++
		n.N = *groups
	}
	for i, child := range p.children {
		place := child.layOnto(nodes, groups)
		if i == 0 {
			n.A = place
		} else {
			n.B = place
		}
	}
	*nodes = append(*nodes, n)
	return len(*nodes) - 1
}

// has tells whether a node of the kind is in the plant.
func (p plant) has(kind int) bool {
	for _, child := range p.children {
		if child.has(kind) {
			return true
		}
	}
	return p.node.Kind == kind
}

func leaf(kind int) plant     { return plant{node: ast.Node{Kind: kind}} }
func set(s class.Set) plant   { return plant{node: ast.Node{Kind: ast.Bytes, Set: s}} }
func bytesOf(s string) plant  { return set(class.Of(s)) }
func group(p plant) plant     { return around(ast.Group, p) }
func many(p plant) plant      { return repeatOf(p, 0, -1, ast.Greedy) }
func catOf(p, q plant) plant  { return plant{ast.Node{Kind: ast.Cat}, []plant{p, q}} }
func altOf(p, q plant) plant  { return plant{ast.Node{Kind: ast.Alt}, []plant{p, q}} }
func row(l ...plant) plant    { return fromLeft(catOf, l) }
func choice(l ...plant) plant { return fromLeft(altOf, l) }

func backTo(n int, fold bool) plant {
	return plant{node: ast.Node{Kind: ast.Back, N: n, Fold: fold}}
}

func around(kind int, p plant) plant {
	return plant{ast.Node{Kind: kind}, []plant{p}}
}

func repeatOf(p plant, least, most, mode int) plant {
	return plant{ast.Node{Kind: ast.Repeat, Min: least, Max: most, Mode: mode}, []plant{p}}
}

func fromLeft(join func(p, q plant) plant, l []plant) plant {
	all := l[0]
	for _, next := range l[1:] {
		all = join(all, next)
	}
	return all
}

var (
	a     = bytesOf("a")
	b     = bytesOf("b")
	c     = bytesOf("c")
	d     = bytesOf("d")
	empty = leaf(ast.Empty)
)

func wantTree(t *testing.T, p plant, want string) {
	t.Helper()
	tree := p.tree()
	if wrong := ast.Right(tree); wrong != api.OK {
		t.Fatalf("%v, that is to be %s, is not right: %d", tree.Nodes, want, wrong)
	}
	if got := Tree(tree); got != want {
		t.Errorf("Tree of %v = %s; want %s", tree.Nodes, got, want)
	}
}

// besideGroup is a plant as the left one of an Alt with a group, that a Back can ask for.
func besideGroup(p plant) plant { return altOf(p, group(d)) }

// wantPart holds a plant beside a group, and alone, if it may be.
func wantPart(t *testing.T, p plant, want string) {
	t.Helper()
	if !p.has(ast.Back) {
		wantTree(t, p, want)
	}
	wantTree(t, besideGroup(p), want+"|(d)")
}

func wantNothing(t *testing.T, tree ast.Tree, wrong api.Errno) {
	t.Helper()
	if got := ast.Right(tree); got != wrong {
		t.Errorf("Right of %d nodes = %d; want %d", len(tree.Nodes), got, wrong)
	}
	if got := Tree(tree); got != "" {
		t.Errorf("Tree of what is not right (%d) = %s; want nothing", wrong, got)
	}
}

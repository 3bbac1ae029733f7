package facts

import (
	"strings"
	"testing"

	"clew/api"
	"clew/ast"
	"clew/class"
)

// plant is a node and what its children are; its tree is laid out here on its own, without ast's calls.
type plant struct {
	node     ast.Node
	children []plant
}

// tree lays the plant out; groups are numbered as they begin.
func (p plant) tree() ast.Tree {
	var nodes []ast.Node
	groups := 0
	p.layOnto(&nodes, &groups)
	return ast.Tree{Nodes: nodes}
}

func (p plant) layOnto(nodes *[]ast.Node, groups *int) int {
	n := p.node
	if n.Kind == ast.Group {
		*groups++
		n.N = *groups
	}
	for i, child := range p.children {
		place := child.layOnto(nodes, groups)
		if i == 0 {
			n.A = place
		} else {
			n.B = place
		}
	}
	*nodes = append(*nodes, n)
	return len(*nodes) - 1
}

// has tells whether a node of the kind is in the plant.
func (p plant) has(kind int) bool {
	for _, child := range p.children {
		if child.has(kind) {
			return true
		}
	}
	return p.node.Kind == kind
}

func leaf(kind int) plant     { return plant{node: ast.Node{Kind: kind}} }
func set(s class.Set) plant   { return plant{node: ast.Node{Kind: ast.Bytes, Set: s}} }
func bytesOf(s string) plant  { return set(class.Of(s)) }
func group(p plant) plant     { return around(ast.Group, p) }
func many(p plant) plant      { return times(p, 0, -1) }
func catOf(p, q plant) plant  { return plant{ast.Node{Kind: ast.Cat}, []plant{p, q}} }
func altOf(p, q plant) plant  { return plant{ast.Node{Kind: ast.Alt}, []plant{p, q}} }
func row(l ...plant) plant    { return fromLeft(catOf, l) }
func choice(l ...plant) plant { return fromLeft(altOf, l) }

func backTo(n int) plant {
	return plant{node: ast.Node{Kind: ast.Back, N: n}}
}

func around(kind int, p plant) plant {
	return plant{ast.Node{Kind: kind}, []plant{p}}
}

func times(p plant, least, most int) plant {
	return plant{ast.Node{Kind: ast.Repeat, Min: least, Max: most}, []plant{p}}
}

func fromLeft(join func(p, q plant) plant, l []plant) plant {
	all := l[0]
	for _, next := range l[1:] {
		all = join(all, next)
	}
	return all
}

// text is the bytes of s, as flat as they may be.
func text(s string) plant {
	if len(s) == 1 {
		return bytesOf(s)
	}
	return catOf(text(s[:len(s)/2]), text(s[len(s)/2:]))
}

var (
	a     = bytesOf("a")
	b     = bytesOf("b")
	c     = bytesOf("c")
	d     = bytesOf("d")
	ab    = catOf(a, b)
	empty = leaf(ast.Empty)
	begin = leaf(ast.Begin)
)

// wantOf holds Of against facts, of a plant that is right.
func wantOf(t *testing.T, what string, p plant, want Facts) {
	t.Helper()
	if got, wrong := Of(p.tree()); wrong != api.OK || got != want {
		t.Errorf("Of %s = %s, %d; want %s", what, factsText(got), wrong, factsText(want))
	}
}

// besideGroup is a plant ahead of a group that takes no byte, that a Back can ask for: what is known of it is as it is alone.
func besideGroup(p plant) plant { return catOf(p, group(empty)) }

// wantPart holds Of of a plant beside a group, and alone, if it may be.
func wantPart(t *testing.T, what string, p plant, want Facts) {
	t.Helper()
	if !p.has(ast.Back) {
		wantOf(t, what, p, want)
	}
	wantOf(t, what+" beside a group", besideGroup(p), want)
}

func factsText(f Facts) string {
	var l strings.Builder
	l.WriteString("First ")
	for _, run := range f.First.Ranges() {
		l.WriteByte('[')
		l.WriteByte(run[0])
		l.WriteByte('-')
		l.WriteByte(run[1])
		l.WriteByte(']')
	}
	if f.Open {
		l.WriteString(" Open")
	}
	if f.Fast {
		l.WriteString(" Fast")
	}
	return l.String() + " Prefix " + f.Prefix
}

// told is what the words say of a node's tree, told anew: its prefix in full, and how many bytes it has at most (-1: without end).
type told struct {
	first      [256]bool
	open, fast bool
	prefix     string
	whole      bool
	most       int
}

// tell tells a plant by its parts.
func (p plant) tell() told {
	n := p.node
	switch n.Kind {
	case ast.Bytes:
		return tellBytes(n.Set)
	case ast.Back:
		x := told{open: true, most: -1}
		for i := range x.first {
			x.first[i] = true
		}
		return x
	case ast.Cat:
		return tellCat(p.children[0].tell(), p.children[1].tell())
	case ast.Alt:
		return tellAlt(p.children[0].tell(), p.children[1].tell())
	case ast.Repeat:
		return tellRepeat(n, p.children[0].tell())
	case ast.Group, ast.Atomic:
		return p.children[0].tell()
	}
	return told{open: true, fast: n.Kind == ast.Begin, whole: true}
}

func tellBytes(s class.Set) told {
	x := told{most: 1}
	count := 0
	for i := range x.first {
		if s.Has(byte(i)) {
			x.first[i] = true
			x.prefix = string([]byte{byte(i)})
			count++
		}
	}
	x.whole = count == 1
	if !x.whole {
		x.prefix = ""
	}
	return x
}

func tellCat(p, q told) told {
	x := told{first: p.first, open: p.open && q.open, prefix: p.prefix, whole: p.whole && q.whole, most: p.most + q.most}
	for i := range x.first {
		x.first[i] = p.first[i] || p.open && q.first[i]
	}
	if p.most == -1 || q.most == -1 {
		x.most = -1
	}
	x.fast = p.fast || q.fast && p.most == 0
	if p.whole {
		x.prefix += q.prefix
	}
	return x
}

func tellAlt(p, q told) told {
	x := told{open: p.open || q.open, fast: p.fast && q.fast, most: max(p.most, q.most)}
	for i := range x.first {
		x.first[i] = p.first[i] || q.first[i]
	}
	if p.most == -1 || q.most == -1 {
		x.most = -1
	}
	return x
}

func tellRepeat(n ast.Node, p told) told {
	switch {
	case n.Max == 0:
		return told{open: true, whole: true}
	case n.Max == -1 && p.most != 0:
		p.most = -1
	case p.most > 0:
		p.most *= n.Max
	}
	if n.Min == 0 {
		p.open, p.fast, p.prefix = true, false, ""
	}
	p.whole = p.whole && n.Min == 1 && n.Max == 1
	return p
}

// facts are those of the tree that is told.
func (x told) facts() Facts {
	f := Facts{Open: x.open, Fast: x.fast, Prefix: x.prefix[:min(len(x.prefix), 100)]}
	for i, has := range x.first {
		if has {
			f.First = f.First.Or(class.One(byte(i)))
		}
	}
	return f
}

// wantTold holds Of of a right tree against what its plant tells, and tells whether the tree is right.
func wantTold(t *testing.T, p plant) bool {
	t.Helper()
	tree := p.tree()
	if ast.Right(tree) != api.OK {
		return false
	}
	want := p.tell().facts()
	if got, wrong := Of(tree); wrong != api.OK || got != want {
		t.Fatalf("Of %v = %s, %d; want %s", tree.Nodes, factsText(got), wrong, factsText(want))
	}
	return true
}

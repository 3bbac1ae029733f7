package bound

import (
	"slices"

	"clew/ast"
	"clew/class"
)

var (
	letterA = ast.Node{Kind: ast.Bytes, Set: class.One('a')}
	letterB = ast.Node{Kind: ast.Bytes, Set: class.One('b')}
	anyByte = ast.Node{Kind: ast.Bytes, Set: class.All()}
)

// plant is a node and what its children are; its tree is laid out here on its own, without ast's calls.
type plant struct {
	node     ast.Node
	children []plant
}

// tree lays the plant out; groups are numbered as they begin.
func (p plant) tree() ast.Tree {
	var nodes []ast.Node
	groups := 0
	p.layOnto(&nodes, &groups)
	return ast.Tree{Nodes: nodes}
}

func (p plant) layOnto(nodes *[]ast.Node, groups *int) int {
	n := p.node
	if n.Kind == ast.Group {
		*groups++
		n.N = *groups
	}
	for i, child := range p.children {
		place := child.layOnto(nodes, groups)
		if i == 0 {
			n.A = place
		} else {
			n.B = place
		}
	}
	*nodes = append(*nodes, n)
	return len(*nodes) - 1
}

// has tells whether a node of the kind is in the plant.
func (p plant) has(kind int) bool {
	for _, child := range p.children {
		if child.has(kind) {
			return true
		}
	}
	return p.node.Kind == kind
}

func leaf(kind int) plant    { return plant{node: ast.Node{Kind: kind}} }
func catOf(p, q plant) plant { return plant{ast.Node{Kind: ast.Cat}, []plant{p, q}} }
func around(kind int, p plant) plant {
	return plant{ast.Node{Kind: kind}, []plant{p}}
}

func times(p plant, least, most, mode int) plant {
	return plant{ast.Node{Kind: ast.Repeat, Min: least, Max: most, Mode: mode}, []plant{p}}
}

// besideGroup is a plant behind a group that takes a byte, that a Back can ask for.
func besideGroup(p plant) plant {
	return catOf(around(ast.Group, times(plant{node: anyByte}, 0, 1, ast.Greedy)), p)
}

// plantsOf are all plants of at most so many nodes, of these leaves, nodes of one child and nodes of two.
func plantsOf(nodes int, leaves, ones, twos []ast.Node) []plant {
	sizes := make([][]plant, nodes+1)
	for _, n := range leaves {
		sizes[1] = append(sizes[1], plant{node: n})
	}
	for size := 2; size <= nodes; size++ {
		for _, n := range ones {
			for _, p := range sizes[size-1] {
				sizes[size] = append(sizes[size], plant{n, []plant{p}})
			}
		}
		for _, n := range twos {
			for left := 1; left < size-1; left++ {
				for _, p := range sizes[left] {
					for _, q := range sizes[size-1-left] {
						sizes[size] = append(sizes[size], plant{n, []plant{p, q}})
					}
				}
			}
		}
	}
	return slices.Concat(sizes...)
}

// textsOf are all texts of at most so many of the letters.
func textsOf(letters string, most int) []string {
	texts, last := []string{""}, []string{""}
	for range most {
		var next []string
		for _, s := range last {
			for i := range len(letters) {
				next = append(next, s+letters[i:i+1])
			}
		}
		texts, last = append(texts, next...), next
	}
	return texts
}

var (
	twos = []ast.Node{{Kind: ast.Cat}, {Kind: ast.Alt}}
	ones = []ast.Node{
		{Kind: ast.Group}, {Kind: ast.Ahead}, {Kind: ast.NotAhead}, {Kind: ast.Behind}, {Kind: ast.NotBehind}, {Kind: ast.Atomic},
		{Kind: ast.Repeat, Max: -1}, {Kind: ast.Repeat}, {Kind: ast.Repeat, Min: 1, Max: -1, Mode: ast.Possessive}, {Kind: ast.Repeat, Min: 1, Max: 1}, {Kind: ast.Repeat, Max: 1, Mode: ast.Lazy}, {Kind: ast.Repeat, Min: 2, Max: 3}, {Kind: ast.Repeat, Min: 1, Max: -1, Mode: ast.Lazy}, {Kind: ast.Repeat, Max: 2, Mode: ast.Possessive},
	}
)

// drawer draws numbers by a fixed rule.
type drawer uint64

func (d *drawer) below(n int) int {
	*d = *d*6364136223846793005 + 1442695040888963407
	return int(*d>>33) % n
}

// leaf draws a node without children.
func (d *drawer) leaf() plant {
	kinds := []int{ast.Empty, ast.Begin, ast.End, ast.LineBegin, ast.LineEnd, ast.Word, ast.NotWord}
	switch draw := d.below(30); {
	case draw < len(kinds):
		return leaf(kinds[draw])
	case draw < 12:
		return plant{node: ast.Node{Kind: ast.Back, N: 1 + d.below(2), Fold: draw%2 == 0}}
	case draw < 15:
		return plant{node: anyByte}
	case draw < 24:
		return plant{node: letterA}
	}
	return plant{node: letterB}
}

// ofOneLength draws a plant that has as many bytes at least as at most.
func (d *drawer) ofOneLength() plant {
	letters := []plant{{node: letterA}, {node: letterB}, {node: anyByte}}
	one, other := letters[d.below(3)], letters[d.below(3)]
	switch d.below(6) {
	case 0:
		return catOf(one, other)
	case 1:
		return plant{ast.Node{Kind: ast.Alt}, []plant{one, other}}
	case 2:
		return times(around(ast.Group, one), 2, 2, d.below(3))
	case 3:
		return catOf(around(ast.Ahead, d.leaf()), one)
	case 4:
		return around(ast.Group, catOf(one, around(ast.NotBehind, other)))
	}
	return one
}

// plant draws a plant that is at most so deep.
func (d *drawer) plant(deep int) plant {
	if deep <= 1 || d.below(8) == 0 {
		return d.leaf()
	}
	switch draw := d.below(30); {
	case draw < 11:
		return catOf(d.plant(deep-1), d.plant(deep-1))
	case draw < 15:
		return plant{ast.Node{Kind: ast.Alt}, []plant{d.plant(deep - 1), d.plant(deep - 1)}}
	case draw < 20:
		least := d.below(3)
		return times(d.plant(deep-1), least, []int{-1, least, least + 1}[d.below(3)], d.below(3))
	case draw < 23:
		return around(ast.Behind+d.below(2), d.ofOneLength())
	case draw < 25:
		return around(ast.Ahead+draw%2, d.plant(deep-1))
	case draw < 29:
		return around(ast.Group, d.plant(deep-1))
	}
	return around(ast.Atomic, d.plant(deep-1))
}

package naive

import (
	"slices"
	"strings"
	"testing"

	"clew/api"
	"clew/ast"
	"clew/parse"
)

// parsed is the tree of a pattern.
func parsed(t *testing.T, p string) ast.Tree {
	t.Helper()
	tree, wrong := parse.Parse(p)
	if wrong != api.OK {
		t.Fatal("no tree:", p, wrong)
	}
	return tree
}

// plant is a node and what its children are; its tree is laid out here on its own, without ast's calls.
type plant struct {
	node     ast.Node
	children []plant
}

// tree lays the plant out; groups are numbered as they begin.
func (p plant) tree() ast.Tree {
	var nodes []ast.Node
	groups := 0
	p.layOnto(&nodes, &groups)
	return ast.Tree{Nodes: nodes}
}

func (p plant) layOnto(nodes *[]ast.Node, groups *int) int {
	n := p.node
	if n.Kind == ast.Group {
		*groups++
		n.N = *groups
	}
	for i, child := range p.children {
		place := child.layOnto(nodes, groups)
		if i == 0 {
			n.A = place
		} else {
			n.B = place
		}
	}
	*nodes = append(*nodes, n)
	return len(*nodes) - 1
}

// has tells whether a node of the kind is in the plant.
func (p plant) has(kind int) bool {
	for _, child := range p.children {
		if child.has(kind) {
			return true
		}
	}
	return p.node.Kind == kind
}

func leaf(kind int) plant    { return plant{node: ast.Node{Kind: kind}} }
func catOf(p, q plant) plant { return plant{ast.Node{Kind: ast.Cat}, []plant{p, q}} }
func around(kind int, p plant) plant {
	return plant{ast.Node{Kind: kind}, []plant{p}}
}

func times(p plant, least, most, mode int) plant {
	return plant{ast.Node{Kind: ast.Repeat, Min: least, Max: most, Mode: mode}, []plant{p}}
}

// besideGroup is a plant behind a group that takes a byte, that a Back can ask for.
func besideGroup(p plant) plant {
	return catOf(around(ast.Group, times(plant{node: anyByte}, 0, 1, ast.Greedy)), p)
}

// flat is the plants in a row, as flat as they may be.
func flat(l []plant) plant {
	if len(l) == 1 {
		return l[0]
	}
	return catOf(flat(l[:len(l)/2]), flat(l[len(l)/2:]))
}

// plantsOf are all plants of at most so many nodes, of these leaves, nodes of one child and nodes of two.
func plantsOf(nodes int, leaves, ones, twos []ast.Node) []plant {
	sizes := make([][]plant, nodes+1)
	for _, n := range leaves {
		sizes[1] = append(sizes[1], plant{node: n})
	}
	for size := 2; size <= nodes; size++ {
		for _, n := range ones {
			for _, p := range sizes[size-1] {
				sizes[size] = append(sizes[size], plant{n, []plant{p}})
			}
		}
		for _, n := range twos {
			for left := 1; left < size-1; left++ {
				for _, p := range sizes[left] {
					for _, q := range sizes[size-1-left] {
						sizes[size] = append(sizes[size], plant{n, []plant{p, q}})
					}
				}
			}
		}
	}
	return slices.Concat(sizes...)
}

// textsOf are all texts of at most so many of the letters.
func textsOf(letters string, most int) []string {
	texts, last := []string{""}, []string{""}
	for range most {
		var next []string
		for _, s := range last {
			for i := range len(letters) {
				next = append(next, s+letters[i:i+1])
			}
		}
		texts, last = append(texts, next...), next
	}
	return texts
}

// drawer draws numbers by a fixed rule.
type drawer uint64

func (d *drawer) below(n int) int {
	*d = *d*6364136223846793005 + 1442695040888963407
	return int(*d>>33) % n
}

// statesText is states as a text: each one's place, and its groups, if the tree has such.
func statesText(states []State, groups int) string {
	var l []string
	for _, x := range states {
		l = append(l, stateText(x, groups))
	}
	return strings.Join(l, " ")
}

package bound

import (
	"math/big"
	"testing"

	"clew/api"
	"clew/ast"
)

// longOf is how long a plant is, told anew from the document's words, by numbers that have no end.
func longOf(p plant, n int) *big.Int {
	sum := big.NewInt(1)
	switch children := p.children; p.node.Kind {
	case ast.Cat:
		sum.Add(sum, longOf(children[0], n)).Add(sum, longOf(children[1], n))
	case ast.Alt:
		one, other := longOf(children[0], n), longOf(children[1], n)
		if one.Cmp(other) < 0 {
			one = other
		}
		sum.Add(sum, one)
	case ast.Group:
		sum.Add(big.NewInt(2), longOf(children[0], n))
	case ast.Ahead, ast.NotAhead, ast.Behind, ast.NotBehind, ast.Atomic:
		sum.Add(big.NewInt(3), longOf(children[0], n))
	case ast.Repeat:
		often := p.node.Min + n + 1
		if most := p.node.Max + 1; p.node.Max >= 0 && often > most {
			often = most
		}
		each := longOf(children[0], n)
		each.Add(each, big.NewInt(1)).Mul(each, big.NewInt(int64(often)))
		sum.Add(big.NewInt(4), each)
	}
	if most := big.NewInt(1 << 40); sum.Cmp(most) > 0 {
		return most
	}
	return sum
}

// stepsOf is n and 1, doubled so often, by numbers that have no end; infinity, where that is too great.
func stepsOf(long, n int) float64 {
	steps := big.NewInt(int64(n + 1))
	f, _ := new(big.Float).SetInt(steps.Lsh(steps, uint(min(long, 5000)))).Float64()
	return f
}

func holdWords(t *testing.T, p plant, sizes []int) bool {
	t.Helper()
	tree := p.tree()
	if ast.Right(tree) != api.OK {
		return false
	}
	for _, n := range sizes {
		long := int(longOf(p, n).Int64()) + 1
		holdLong(t, tree, n, long)
		holdSteps(t, tree, n, stepsOf(long, n))
	}
	if t.Failed() {
		t.FailNow()
	}
	return true
}

// P14.1: all trees of up to four nodes of all kinds.
func TestWordsOfSmallTrees(t *testing.T) {
	leaves := []ast.Node{{Kind: ast.Empty}, letterA, {Kind: ast.Begin}, {Kind: ast.End}, {Kind: ast.LineBegin}, {Kind: ast.LineEnd}, {Kind: ast.Word}, {Kind: ast.NotWord}}
	trees := 0
	for _, p := range plantsOf(4, leaves, ones, twos) {
		if holdWords(t, p, []int{0, 1, 5, 10000}) {
			trees++
		}
	}
	if trees < 20000 {
		t.Error("too few:", trees)
	}
}

// P14.1: greater trees of all kinds, drawn by a fixed rule.
func TestWordsOfDrawnTrees(t *testing.T) {
	draw := drawer(14)
	trees := 0
	for i := range 6000 {
		if holdWords(t, besideGroup(around(ast.Group, draw.plant(2+i%9))), []int{0, 1, 2, 3, 100, 9999, 10000}) {
			trees++
		}
	}
	if trees < 2000 {
		t.Error("too few:", trees)
	}
}

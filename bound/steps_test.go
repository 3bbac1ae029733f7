package bound

import (
	"math"
	"testing"

	"clew/api"
	"clew/ast"
	"clew/limit"
)

// holdSteps holds Steps, and Enough whose Steps and Room are both that, and that may be.
func holdSteps(t *testing.T, tree ast.Tree, n int, want float64) {
	t.Helper()
	if got, wrong := Steps(tree, n); got != want || wrong != api.OK {
		t.Errorf("Steps(%v, %d) = %v, %d instead of %v", tree.Nodes, n, got, wrong, want)
	}
	b, wrong := Enough(tree, n)
	if b != (limit.Budget{Steps: want, Room: want}) || wrong != api.OK {
		t.Errorf("Enough(%v, %d) = %v, %d instead of twice %v", tree.Nodes, n, b, wrong, want)
	}
	if !limit.Right(b) {
		t.Error("such a budget may not be:", b)
	}
}

// P14.1: n and 1, doubled as often as Long tells.
func TestSteps(t *testing.T) {
	for _, x := range []struct {
		pattern string
		n       int
		want    float64
	}{
		{"", 0, 4}, {"a", 0, 4}, {"a", 1, 8}, {"a", 2, 12}, {"a", 3, 16}, {"a", 9999, 40000}, {"a", 10000, 40004},
		{"ab", 0, 16}, {"ab", 6, 112}, {"a|b", 0, 8}, {"a|b", 4, 40}, {"(a)", 1, 32}, {"(?=a)", 1, 64}, {"(?>(a))", 2, 384},
		{"a*", 0, 128}, {"a*", 1, 1024}, {"a*", 2, 6144}, {"a*", 3, 32768}, {"a*", 10, 11 << 27}, {"a{0}", 10, 1408}, {"a{2}", 2, 6144}, {"a?b", 2, 3 << 11},
		{"a*b*", 3, 4 << 26},
	} {
		holdSteps(t, parsed(t, x.pattern), x.n, x.want)
	}
	for long := 1; long < 1000; long++ {
		tree := treeAsLong(long)
		for _, n := range []int{0, 1, 2, 6, 9999, 10000} {
			holdSteps(t, tree, n, math.Ldexp(float64(n+1), long+1))
		}
	}
}

// P14.1: the last numbers that a float64 has, and infinity behind them.
func TestStepsUpToInfinity(t *testing.T) {
	none := math.Inf(1)
	for _, x := range []struct {
		n, last int // how long Long is where there is a number still
		most    float64
	}{
		{0, 1023, 0x1p1023}, {1, 1022, 0x1p1023}, {2, 1022, 0x1.8p1023}, {3, 1021, 0x1p1023}, {6, 1021, 0x1.cp1023}, {7, 1020, 0x1p1023},
		{8190, 1011, 0x1.fffp1023}, {8191, 1010, 0x1p1023}, {9999, 1010, 0x1.388p1023}, {10000, 1010, 0x1.3888p1023},
	} {
		holdSteps(t, treeAsLong(x.last-2), x.n, x.most/2)
		holdSteps(t, treeAsLong(x.last-1), x.n, x.most)
		for _, above := range []int{0, 1, 2, 50, 1000, 1 << 20, cut - x.last, 2 * cut} {
			holdSteps(t, treeAsLong(x.last+above), x.n, none)
		}
	}
}

// P14.1: trees whose steps are a number or none, by how long the text is.
func TestStepsByTheText(t *testing.T) {
	tree := parsed(t, "a*")
	// Long is 2n + 7.
	holdSteps(t, tree, 502, 503*0x1p1011)
	holdSteps(t, tree, 503, 504*0x1p1013)
	holdSteps(t, tree, 504, 505*0x1p1015)
	for _, n := range []int{505, 506, 1000, 10000} {
		holdSteps(t, tree, n, math.Inf(1))
	}
	// A text without bytes has an end of all this too.
	holdSteps(t, deepRepeats(39), 0, math.Ldexp(1, 197))
	holdSteps(t, catOfMany(250), 0, math.Ldexp(1, 500))
	holdSteps(t, catOfMany(250), 10000, math.Ldexp(10001, 500))
	holdSteps(t, wrappedOften(ast.Node{Kind: ast.Repeat, Min: 100, Max: 100}, 3), 0, math.Inf(1))
	for deep := 3; deep < 40; deep++ {
		holdSteps(t, deepRepeats(deep), 10000, math.Inf(1))
	}
}

// P14.1: such a budget is a meter's: all that it allows can be used, and no more.
func TestEnoughIsABudget(t *testing.T) {
	for _, x := range []struct {
		pattern string
		n       int
	}{{"a", 3}, {"a|b", 0}, {"a*", 10}} {
		b, _ := Enough(parsed(t, x.pattern), x.n)
		for range 2 {
			m, wrong := limit.New(b)
			if wrong != api.OK || !m.Step(int(b.Steps)) || !m.Hold(int(b.Room)) || m.Step(1) || m.Hold(1) {
				t.Error("the meter of", b, wrong)
			}
		}
	}
	b, _ := Enough(deepRepeats(5), 10000)
	m, wrong := limit.New(b)
	if wrong != api.OK || !m.Step(math.MaxInt) || !m.Hold(math.MaxInt) {
		t.Error("the meter without end:", b, wrong)
	}
}

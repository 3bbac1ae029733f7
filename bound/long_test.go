package bound

import (
	"strings"
	"testing"

	"clew/api"
	"clew/ast"
	"clew/parse"
)

func parsed(t *testing.T, pattern string) ast.Tree {
	t.Helper()
	tree, wrong := parse.Parse(pattern)
	if wrong != api.OK {
		t.Fatal("no tree:", pattern, wrong)
	}
	return tree
}

func holdLong(t *testing.T, tree ast.Tree, n, want int) {
	t.Helper()
	if got, wrong := Long(tree, n); got != want || wrong != api.OK {
		t.Errorf("Long(%v, %d) = %d, %d instead of %d", tree.Nodes, n, got, wrong, want)
	}
}

// The document's examples.
func TestExamples(t *testing.T) {
	for _, x := range []struct {
		pattern string
		long    int
		steps   float64
	}{{"a", 2, 16}, {"a*", 13, 32768}} {
		tree := parsed(t, x.pattern)
		holdLong(t, tree, 3, x.long)
		if got, wrong := Steps(tree, 3); got != x.steps || wrong != api.OK {
			t.Error("Steps:", x.pattern, got, wrong)
		}
		if got, wrong := Enough(tree, 3); got.Steps != x.steps || got.Room != x.steps || wrong != api.OK {
			t.Error("Enough:", x.pattern, got, wrong)
		}
	}
}

// P14.1: all but repeats are as long in each text.
func TestLongOfKinds(t *testing.T) {
	for pattern, root := range map[string]int{
		"": 1, "a": 1, "[a-z]": 1, "^": 1, "$": 1, "(?m:^)": 1, "(?m:$)": 1, `\b`: 1, `\B`: 1,
		"ab": 3, "abc": 5, "a(?:bc)": 5, "a|b": 2, "a|b|c": 3, "a|(?:b|c)": 3, "ab|c": 4, "a|bc": 4, "abc|de": 6, "ab|cde": 6, "a(?:b|c)": 4, "(?:a|b)c": 4, "(?:a|bc)(?:de|f)": 9, "ab|ab": 4,
		"(a)": 3, "((a))": 5, "(ab)": 5, "(a)|b": 4, "a|(b)": 4, "(a)b": 5, "a(b)": 5, `(a)\1`: 5, `(a)(?i:\1)`: 5, "(a|b)": 4,
		"(?=a)": 4, "(?!a)": 4, "(?<=a)": 4, "(?<!a)": 4, "(?>a)": 4,
		"(?=ab)": 6, "(?!ab)": 6, "(?<=ab)": 6, "(?<!ab)": 6, "(?>ab)": 6,
		"(?=(?!a))": 7, "(?!(?<=a))": 7, "(?<=(?<!a))": 7, "(?<!(?>a))": 7, "(?>(?=a))": 7,
		"(?=a)b": 6, "a(?!b)": 6, "(?<=a)|b": 5, "a|(?<!b)": 5, "((?>a))": 6, "(?>(a))": 6,
		strings.Repeat("a", 20): 39, strings.Repeat("a|", 39) + "a": 40,
	} {
		for _, n := range rightSizes {
			holdLong(t, parsed(t, pattern), n, root+1)
		}
	}
	for _, x := range []struct {
		tree ast.Tree
		root int
	}{{catOfMany(250), 499}, {wrappedOften(ast.Node{Kind: ast.Atomic}, 39), 118}, {wrappedOften(ast.Node{Kind: ast.Ahead}, 1), 4}} {
		holdLong(t, x.tree, 10000, x.root+1)
	}
}

// P14.1: a repeat's turns are as many as Min and n, but at most Max, and one more.
func TestLongOfRepeats(t *testing.T) {
	for _, x := range []struct {
		often string
		turns map[int]int // by n
	}{
		{"*", map[int]int{0: 1, 1: 2, 2: 3, 3: 4, 99: 100, 100: 101, 101: 102, 9999: 10000, 10000: 10001}},
		{"+", map[int]int{0: 2, 1: 3, 2: 4, 10000: 10002}},
		{"{7,}", map[int]int{0: 8, 1: 9, 7: 15, 8: 16, 10000: 10008}},
		{"{100,}", map[int]int{0: 101, 1: 102, 100: 201, 10000: 10101}},
		{"?", map[int]int{0: 1, 1: 2, 2: 2, 10000: 2}},
		{"{0}", map[int]int{0: 1, 1: 1, 2: 1, 10000: 1}},
		{"{1}", map[int]int{0: 2, 1: 2, 2: 2, 10000: 2}},
		{"{0,3}", map[int]int{0: 1, 1: 2, 2: 3, 3: 4, 4: 4, 10000: 4}},
		{"{2,4}", map[int]int{0: 3, 1: 4, 2: 5, 3: 5, 4: 5, 10000: 5}},
		{"{5}", map[int]int{0: 6, 1: 6, 5: 6, 6: 6, 10000: 6}},
		{"{0,100}", map[int]int{0: 1, 50: 51, 99: 100, 100: 101, 101: 101, 10000: 101}},
		{"{99,100}", map[int]int{0: 100, 1: 101, 2: 101, 10000: 101}},
		{"{100}", map[int]int{0: 101, 1: 101, 10000: 101}},
	} {
		for child, long := range map[string]int{"a": 1, "(?:)": 1, "(?:ab)": 3, "(?:a|b)": 2, "(a)": 3, "(?=a)": 4, "(?>(a)|b)": 7} {
			for _, mode := range []string{"", "?", "+"} {
				tree := parsed(t, child+x.often+mode)
				for n, turns := range x.turns {
					holdLong(t, tree, n, 4+turns*(1+long)+1)
				}
			}
		}
	}
}

// P14.1: what stands around and beside repeats, and repeats in one another.
func TestLongAroundRepeats(t *testing.T) {
	for pattern, roots := range map[string][3]int{ // by n of 0, 1 and 3
		"a*":            {6, 8, 12},
		"(a*)":          {8, 10, 14},
		"(?=a*)":        {9, 11, 15},
		"a*b":           {8, 10, 14},
		"ba*":           {8, 10, 14},
		"a*|b":          {7, 9, 13},
		"b|a*":          {7, 9, 13},
		"a*|b{2,3}":     {11, 13, 13},
		"b{2,3}|a*":     {11, 13, 13},
		"a*|b{1,2}":     {9, 11, 13},
		"b{1,2}|a*":     {9, 11, 13},
		"a*b*":          {13, 17, 25},
		"(?:a*)*":       {11, 22, 56},
		"(?:a*){2}":     {25, 31, 43},
		"(?:a{2}){0,2}": {15, 26, 37},
		"(?:(a)*b)+":    {26, 49, 119},
	} {
		for i, n := range []int{0, 1, 3} {
			holdLong(t, parsed(t, pattern), n, roots[i]+1)
		}
	}
}

const cut = 1 << 40

// deepRepeats is a letter in repeats without end within one another.
func deepRepeats(deep int) ast.Tree {
	return wrappedOften(ast.Node{Kind: ast.Repeat, Max: -1}, deep)
}

// P14.1: what the nodes have is cut, and the root's 1 is added to that.
func TestLongIsCut(t *testing.T) {
	holdLong(t, deepRepeats(1), 10000, 4+10001*2+1)
	holdLong(t, deepRepeats(2), 10000, 4+10001*20007+1)
	for deep := 3; deep < 40; deep++ {
		holdLong(t, deepRepeats(deep), 10000, cut+1)
	}
	// In no byte each repeat has one turn: it adds 5.
	holdLong(t, deepRepeats(39), 0, 1+5*39+1)
	// In one byte each has two: it doubles, and adds 6.
	holdLong(t, deepRepeats(37), 1, 7<<37-6+1)
	holdLong(t, deepRepeats(38), 1, cut+1)
	holdLong(t, deepRepeats(39), 1, cut+1)
}

// treeAsLong is a tree whose root is as long as asked for in each text, told backwards from the root: a repeat of so many turns, if it comes out even; else an Alt, that adds 1.
func treeAsLong(long int) ast.Tree {
	if long == 1 {
		return ast.Leaf(letterA)
	}
	least := min(30, max(long/10, 2))
	for turns := 101; turns >= least; turns-- {
		if child := (long-4)/turns - 1; child > 0 && (long-4)%turns == 0 {
			return ast.Wrap(treeAsLong(child), ast.Node{Kind: ast.Repeat, Min: turns - 1, Max: turns - 1})
		}
	}
	return ast.Join(treeAsLong(long-1), ast.Leaf(letterB), ast.Alt)
}

// P14.1: the last numbers below the cut, the cut, and the first ones above it, at the root and within.
func TestLongAtTheCut(t *testing.T) {
	for _, long := range []int{1, 2, 7, 40, 1000, cut / 2, cut - 100, cut - 3, cut - 2, cut - 1, cut, cut + 1, cut + 2, 5 * cut} {
		tree := treeAsLong(long)
		for _, n := range []int{0, 10000} {
			holdLong(t, tree, n, min(long, cut)+1)
			for kind, more := range map[int]int{ast.Ahead: 3, ast.NotAhead: 3, ast.Atomic: 3} {
				holdLong(t, ast.Wrap(tree, ast.Node{Kind: kind}), n, min(long+more, cut)+1)
			}
			holdLong(t, ast.Wrap(tree, ast.Node{Kind: ast.Group, N: 1}), n, min(long+2, cut)+1)
			holdLong(t, ast.Wrap(tree, ast.Node{Kind: ast.Repeat}), n, min(long+5, cut)+1)
			holdLong(t, ast.Wrap(tree, ast.Node{Kind: ast.Repeat, Min: 1, Max: 1}), n, min(2*long+6, cut)+1)
			holdLong(t, ast.Join(tree, ast.Leaf(letterB), ast.Alt), n, min(long+1, cut)+1)
			holdLong(t, ast.Join(ast.Leaf(letterB), tree, ast.Alt), n, min(long+1, cut)+1)
			holdLong(t, ast.Join(tree, ast.Leaf(letterB), ast.Cat), n, min(long+2, cut)+1)
			holdLong(t, ast.Join(ast.Leaf(letterB), tree, ast.Cat), n, min(long+2, cut)+1)
			holdLong(t, ast.Join(tree, tree, ast.Cat), n, min(2*long+1, cut)+1)
			holdLong(t, ast.Join(tree, tree, ast.Alt), n, min(long+1, cut)+1)
		}
	}
}

// P14.1: what is cut counts as that around it, also with the most turns there can be.
func TestLongAroundTheCut(t *testing.T) {
	inner := deepRepeats(20)
	for _, n := range []int{1000, 10000} {
		holdLong(t, inner, n, cut+1)
		for range 18 {
			inner = ast.Wrap(inner, ast.Node{Kind: ast.Repeat, Min: 100, Max: -1})
			holdLong(t, inner, n, cut+1)
			holdLong(t, ast.Join(inner, inner, ast.Cat), n, cut+1)
		}
		inner = deepRepeats(20)
	}
}

package ast

import (
	"fmt"
	"math"
	"slices"
	"testing"

	"clew/api"
	"clew/class"
)

// P5.1

func TestKindsAsNumbers(t *testing.T) {
	for want, kind := range []int{Empty, Bytes, Begin, End, LineBegin, LineEnd, Word, NotWord, Cat, Alt, Repeat, Group, Back, Ahead, NotAhead, Behind, NotBehind, Atomic, Kinds} {
		if kind != want {
			t.Errorf("kind %d has the number %d", want, kind)
		}
	}
	if Greedy != 0 || Lazy != 1 || Possessive != 2 {
		t.Error("modes")
	}
}

func TestRightOfEachKind(t *testing.T) {
	for kind := range Kinds {
		wantRight(t, fmt.Sprint("kind ", kind), smallest(kind).tree(), api.OK)
		if kind != Back {
			wantRight(t, fmt.Sprint("kind within ", kind), ofKind(Cat, letter('x'), smallest(kind)).tree(), api.OK)
		}
	}
}

func TestRightOfNone(t *testing.T) {
	wantRight(t, "nil", Tree{}, api.ErrForm)
	wantRight(t, "no nodes", Tree{Nodes: []Node{}}, api.ErrForm)
}

func TestKindsThatAreNone(t *testing.T) {
	for _, kind := range noKinds {
		what := fmt.Sprint("kind ", kind)
		wantRight(t, what, ofKind(kind).tree(), api.ErrForm)
		wantRight(t, what, ofKind(kind, letter('a')).tree(), api.ErrForm)
		wantRight(t, what, ofKind(kind, letter('a'), letter('b')).tree(), api.ErrForm)
		wantRight(t, what, ofKind(Atomic, ofKind(kind)).tree(), api.ErrForm)
		wantRight(t, what, ofKind(Cat, ofKind(kind), letter('a')).tree(), api.ErrForm)
		wantRight(t, what, ofKind(Cat, letter('a'), ofKind(kind)).tree(), api.ErrForm)
	}
}

// P5.1: of each kind each field, on its own; those that the kind has are not zero, and that is no ErrForm.
func TestFieldsThatAreToBeZero(t *testing.T) {
	has := map[int][]string{Bytes: {"Set"}, Repeat: {"Min", "Max", "Mode"}, Group: {"N"}, Back: {"N", "Fold"}}
	for kind := range Kinds {
		for name, changes := range fields() {
			// Children that stand elsewhere are another test's.
			isChild := name == "A" && !slices.Contains(leafKinds, kind) || name == "B" && slices.Contains(joinKinds, kind)
			if isChild || slices.Contains(has[kind], name) {
				continue
			}
			for i, change := range changes {
				nodes := rooted(kind).nodes()
				change(&nodes[len(nodes)-1])
				wantRight(t, fmt.Sprint("kind ", kind, " with ", name, " ", i), Tree{Nodes: nodes}, api.ErrForm)
				// The same within another node.
				nodes = append(nodes, Node{Kind: Atomic, A: len(nodes) - 1})
				wantRight(t, fmt.Sprint("kind ", kind, " within, with ", name, " ", i), Tree{Nodes: nodes}, api.ErrForm)
			}
		}
	}
	for _, set := range []class.Set{{}, class.One(0), class.One(255), class.All()} {
		wantRight(t, "a set", grow(Node{Kind: Bytes, Set: set}).tree(), api.OK)
	}
	for _, fold := range []bool{false, true} {
		again := grow(Node{Kind: Back, N: 1, Fold: fold})
		wantRight(t, "a Back's Fold", row(group(1, letter('a')), again).tree(), api.OK)
	}
}

// P5.1: A and B of nodes with children, each at all places about.
func TestChildrenElsewhere(t *testing.T) {
	for _, p := range []plant{
		smallest(Atomic), smallest(Repeat), smallest(Group), smallest(Cat), smallest(Alt),
		row(letter('a'), letter('b'), letter('c')),
		ofKind(Alt, letter('a'), row(letter('b'), letter('c'))),
		row(ofKind(Ahead, letter('a')), ofKind(Atomic, ofKind(Atomic, letter('b')))),
		ofKind(Cat, row(letter('a'), letter('b')), row(letter('c'), letter('d'))),
	} {
		right := p.nodes()
		wantRight(t, "a plant", Tree{Nodes: right}, api.OK)
		for i := range right {
			for _, place := range []int{math.MinInt, -2, -1, 0, 1, 2, 3, 4, 5, 6, 7, 8, 500, math.MaxInt} {
				for _, a := range []bool{true, false} {
					nodes := slices.Clone(right)
					field := &nodes[i].B
					if a {
						field = &nodes[i].A
					}
					if *field == place {
						continue
					}
					*field = place
					wantRight(t, fmt.Sprint("node ", i, " at ", place), Tree{Nodes: nodes}, api.ErrForm)
				}
			}
		}
	}
}

func TestNodesOutOfOrder(t *testing.T) {
	a, b := letter('a').node, letter('b').node
	for what, nodes := range map[string][]Node{
		"a node left over":                  {a, b},
		"a node left over ahead":            {a, b, {Kind: Atomic, A: 1}},
		"a node left over behind":           {a, {Kind: Atomic, A: 0}, b},
		"a child that is no neighbour":      {a, b, {Kind: Atomic, A: 0}},
		"a node left over ahead of a Cat":   {a, a, b, {Kind: Cat, A: 1, B: 2}},
		"a node left over within a Cat":     {a, a, b, {Kind: Cat, A: 0, B: 2}},
		"children swapped":                  {a, b, {Kind: Cat, A: 1, B: 0}},
		"one child twice":                   {a, {Kind: Cat, A: 0, B: 0}},
		"one child twice, one left over":    {a, b, {Kind: Alt, A: 1, B: 1}},
		"a child of two":                    {a, {Kind: Atomic, A: 0}, {Kind: Cat, A: 0, B: 1}},
		"the root first":                    {{Kind: Cat, A: 1, B: 2}, a, b},
		"the root in the middle":            {a, {Kind: Cat, A: 0, B: 2}, b},
		"a node around itself":              {{Kind: Atomic, A: 0}},
		"a node around itself, behind one":  {a, {Kind: Atomic, A: 1}},
		"a node around nothing":             {{Kind: Atomic, A: -1}},
		"a Cat of nothing":                  {{Kind: Cat}},
		"a Cat of nothing, below 0":         {{Kind: Cat, A: -2, B: -1}},
		"a Cat of one":                      {a, {Kind: Cat, A: -1, B: 0}},
		"a Cat of one that begins at 0":     {a, {Kind: Atomic, A: 0}, {Kind: Cat, A: -1, B: 1}},
		"two around one another":            {{Kind: Atomic, A: 1}, {Kind: Atomic, A: 0}},
		"the second child within the first": {a, b, {Kind: Cat, A: 0, B: 1}, a, {Kind: Cat, A: 1, B: 3}},
	} {
		wantRight(t, what, Tree{Nodes: nodes}, api.ErrForm)
	}
}

// P5.1: all rows of up to 3 nodes, with all A and B about: no other stands in order than what a plant makes.
func TestAllSmallRows(t *testing.T) {
	kinds := []Node{{Kind: Empty}, {Kind: Atomic}, {Kind: Cat}}
	type row struct {
		many  int
		nodes [3]Node
	}
	rowOf := func(nodes []Node) row {
		r := row{many: len(nodes)}
		copy(r.nodes[:], nodes)
		return r
	}
	right := map[row]bool{}
	for _, p := range plantsUpTo(3, kinds[:1], kinds[1:2], kinds[2:]) {
		right[rowOf(p.nodes())] = true
	}
	var all func(nodes []Node)
	all = func(nodes []Node) {
		want := api.ErrForm
		if right[rowOf(nodes)] {
			want = api.OK
		}
		if got := Right(Tree{Nodes: nodes}); got != want {
			t.Fatalf("Right(%v) = %d; want %d", nodes, got, want)
		}
		if len(nodes) == 3 {
			return
		}
		for _, n := range kinds {
			for n.A = -1; n.A <= 3; n.A++ {
				for n.B = -1; n.B <= 3; n.B++ {
					all(append(nodes, n))
				}
			}
		}
	}
	all(nil)
}

// P5.1: all rows of up to 9 kinds, with A and B where a stack of trees has them: they stand in order just if one tree is left.
func TestAllRowsOfKinds(t *testing.T) {
	type tree struct{ first, last int }
	var all func(nodes []Node, stack []tree, left int)
	all = func(nodes []Node, stack []tree, left int) {
		want := api.ErrForm
		if len(stack) == 1 {
			want = api.OK
		}
		if got := Right(Tree{Nodes: nodes}); got != want {
			t.Fatalf("Right(%v) = %d; want %d", nodes, got, want)
		}
		if left == 0 {
			return
		}
		at, top := len(nodes), len(stack)-1
		all(append(nodes, Node{}), append(stack, tree{at, at}), left-1)
		if top >= 0 {
			one := append(slices.Clone(stack[:top]), tree{stack[top].first, at})
			all(append(nodes, Node{Kind: NotAhead, A: stack[top].last}), one, left-1)
		}
		if top >= 1 {
			two := append(slices.Clone(stack[:top-1]), tree{stack[top-1].first, at})
			all(append(nodes, Node{Kind: Alt, A: stack[top-1].last, B: stack[top].last}), two, left-1)
		}
	}
	all(nil, nil, 9)
}

func TestManyNodes(t *testing.T) {
	// Trees that are as wide as deep ones are not: two halves, and so on.
	var wide func(leaves int) plant
	wide = func(leaves int) plant {
		if leaves == 1 {
			return letter('a')
		}
		return ofKind(Cat, wide(leaves/2), wide(leaves-leaves/2))
	}
	for _, c := range []struct {
		p    plant
		many int
		want api.Errno
	}{
		{wide(250), 499, api.OK},
		{ofKind(Atomic, wide(250)), 500, api.OK},
		{wide(251), 501, api.ErrBig},
		{ofKind(Atomic, wide(251)), 502, api.ErrBig},
	} {
		tree := c.p.tree()
		if len(tree.Nodes) != c.many {
			t.Fatalf("%d nodes, not %d", len(tree.Nodes), c.many)
		}
		wantRight(t, fmt.Sprint(c.many, " nodes"), tree, c.want)
	}
}

func TestDeepTrees(t *testing.T) {
	left, right := letter('a'), letter('a')
	for range 39 {
		left, right = ofKind(Cat, left, letter('b')), ofKind(Alt, letter('b'), right)
	}
	for what, p := range map[string]plant{"nested": nested(letter('a'), 39), "to the left": left, "to the right": right} {
		wantRight(t, what+", 40 deep", p.tree(), api.OK)
		wantRight(t, what+", 41 deep", ofKind(Ahead, p).tree(), api.ErrBig)
		wantRight(t, what+", 41 deep ahead", ofKind(Cat, p, letter('c')).tree(), api.ErrBig)
		wantRight(t, what+", 41 deep behind", ofKind(Cat, letter('c'), p).tree(), api.ErrBig)
		wantRight(t, what+", 42 deep", nested(p, 2).tree(), api.ErrBig)
	}
}

func TestHowManyGroups(t *testing.T) {
	for _, c := range []struct {
		many int
		want api.Errno
	}{{0, api.OK}, {1, api.OK}, {8, api.OK}, {9, api.OK}, {10, api.ErrGroup}, {11, api.ErrGroup}} {
		inner, beside := letter('a'), letter('a')
		for n := range c.many {
			inner = group(c.many-n, inner)
			beside = ofKind(Cat, beside, group(n+1, letter('b')))
		}
		wantRight(t, fmt.Sprint(c.many, " groups within one another"), inner.tree(), c.want)
		wantRight(t, fmt.Sprint(c.many, " groups one behind the other"), beside.tree(), c.want)
	}
}

func TestGroupsByHand(t *testing.T) {
	a, b := letter('a'), letter('b')
	for _, c := range []struct {
		what string
		p    plant
		want api.Errno
	}{
		{"(a)(b)", row(group(1, a), group(2, b)), api.OK},
		{"in another order", row(group(2, a), group(1, b)), api.ErrGroup},
		{"((a)b)", group(1, row(group(2, a), b)), api.OK},
		{"the inner one first, that begins at the same node", group(2, row(group(1, a), b)), api.ErrGroup},
		{"((a))", group(1, group(2, a)), api.OK},
		{"((a)), the inner one first", group(2, group(1, a)), api.ErrGroup},
		{"(b(a))", group(1, row(b, group(2, a))), api.OK},
		{"(b(a)), the inner one first", group(2, row(b, group(1, a))), api.ErrGroup},
		{"((a)b)(a)", row(group(1, row(group(2, a), b)), group(3, a)), api.OK},
		{"((a)b)(a) as they end", row(group(2, row(group(1, a), b)), group(3, a)), api.ErrGroup},
		{"((a)b)(a), from outside", row(group(1, row(group(3, a), b)), group(2, a)), api.ErrGroup},
		{"(?:((a)b))*|(a)", ofKind(Alt, repeat(0, -1, group(1, row(group(2, a), b))), group(3, a)), api.OK},
		{"twice", row(group(1, a), group(1, b)), api.ErrGroup},
		{"the second one missing", row(group(1, a), group(3, b)), api.ErrGroup},
		{"the first one missing", group(2, a), api.ErrGroup},
		{"0", group(0, a), api.ErrGroup},
		{"0 and 1", row(group(0, a), group(1, a)), api.ErrGroup},
		{"below 0", group(-1, a), api.ErrGroup},
		{"far below 0", group(math.MinInt, a), api.ErrGroup},
		{"far above", group(math.MaxInt, a), api.ErrGroup},
	} {
		wantRight(t, c.what, c.p.tree(), c.want)
	}
}

// P5.1: all small plants with groups, with all numbers about: they are right as their parentheses open, and in no other way.
func TestGroupsOfAllSmallTrees(t *testing.T) {
	for _, p := range plantsUpTo(6, []Node{{}}, []Node{{Kind: Group}, {Kind: Atomic}}, []Node{{Kind: Cat}}) {
		p, next := p.numbered(1)
		right := p.nodes()
		wantRight(t, fmt.Sprint(right), Tree{Nodes: right}, api.OK)
		for i, n := range right {
			if n.Kind != Group {
				continue
			}
			for other := -1; other <= next+1; other++ {
				nodes := slices.Clone(right)
				nodes[i].N = other
				if other != n.N {
					wantRight(t, "another number", Tree{Nodes: nodes}, api.ErrGroup)
				}
			}
			for j, m := range right[:i] {
				if m.Kind == Group {
					nodes := slices.Clone(right)
					nodes[i].N, nodes[j].N = m.N, n.N
					wantRight(t, "numbers swapped", Tree{Nodes: nodes}, api.ErrGroup)
				}
			}
		}
	}
}

func TestBacks(t *testing.T) {
	a := letter('a')
	for many := range 10 {
		groups := a
		for n := range many {
			groups = ofKind(Cat, groups, group(n+1, a))
		}
		for _, n := range []int{math.MinInt, -1, 0, 1, 2, 3, 8, 9, 10, math.MaxInt} {
			want := api.ErrGroup
			if n >= 1 && n <= many {
				want = api.OK
			}
			wantRight(t, fmt.Sprint("a Back of ", n, " behind ", many), ofKind(Cat, groups, back(n)).tree(), want)
			wantRight(t, fmt.Sprint("a Back of ", n, " ahead of ", many), ofKind(Alt, back(n), groups).tree(), want)
		}
	}
	wantRight(t, "a Back alone", back(1).tree(), api.ErrGroup)
	wantRight(t, "a Back within its group", group(1, row(a, back(1))).tree(), api.OK)
	wantRight(t, "a Back within another group", group(1, row(back(2), group(2, a))).tree(), api.OK)
}

func TestRepeats(t *testing.T) {
	numbers := []int{math.MinInt, -101, -2, -1, 0, 1, 2, 50, 99, 100, 101, 102, math.MaxInt}
	for _, least := range numbers {
		for _, most := range numbers {
			for _, mode := range []int{math.MinInt, -1, Greedy, Lazy, Possessive, 3, math.MaxInt} {
				want := api.ErrForm
				if least >= 0 && least <= 100 && (most == -1 || most >= least && most <= 100) && mode >= 0 && mode <= 2 {
					want = api.OK
				}
				p := grow(Node{Kind: Repeat, Min: least, Max: most, Mode: mode}, letter('a'))
				wantRight(t, fmt.Sprint("a Repeat ", least, ", ", most, ", ", mode), p.tree(), want)
				wantRight(t, "such a Repeat within", row(letter('b'), p, letter('c')).tree(), want)
			}
		}
	}
}

func TestBehinds(t *testing.T) {
	a := letter('a')
	for _, c := range []struct {
		what string
		p    plant
		want api.Errno
	}{
		{"nothing", ofKind(Empty), api.OK},
		{"one byte", a, api.OK},
		{"two", row(a, a), api.OK},
		{"two alike", ofKind(Alt, row(a, a), row(a, a)), api.OK},
		{"two unlike", ofKind(Alt, row(a, a), a), api.ErrBehind},
		{"one or none", ofKind(Alt, a, ofKind(Empty)), api.ErrBehind},
		{"?", repeat(0, 1, a), api.ErrBehind},
		{"*", repeat(0, -1, a), api.ErrBehind},
		{"+", repeat(1, -1, a), api.ErrBehind},
		{"{0}", repeat(0, 0, a), api.OK},
		{"* of nothing", repeat(0, -1, ofKind(Begin)), api.OK},
		{"a Back", row(group(1, a), back(1)), api.ErrBehind},
		{"{0} of a Back", row(group(1, a), repeat(0, 0, back(1))), api.OK},
		{"an Ahead of any length", ofKind(Ahead, repeat(0, -1, a)), api.OK},
		{"an Atomic of any length", ofKind(Atomic, repeat(0, -1, a)), api.ErrBehind},
		{"a group of any length", group(1, repeat(0, -1, a)), api.ErrBehind},
		{"254", row(repeat(100, 100, row(a, a)), repeat(54, 54, a)), api.OK},
		{"255", row(repeat(100, 100, row(a, a)), repeat(55, 55, a)), api.OK},
		{"256", row(repeat(100, 100, row(a, a)), repeat(56, 56, a)), api.ErrBehind},
		{"more than what is cut", repeat(100, 100, repeat(100, 100, repeat(100, 100, repeat(100, 100, a)))), api.ErrBehind},
		{"unlike ones beyond the cut", repeat(99, 100, repeat(100, 100, repeat(100, 100, repeat(100, 100, a)))), api.ErrBehind},
	} {
		for _, kind := range []int{Behind, NotBehind} {
			p := ofKind(kind, c.p)
			wantRight(t, fmt.Sprint(kind, " of ", c.what), p.tree(), c.want)
			wantRight(t, fmt.Sprint(kind, " within, of ", c.what), ofKind(Alt, row(a, ofKind(Atomic, p)), a).tree(), c.want)
		}
		// Of others no one length is asked.
		for _, kind := range []int{Ahead, NotAhead, Atomic} {
			wantRight(t, fmt.Sprint(kind, " of ", c.what), ofKind(kind, c.p).tree(), api.OK)
		}
	}
}

// P5.1: of several errors that apply the first one is told.
func TestFirstError(t *testing.T) {
	a, group0, twoLengths := letter('a'), group(0, letter('a')), ofKind(Behind, repeat(0, 1, letter('a')))
	broken := grow(Node{Kind: Repeat, Min: 2, Max: 1}, a)
	wide := a
	for range 250 {
		wide = ofKind(Cat, wide, a)
	}
	for _, c := range []struct {
		what string
		p    plant
		want api.Errno
	}{
		{"too many, too deep, and all else", row(wide, broken, group0, twoLengths, ofKind(-1)), api.ErrBig},
		{"too many nodes, not in order", grow(Node{}, wide, a), api.ErrBig},
		{"broken and too deep", nested(broken, 41), api.ErrForm},
		{"broken and too deep elsewhere", row(nested(a, 41), broken), api.ErrForm},
		{"a kind that is none and too deep", row(nested(a, 41), ofKind(Kinds)), api.ErrForm},
		{"broken, and a group", row(group0, broken), api.ErrForm},
		{"broken, and behind", row(twoLengths, broken), api.ErrForm},
		{"too deep, and a group", row(group0, nested(a, 41)), api.ErrBig},
		{"too deep, and behind", row(twoLengths, nested(a, 41)), api.ErrBig},
		{"too deep behind", ofKind(Behind, nested(repeat(0, 1, a), 41)), api.ErrBig},
		{"a group, and behind", row(twoLengths, group0), api.ErrGroup},
		{"a Back of none, and behind", row(twoLengths, back(1)), api.ErrGroup},
		{"a Back of none behind", ofKind(Behind, back(1)), api.ErrGroup},
		{"behind alone", row(twoLengths, group(1, a)), api.ErrBehind},
	} {
		wantRight(t, c.what, c.p.tree(), c.want)
	}
	wantRight(t, "501 zero nodes", Tree{Nodes: make([]Node, 501)}, api.ErrBig)
	wantRight(t, "500 zero nodes", Tree{Nodes: make([]Node, 500)}, api.ErrForm)
	wantRight(t, "many odd nodes", Tree{Nodes: slices.Repeat(oddNodes(), 20)}, api.ErrBig)
}

// P5.1, Same

func TestSame(t *testing.T) {
	trees := []Tree{{}, Leaf(Node{}), {Nodes: make([]Node, 2)}, {Nodes: make([]Node, 501)}, nested(letter('a'), 60).tree()}
	for _, n := range oddNodes() {
		trees = append(trees, Tree{Nodes: []Node{{}, n}})
	}
	for _, a := range trees {
		for _, b := range trees {
			want := fmt.Sprint(a) == fmt.Sprint(b)
			if got := Same(a, Tree{Nodes: slices.Clone(b.Nodes)}); got != want {
				t.Errorf("Same(%v, %v) = %v", a, b, got)
			}
		}
	}
	if !Same(Tree{}, Tree{Nodes: []Node{}}) || !Same(Tree{Nodes: []Node{}}, Tree{}) {
		t.Error("nil and empty are the same")
	}
}

func TestSameInAllButOneField(t *testing.T) {
	for _, p := range []plant{letter('a'), row(letter('a'), group(1, repeat(1, 2, letter('b'))), back(1)), smallest(Alt)} {
		tree := p.tree()
		if !Same(tree, p.tree()) {
			t.Errorf("%v is not the same as itself", tree)
		}
		for i := range tree.Nodes {
			for name, changes := range fields() {
				for _, change := range changes {
					other := p.tree()
					change(&other.Nodes[i])
					if other.Nodes[i] != tree.Nodes[i] && (Same(tree, other) || Same(other, tree)) {
						t.Errorf("%v is the same with another %s of node %d", tree, name, i)
					}
				}
			}
			other := p.tree()
			other.Nodes[i].Kind++
			if Same(tree, other) {
				t.Errorf("%v is the same with another kind of node %d", tree, i)
			}
		}
		more := Tree{Nodes: append(p.nodes(), Node{})}
		less := Tree{Nodes: p.nodes()[1:]}
		if Same(tree, more) || Same(more, tree) || Same(tree, less) || Same(less, tree) {
			t.Errorf("%v is the same with a node more or less", tree)
		}
	}
}

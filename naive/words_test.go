package naive

import (
	"slices"
	"strings"
	"testing"

	"clew/api"
	"clew/ast"
	"clew/caps"
	"clew/class"
)

var anyByte = ast.Node{Kind: ast.Bytes, Set: class.All()}

// words tells all outcomes of the trees of nodes, in lists, as the document's words do; left is how many more may be listed.
type words struct {
	nodes []ast.Node
	s     string
	left  int
}

// tooMany is told by panic, where a tree has more outcomes than are to be listed.
type tooMany struct{}

func (w *words) outcomes(i int, x State) []State {
	n := w.nodes[i]
	switch n.Kind {
	case ast.Cat:
		var l []State
		for _, y := range w.outcomes(n.A, x) {
			l = append(l, w.outcomes(n.B, y)...)
		}
		return w.counted(l)
	case ast.Alt:
		return w.counted(append(w.outcomes(n.A, x), w.outcomes(n.B, x)...))
	case ast.Group:
		l := w.outcomes(n.A, x)
		for i := range l {
			l[i].Caps.Is[n.N-1] = true
			l[i].Caps.At[n.N-1] = [2]int{x.Pos, l[i].Pos}
		}
		return l
	case ast.Repeat:
		if n.Mode == ast.Possessive {
			return atMostOne(w.turns(n, x, 0))
		}
		return w.turns(n, x, 0)
	case ast.Atomic:
		return atMostOne(w.outcomes(n.A, x))
	case ast.Ahead, ast.NotAhead, ast.Behind, ast.NotBehind:
		return w.looks(n, x)
	}
	return w.leaf(n, x)
}

func atMostOne(l []State) []State { return l[:min(len(l), 1)] }

func (w *words) counted(l []State) []State {
	w.left -= len(l) + 1
	if w.left < 0 {
		panic(tooMany{})
	}
	return l
}

func (w *words) turns(n ast.Node, y State, k int) []State {
	var on []State
	if k != n.Max {
		for _, z := range w.outcomes(n.A, y) {
			if k >= n.Min && z.Pos <= y.Pos {
				continue
			}
			on = append(on, w.turns(n, z, k+1)...)
		}
	}
	w.counted(on)
	if k < n.Min {
		return on
	}
	if n.Mode == ast.Lazy {
		return append([]State{y}, on...)
	}
	return append(on, y)
}

func (w *words) looks(n ast.Node, x State) []State {
	behind := n.Kind == ast.Behind || n.Kind == ast.NotBehind
	from := x
	if behind {
		length, _, _ := ast.Len(ast.Tree{Nodes: w.nodes}, n.A)
		from.Pos -= length
	}
	var found []State
	if from.Pos >= 0 {
		for _, y := range w.outcomes(n.A, from) {
			if !behind || y.Pos == x.Pos {
				found = append(found, State{x.Pos, y.Caps})
			}
		}
	}
	if n.Kind == ast.Ahead || n.Kind == ast.Behind {
		return atMostOne(found)
	}
	if len(found) > 0 {
		return nil
	}
	return []State{x}
}

func (w *words) leaf(n ast.Node, x State) []State {
	s, at := w.s, x.Pos
	is := false
	switch n.Kind {
	case ast.Empty:
		is = true
	case ast.Bytes:
		if is = at < len(s) && n.Set.Has(s[at]); is {
			x.Pos++
		}
	case ast.Back:
		piece := ""
		if is = x.Caps.Is[n.N-1]; is {
			place := x.Caps.At[n.N-1]
			piece = s[place[0]:place[1]]
		}
		rest := s[at:]
		if n.Fold {
			piece, rest = strings.ToLower(piece), strings.ToLower(rest)
		}
		if is = is && strings.HasPrefix(rest, piece); is {
			x.Pos += len(piece)
		}
	default:
		is = slices.Contains(assertsAt(s, at), n.Kind)
	}
	if !is {
		return nil
	}
	return []State{x}
}

// listed are all outcomes of the tree by the words, and whether they are few enough.
func listed(tree ast.Tree, s string, at int) (l []State, is bool) {
	defer func() {
		if _, many := recover().(tooMany); many {
			l, is = nil, false
		}
	}()
	w := words{tree.Nodes, s, 5000}
	return w.outcomes(len(tree.Nodes)-1, State{Pos: at}), true
}

// holder counts what it holds against the words.
type holder struct{ states, none, groups, matches, skipped int }

// hold holds All at all places of the texts, and Find, against the words.
func (h *holder) hold(t *testing.T, tree ast.Tree, texts []string) {
	t.Helper()
	for _, s := range texts {
		found := caps.Match{}
		is := false
		for at := range len(s) + 1 {
			l, few := listed(tree, s, at)
			if !few {
				h.skipped++
				return
			}
			if len(l) > 0 && !is {
				found, is = caps.Match{From: at, To: l[0].Pos, Caps: l[0].Caps}, true
			}
			h.holdAll(t, tree, s, at, l)
		}
		if got, gotIs, wrong := Find(tree, s); got != found || gotIs != is || wrong != api.OK {
			t.Fatalf("Find of %v in %q = %v, %v, %d; want %v, %v", tree.Nodes, s, got, gotIs, wrong, found, is)
		}
		if is {
			h.matches++
		}
	}
}

func (h *holder) holdAll(t *testing.T, tree ast.Tree, s string, at int, want []State) {
	t.Helper()
	many := []int{1000, len(want) / 2, len(want), len(want) + 1}[(len(s)+at)%4]
	many = min(many, 1000)
	l, wrong := All(tree, s, at, many)
	if !slices.Equal(l, want[:min(len(want), many)]) || wrong != api.OK {
		t.Fatalf("All of %v in %q at %d, %d of them = %s, %d; want %s", tree.Nodes, s, at, many, statesText(l, 2), wrong, statesText(want, 2))
	}
	h.states += len(want)
	if len(want) == 0 {
		h.none++
	}
	for _, x := range want {
		// P11.4: an outcome lies at or behind its beginning.
		if x.Pos < at || x.Pos > len(s) {
			t.Fatal("an outcome lies ahead of its beginning:", tree.Nodes, s, at, x.Pos)
		}
		if x.Caps != (caps.Caps{}) {
			h.groups++
		}
	}
}

var (
	letterA = ast.Node{Kind: ast.Bytes, Set: class.One('a')}
	letterB = ast.Node{Kind: ast.Bytes, Set: class.One('b')}
	twos    = []ast.Node{{Kind: ast.Cat}, {Kind: ast.Alt}}
	ones    = []ast.Node{
		{Kind: ast.Group}, {Kind: ast.Ahead}, {Kind: ast.NotAhead}, {Kind: ast.Behind}, {Kind: ast.NotBehind}, {Kind: ast.Atomic},
		{Kind: ast.Repeat, Max: -1}, {Kind: ast.Repeat}, {Kind: ast.Repeat, Min: 1, Max: -1, Mode: ast.Possessive}, {Kind: ast.Repeat, Min: 1, Max: 1}, {Kind: ast.Repeat, Max: 1, Mode: ast.Lazy}, {Kind: ast.Repeat, Min: 2, Max: 3}, {Kind: ast.Repeat, Min: 1, Max: -1, Mode: ast.Lazy}, {Kind: ast.Repeat, Max: 2, Mode: ast.Possessive},
	}
)

// P11.2, P11.3, P11.4: all trees of up to four nodes of all kinds, at all places of short texts.
func TestSmallTrees(t *testing.T) {
	t.Parallel()
	leaves := []ast.Node{
		{Kind: ast.Empty}, {Kind: ast.Bytes}, letterA, letterB, anyByte,
		{Kind: ast.Begin}, {Kind: ast.End}, {Kind: ast.LineBegin}, {Kind: ast.LineEnd}, {Kind: ast.Word}, {Kind: ast.NotWord}, {Kind: ast.Back, N: 1}, {Kind: ast.Back, N: 1, Fold: true},
	}
	texts := append(textsOf("ab", 2), "\n", "a\n", "aaa", "bab", "aAa", " a ")
	right := 0
	var h holder
	for _, p := range plantsOf(4, leaves, ones, twos) {
		if p.has(ast.Back) {
			p = besideGroup(p)
		}
		tree := p.tree()
		if ast.Right(tree) == api.OK {
			right++
			h.hold(t, tree, texts)
		}
	}
	if right < 30000 || h.states < 1000000 || h.none < 100000 || h.groups < 100000 || h.matches < 100000 || h.skipped > 100 {
		t.Error("too few:", right, h)
	}
}

// P11.2, P11.3, P11.4: greater trees of a few kinds.
func TestTreesOfAFewKinds(t *testing.T) {
	t.Parallel()
	texts := append(textsOf("ab", 2), "aab", "abab")
	few := [][]ast.Node{{ones[0], ones[6]}, {ones[6], ones[11]}, {ones[0], ones[12]}, {ones[1], ones[5]}, {ones[2], ones[3]}, {ones[8], ones[9]}, {ones[10], ones[13]}}
	right := 0
	var h holder
	for _, l := range few {
		for _, p := range plantsOf(6, []ast.Node{{Kind: ast.Empty}, letterA, letterB}, l, twos) {
			tree := p.tree()
			if ast.Right(tree) == api.OK {
				right++
				h.hold(t, tree, texts)
			}
		}
	}
	if right < 10000 || h.states < 500000 || h.none < 10000 || h.groups < 10000 || h.matches < 10000 || h.skipped > right/10 {
		t.Error("too few:", right, h)
	}
}

// leaf draws a node without children.
func (d *drawer) leaf() plant {
	kinds := []int{ast.Empty, ast.Begin, ast.End, ast.LineBegin, ast.LineEnd, ast.Word, ast.NotWord}
	switch draw := d.below(30); {
	case draw < len(kinds):
		return leaf(kinds[draw])
	case draw < 12:
		return plant{node: ast.Node{Kind: ast.Back, N: 1 + d.below(2), Fold: draw%2 == 0}}
	case draw < 15:
		return plant{node: anyByte}
	case draw < 24:
		return plant{node: letterA}
	}
	return plant{node: letterB}
}

// plant draws a plant that is at most so deep.
func (d *drawer) plant(deep int) plant {
	if deep <= 1 || d.below(8) == 0 {
		return d.leaf()
	}
	switch draw := d.below(28); {
	case draw < 11:
		return catOf(d.plant(deep-1), d.plant(deep-1))
	case draw < 15:
		return plant{ast.Node{Kind: ast.Alt}, []plant{d.plant(deep - 1), d.plant(deep - 1)}}
	case draw < 20:
		least := d.below(3)
		return times(d.plant(deep-1), least, []int{-1, least, least + 1}[d.below(3)], d.below(3))
	case draw == 20:
		// Of one length, that more would seldom have.
		return around(ast.Behind+d.below(2), d.leaf())
	case draw < 23:
		return around(ast.Ahead+draw%2, d.plant(deep-1))
	case draw < 27:
		return around(ast.Group, d.plant(deep-1))
	}
	return around(ast.Atomic, d.plant(deep-1))
}

// P11.2, P11.3, P11.4: greater trees of all kinds, drawn by a fixed rule.
func TestDrawnTrees(t *testing.T) {
	t.Parallel()
	texts := append(textsOf("ab", 3), "\n", "ab\nab", "a b", "aAbB", "ababab")
	draw := drawer(11)
	right := 0
	var h holder
	for i := range 6000 {
		p := besideGroup(around(ast.Group, draw.plant(2+i%7)))
		tree := p.tree()
		if ast.Right(tree) == api.OK {
			right++
			h.hold(t, tree, texts)
		}
	}
	if right < 4000 || h.states < 100000 || h.none < 100000 || h.groups < 100000 || h.matches < 10000 || h.skipped > right/5 {
		t.Error("too few:", right, h)
	}
}

// P11.4: Greedy and Lazy have as many outcomes, the same ones; Possessive has the first one of Greedy's.
func TestGreedyAndLazy(t *testing.T) {
	t.Parallel()
	texts := []string{"a", "ab", "abaa"}
	held := 0
	for _, p := range plantsOf(4, []ast.Node{{Kind: ast.Empty}, letterA, anyByte}, ones, twos) {
		for _, counts := range [][2]int{{0, -1}, {1, -1}, {0, 2}, {2, 2}, {1, 3}, {0, 0}} {
			var trees [3]ast.Tree
			for mode := range 3 {
				trees[mode] = times(p, counts[0], counts[1], mode).tree()
			}
			if ast.Right(trees[0]) != api.OK {
				continue
			}
			for _, s := range texts {
				greedy, _ := All(trees[ast.Greedy], s, 0, 1000)
				lazy, _ := All(trees[ast.Lazy], s, 0, 1000)
				possessive, _ := All(trees[ast.Possessive], s, 0, 1000)
				if len(greedy) != len(lazy) || len(greedy) < 1000 && !slices.Equal(sorted(greedy), sorted(lazy)) || !slices.Equal(possessive, atMostOne(greedy)) {
					t.Fatalf("%v in %q: %s, but %s, and %s", trees[0].Nodes, s, statesText(greedy, 1), statesText(lazy, 1), statesText(possessive, 1))
				}
				held += len(greedy)
			}
		}
	}
	if held < 100000 {
		t.Error("too few:", held)
	}
}

// sorted are the states as texts, in an order of their own.
func sorted(states []State) []string {
	var l []string
	for _, x := range states {
		l = append(l, stateText(x, 9))
	}
	slices.Sort(l)
	return l
}

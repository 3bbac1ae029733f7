package facts

import (
	"math/bits"
	"slices"
	"sync"
	"testing"

	"clew/api"
	"clew/ast"
	"clew/class"
)

// ends are the places, as binary digits, where a match of the plant in s from at may end at most: what looks around is taken as if it held, a Back as if it had any length.
func (p plant) ends(s string, at int) uint {
	switch p.node.Kind {
	case ast.Bytes:
		if at < len(s) && p.node.Set.Has(s[at]) {
			return 1 << (at + 1)
		}
		return 0
	case ast.Begin:
		return endsIf(at == 0, at)
	case ast.End:
		return endsIf(at == len(s), at)
	case ast.LineBegin:
		return endsIf(at == 0 || s[at-1] == '\n', at)
	case ast.LineEnd:
		return endsIf(at == len(s) || s[at] == '\n', at)
	case ast.Word, ast.NotWord:
		edge := (at > 0 && isWord(s[at-1])) != (at < len(s) && isWord(s[at]))
		return endsIf(edge == (p.node.Kind == ast.Word), at)
	case ast.Cat:
		return onFrom(p.children[1], s, p.children[0].ends(s, at))
	case ast.Alt:
		return p.children[0].ends(s, at) | p.children[1].ends(s, at)
	case ast.Repeat:
		return p.turns(s, at)
	case ast.Group, ast.Atomic:
		return p.children[0].ends(s, at)
	case ast.Back:
		return (2<<len(s) - 1) &^ (1<<at - 1)
	}
	return 1 << at
}

func endsIf(holds bool, at int) uint {
	if holds {
		return 1 << at
	}
	return 0
}

func isWord(c byte) bool {
	return c == '_' || '0' <= c && c <= '9' || 'a' <= c && c <= 'z' || 'A' <= c && c <= 'Z'
}

// onFrom is where q may end, from each of the places.
func onFrom(q plant, s string, from uint) uint {
	ends := uint(0)
	for ; from != 0; from &= from - 1 {
		ends |= q.ends(s, bits.TrailingZeros(from))
	}
	return ends
}

func (p plant) turns(s string, at int) uint {
	from, all := uint(1)<<at, uint(0)
	for turn := 0; turn != p.node.Max+1; turn++ {
		if turn >= p.node.Min {
			if from&^all == 0 {
				break
			}
			all |= from
		}
		from = onFrom(p.children[0], s, from)
	}
	return all
}

// ruler counts the places that are ruled out, and those that are not, and holds the first ones against where there may be matches.
type ruler struct{ out, in int }

func (r *ruler) hold(t *testing.T, p plant, texts []string) {
	t.Helper()
	tree := p.tree()
	f, wrong := Of(tree)
	if wrong != api.OK {
		return
	}
	for _, s := range texts {
		for at := range len(s) + 1 {
			if !Out(f, s, at) {
				r.in++
				continue
			}
			r.out++
			if ends := p.ends(s, at); ends != 0 {
				t.Fatalf("Out of %v in %q at %d, but there is a match: %b", tree.Nodes, s, at, ends)
			}
		}
	}
}

// plantsOf are all plants of at most so many nodes, of these leaves, nodes of one child and nodes of two.
func plantsOf(nodes int, leaves, ones, twos []ast.Node) []plant {
	sizes := make([][]plant, nodes+1)
	for _, n := range leaves {
		sizes[1] = append(sizes[1], plant{node: n})
	}
	for size := 2; size <= nodes; size++ {
		for _, n := range ones {
			for _, p := range sizes[size-1] {
				sizes[size] = append(sizes[size], plant{n, []plant{p}})
			}
		}
		for _, n := range twos {
			for left := 1; left < size-1; left++ {
				for _, p := range sizes[left] {
					for _, q := range sizes[size-1-left] {
						sizes[size] = append(sizes[size], plant{n, []plant{p, q}})
					}
				}
			}
		}
	}
	return slices.Concat(sizes...)
}

// P9.1, P9.3: all trees of up to four nodes of all kinds, and greater ones of a few kinds, by what their parts tell, and at all places of short texts.
func TestSmallTrees(t *testing.T) {
	twos := []ast.Node{{Kind: ast.Cat}, {Kind: ast.Alt}}
	leaves := []ast.Node{
		{Kind: ast.Empty}, {Kind: ast.Bytes}, a.node, b.node, {Kind: ast.Bytes, Set: firstAB}, {Kind: ast.Bytes, Set: class.All()},
		begin.node, {Kind: ast.End}, {Kind: ast.LineBegin}, {Kind: ast.LineEnd}, {Kind: ast.Word}, {Kind: ast.NotWord}, {Kind: ast.Back, N: 1},
	}
	ones := []ast.Node{
		{Kind: ast.Group}, {Kind: ast.Ahead}, {Kind: ast.NotAhead}, {Kind: ast.Behind}, {Kind: ast.NotBehind}, {Kind: ast.Atomic},
		{Kind: ast.Repeat, Max: -1}, {Kind: ast.Repeat}, {Kind: ast.Repeat, Min: 1, Max: -1, Mode: ast.Possessive}, {Kind: ast.Repeat, Min: 1, Max: 1}, {Kind: ast.Repeat, Max: 1, Mode: ast.Lazy}, {Kind: ast.Repeat, Min: 2, Max: 3},
	}
	texts := append(shortTexts("ab", 3), "\n", "a\n", "\na", "b\nb", " a", "ab a", "aabb")
	right := 0
	var r ruler
	hold := func(p plant) {
		if p.has(ast.Back) {
			p = besideGroup(p)
		}
		if wantTold(t, p) {
			right++
			r.hold(t, p, texts)
		}
	}
	for _, p := range plantsOf(4, leaves, ones, twos) {
		hold(p)
	}
	for _, p := range plantsOf(7, []ast.Node{a.node, b.node, begin.node}, ones[6:7], twos) {
		hold(p)
	}
	if right < 30000 || r.out < 100000 || r.in < 100000 {
		t.Error("too few are right, or ruled out, or not:", right, r.out, r.in)
	}
}

// drawer draws numbers by a fixed rule.
type drawer uint64

func (d *drawer) below(n int) int {
	*d = *d*6364136223846793005 + 1442695040888963407
	return int(*d>>33) % n
}

func (d *drawer) leaf() plant {
	kinds := []int{ast.Empty, ast.Begin, ast.Begin, ast.Begin, ast.End, ast.LineBegin, ast.LineEnd, ast.Word, ast.NotWord}
	sets := []class.Set{firstA, firstA, firstB, firstB, firstAB, class.One('\n'), class.Set{}, class.All()}
	switch draw := d.below(30); {
	case draw < len(kinds):
		return leaf(kinds[draw])
	case draw == len(kinds):
		return backTo(1)
	default:
		return set(sets[d.below(len(sets))])
	}
}

// plant draws a plant that is at most so deep.
func (d *drawer) plant(deep int) plant {
	if deep <= 1 || d.below(8) == 0 {
		return d.leaf()
	}
	switch draw := d.below(24); {
	case draw < 12:
		return catOf(d.plant(deep-1), d.plant(deep-1))
	case draw < 16:
		return altOf(d.plant(deep-1), d.plant(deep-1))
	case draw < 20:
		least := d.below(3)
		return times(d.plant(deep-1), least, []int{-1, least, least + 1}[d.below(3)])
	case draw == 20:
		// Of one length, that more would seldom have.
		return around(ast.Behind+d.below(2), d.leaf())
	case draw < 23:
		return around(ast.Ahead+draw%2, d.plant(deep-1))
	default:
		return around(ast.Atomic, d.plant(deep-1))
	}
}

// P9.1, P9.3: greater trees, drawn by a fixed rule.
func TestDrawnTrees(t *testing.T) {
	texts := append(shortTexts("ab", 4), "\n", "ab\nab", "\n\nb", "a b", "abababababab")
	draw := drawer(9)
	right, fast, long := 0, 0, 0
	var r ruler
	for i := range 10000 {
		p := besideGroup(draw.plant(1 + i%9))
		if !wantTold(t, p) {
			continue
		}
		right++
		f, _ := Of(p.tree())
		if f.Fast {
			fast++
		}
		if len(f.Prefix) > 2 {
			long++
		}
		r.hold(t, p, texts)
	}
	if right < 5000 || fast < 500 || long < 100 || r.out < 20000 || r.in < 20000 {
		t.Error("too few are right, or Fast, or have a Prefix, or are ruled out, or not:", right, fast, long, r.out, r.in)
	}
}

// R4, R5: no call leaves anything behind that another one sees, and none changes what it is handed.
func TestNothingIsLeftBehind(t *testing.T) {
	plants := []plant{a, row(begin, a, b), altOf(ab, catOf(a, c)), many(a), text(letters(101)), catOf(many(begin), begin), leaf(-1), backTo(1)}
	ask := func(p plant) (Facts, api.Errno, [3]bool) {
		f, wrong := Of(p.tree())
		return f, wrong, [3]bool{Out(f, "ab", 0), Out(f, "ab", 1), Out(f, "ab", 2)}
	}
	type answer struct {
		f     Facts
		wrong api.Errno
		out   [3]bool
	}
	var first []answer
	for _, p := range plants {
		f, wrong, out := ask(p)
		first = append(first, answer{f, wrong, out})
	}
	for i, p := range plants {
		for j, q := range plants {
			ask(q)
			if f, wrong, out := ask(p); (answer{f, wrong, out}) != first[i] {
				t.Error("told otherwise:", i, j)
			}
		}
	}
	roomy := append(make([]ast.Node, 0, 10), catOf(begin, a).tree().Nodes...)
	behind := roomy[:10]
	behind[3] = ast.Node{Kind: ast.Kinds, A: 7}
	before := slices.Clone(behind)
	if f, _ := Of(ast.Tree{Nodes: roomy}); f.Prefix != "a" || !slices.Equal(behind, before) {
		t.Error(f, behind)
	}
	var waiting sync.WaitGroup
	for i, p := range plants {
		waiting.Go(func() {
			for range 20 {
				if f, wrong, out := ask(p); (answer{f, wrong, out}) != first[i] {
					t.Error("told otherwise at once:", i)
				}
			}
		})
	}
	waiting.Wait()
}

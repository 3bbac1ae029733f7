package show

import (
	"fmt"
	"slices"
	"strings"
	"sync"
	"testing"

	"clew/api"
	"clew/ast"
	"clew/class"
	"clew/parse"
)

// wantAgain holds what is shown of a right tree against what it is parsed to.
func wantAgain(t *testing.T, tree ast.Tree) {
	t.Helper()
	shown := Tree(tree)
	got, wrong := parse.Parse(shown)
	if len(shown) > api.MaxPat {
		if wrong != api.ErrBig {
			t.Fatalf("Parse of %d bytes: %d", len(shown), wrong)
		}
		return
	}
	if wrong != api.OK || !slices.Equal(got.Nodes, tree.Nodes) {
		t.Fatalf("Parse(%s) = %v, %d; want %v", shown, got.Nodes, wrong, tree.Nodes)
	}
}

// apart tells whether what is shown of unlike trees is unlike.
type apart map[string][]ast.Node

func (l apart) hold(t *testing.T, tree ast.Tree) {
	t.Helper()
	shown := Tree(tree)
	if shown == "" {
		t.Fatalf("nothing is shown of %v", tree.Nodes)
	}
	if other, is := l[shown]; is && !slices.Equal(other, tree.Nodes) {
		t.Fatalf("%s is shown of %v, and of %v", shown, other, tree.Nodes)
	}
	l[shown] = tree.Nodes
}

// plantsOf are all plants of at most so many nodes, of these leaves, nodes of one child and nodes of two.
func plantsOf(nodes int, leaves, ones, twos []ast.Node) []plant {
	sizes := make([][]plant, nodes+1)
	for _, n := range leaves {
		sizes[1] = append(sizes[1], plant{node: n})
	}
	for size := 2; size <= nodes; size++ {
		for _, n := range ones {
			for _, p := range sizes[size-1] {
				sizes[size] = append(sizes[size], plant{n, []plant{p}})
			}
		}
		for _, n := range twos {
			for left := 1; left < size-1; left++ {
				for _, p := range sizes[left] {
					for _, q := range sizes[size-1-left] {
						sizes[size] = append(sizes[size], plant{n, []plant{p, q}})
					}
				}
			}
		}
	}
	return slices.Concat(sizes...)
}

// P8.3: all small trees of all kinds, and larger ones of a few kinds: each is parsed as it was, and no two are shown alike.
func TestSmallTrees(t *testing.T) {
	twos := []ast.Node{{Kind: ast.Cat}, {Kind: ast.Alt}}
	leaves := []ast.Node{
		{Kind: ast.Empty}, {Kind: ast.Bytes}, {Kind: ast.Bytes, Set: class.One('a')}, {Kind: ast.Bytes, Set: class.Of("0-^]")}, {Kind: ast.Bytes, Set: class.All()},
		{Kind: ast.Begin}, {Kind: ast.End}, {Kind: ast.LineBegin}, {Kind: ast.LineEnd}, {Kind: ast.Word}, {Kind: ast.NotWord},
		{Kind: ast.Back, N: 1}, {Kind: ast.Back, N: 1, Fold: true}, {Kind: ast.Back, N: 2},
	}
	ones := []ast.Node{
		{Kind: ast.Group}, {Kind: ast.Ahead}, {Kind: ast.NotAhead}, {Kind: ast.Behind}, {Kind: ast.NotBehind}, {Kind: ast.Atomic},
		{Kind: ast.Repeat, Max: -1}, {Kind: ast.Repeat, Max: -1, Mode: ast.Lazy}, {Kind: ast.Repeat, Min: 1, Max: -1, Mode: ast.Possessive}, {Kind: ast.Repeat, Max: 1}, {Kind: ast.Repeat, Min: 2, Max: 3},
	}
	seen := apart{}
	hold := func(p plant) {
		if tree := p.tree(); ast.Right(tree) == api.OK {
			wantAgain(t, tree)
			seen.hold(t, tree)
		}
	}
	for _, p := range plantsOf(4, leaves, ones, twos) {
		hold(p)
		if p.has(ast.Back) {
			hold(besideGroup(p))
			hold(catOf(group(d), catOf(group(d), p)))
		}
	}
	for _, p := range plantsOf(7, leaves[2:3], []ast.Node{ones[0], ones[5], ones[6]}, twos) {
		hold(p)
	}
	if len(seen) < 30000 {
		t.Error("too few of them are right:", len(seen))
	}
}

// drawer draws numbers by a fixed rule.
type drawer uint64

func (d *drawer) below(n int) int {
	*d = *d*6364136223846793005 + 1442695040888963407
	return int(*d>>33) % n
}

func (d *drawer) set() plant {
	sets := []class.Set{
		class.One('a'), class.One('?'), class.Of("abcx"), {}, class.All(), class.One(10).Not(), class.Of("^-]\\"),
		class.Range('a', 'z').Fold(), class.Of("\x00\xff"), {W: [4]uint64{1: 0x5555555555555555, 3: 0xaaaaaaaaaaaaaaaa}},
	}
	return set(sets[d.below(len(sets))])
}

func (d *drawer) leaf() plant {
	switch kind := d.below(2 * ast.Cat); {
	case kind < ast.Cat && kind != ast.Bytes:
		return leaf(kind)
	case kind == ast.Cat:
		return backTo(1+d.below(2), d.below(2) == 0)
	}
	return d.set()
}

// plant draws a plant that is at most so deep.
func (d *drawer) plant(deep int) plant {
	if deep <= 1 || d.below(6) == 0 {
		return d.leaf()
	}
	switch draw := d.below(24); {
	case draw < 12:
		return plant{ast.Node{Kind: ast.Cat + draw%2}, []plant{d.plant(deep - 1), d.plant(deep - 1)}}
	case draw < 17:
		least, most := d.below(4), -1
		if d.below(3) > 0 {
			most = least + d.below(3)
		}
		return repeatOf(d.plant(deep-1), least, most, d.below(3))
	case draw == 17:
		return group(d.plant(deep - 1))
	case draw == 18:
		// Of one length, that more would seldom have.
		return around(ast.Behind+d.below(2), d.set())
	case draw < 22:
		return around(ast.Ahead+draw%2, d.plant(deep-1))
	}
	return around(ast.Atomic, d.plant(deep-1))
}

// P8.3: greater trees, drawn by a fixed rule, also such as are shown by more than 1000 bytes.
func TestDrawnTrees(t *testing.T) {
	seen := apart{}
	draw := drawer(8)
	right, long := 0, 0
	for i := range 20000 {
		tree := catOf(group(a), catOf(group(b), draw.plant(1+i%16))).tree()
		if ast.Right(tree) != api.OK {
			continue
		}
		right++
		if len(Tree(tree)) > api.MaxPat {
			long++
		}
		wantAgain(t, tree)
		seen.hold(t, tree)
	}
	if right < 10000 || long < 100 {
		t.Error("too few of them are right, or too few of these are long:", right, long)
	}
}

// P8.3: a pattern's tree is shown by a pattern that has the same tree, whatever was written.
func TestPatternsShown(t *testing.T) {
	for p, want := range map[string]string{
		"":                     "(?:)",
		"a|bc":                 "a|bc",
		"(?i:a)*?":             "[Aa]*?",
		"(?:(?:a))":            "a",
		".":                    `[\x00-\x09\x0b-\xff]`,
		"(?s:.)":               `[\x00-\xff]`,
		`\d\w\s`:               `[0-9][0-9A-Z_a-z][\x09-\x0d ]`,
		"a||b":                 "a|(?:)|b",
		"(|a)":                 "((?:)|a)",
		"a{0,}b{1,}c{0,1}d{1}": "a*b+c?d{1}",
		"(?:ab)c":              "abc",
		"a(?:bc)":              "a(?:bc)",
		"(?:a|b)|c":            "a|b|c",
		"a|(?:b|c)":            "a|(?:b|c)",
		`(?im:^(a)\1$)`:        `(?m:^)([Aa])(?i:\1)(?m:$)`,
		`(?i:\1)(a)`:           `(?i:\1)(a)`,
		`\.\*`:                 `\x2e\x2a`,
		"[^a]":                 `[\x00-\x60b-\xff]`,
		"(?<=[0-9])(?<!ab)":    "(?<=[0-9])(?<!ab)",
		"(?>a*)+?":             "(?>a*)+?",
	} {
		tree, wrong := parse.Parse(p)
		if wrong != api.OK {
			t.Fatal(p, wrong)
		}
		if got := Tree(tree); got != want {
			t.Errorf("Tree of %s = %s; want %s", p, got, want)
		}
		wantAgain(t, tree)
	}
}

// P8.2, P8.3: of 1000 bytes what is shown is parsed; of more it is shown all the same.
func TestLongPatterns(t *testing.T) {
	// 24 bytes that touch no other, of four bytes each, two of one, and the brackets: 100.
	var hundred class.Set
	for i := range 24 {
		hundred = hundred.Or(class.One(byte(128 + 2*i)))
	}
	hundred = hundred.Or(class.Of("ac"))
	pattern := Set(hundred)
	if len(pattern) != 100 {
		t.Fatal(pattern)
	}
	all := set(hundred)
	for range 9 {
		all = catOf(all, set(hundred))
	}
	wantTree(t, all, strings.Repeat(pattern, 10))
	wantAgain(t, all.tree())
	wantTree(t, catOf(all, a), strings.Repeat(pattern, 10)+"a")
	wantAgain(t, catOf(all, a).tree())
	wantTree(t, catOf(all, all), strings.Repeat(pattern, 10)+"(?:"+strings.Repeat(pattern, 10)+")")
}

// P8.2: the longest that is shown: as many sets of as many runs as there may be.
func TestLongest(t *testing.T) {
	var odd class.Set
	for i := range 128 {
		odd = odd.Or(class.One(byte(2*i + 1)))
	}
	l := make([]plant, 7)
	for i := range l {
		l[i] = set(odd)
	}
	deep := row(l...)
	for range 5 {
		deep = altOf(deep, deep)
	}
	shown := Tree(deep.tree())
	if strings.Count(shown, Set(odd)) != 7*32 {
		t.Error(len(deep.tree().Nodes), len(shown))
	}
}

// R4, R5: no call leaves anything behind that another one sees, and none changes what it is handed.
func TestNothingIsLeftBehind(t *testing.T) {
	trees := []ast.Tree{many(a).tree(), {}, catOf(group(altOf(a, b)), backTo(1, true)).tree(), {Nodes: []ast.Node{{Kind: -1}}}, wide(251).tree(), wide(250).tree(), set(class.All()).tree(), backTo(1, false).tree()}
	var first []string
	for _, tree := range trees {
		first = append(first, Tree(tree))
	}
	for i, tree := range trees {
		for j, other := range trees {
			Set(class.Of(fmt.Sprint("leaves nothing", i, j)))
			if Tree(other) != first[j] || Tree(tree) != first[i] {
				t.Error("shown otherwise:", i, j)
			}
		}
	}
	roomy := append(make([]ast.Node, 0, 10), many(a).tree().Nodes...)
	behind := roomy[:10]
	behind[2] = ast.Node{Kind: ast.Kinds, A: 7}
	before := slices.Clone(behind)
	if got := Tree(ast.Tree{Nodes: roomy}); got != "a*" || !slices.Equal(behind, before) {
		t.Error(got, behind)
	}
	var waiting sync.WaitGroup
	for i := range 8 {
		waiting.Go(func() {
			for range 20 {
				if got := Tree(trees[i]); got != first[i] {
					t.Error("shown otherwise at once:", i)
				}
			}
		})
	}
	waiting.Wait()
}

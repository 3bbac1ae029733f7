package naive

import (
	"math"
	"slices"
	"strings"
	"testing"

	"clew/api"
	"clew/ast"
	"clew/caps"
)

// wrongTrees are trees that are not right, with what ast.Right tells of them.
func wrongTrees() map[api.Errno][]ast.Tree {
	a, empty := plant{node: letterA}, leaf(ast.Empty)
	deep, groups := a, a
	for range 40 {
		deep = around(ast.Atomic, deep)
	}
	for range 10 {
		groups = around(ast.Group, groups)
	}
	var many []plant
	for range 251 {
		many = append(many, empty)
	}
	return map[api.Errno][]ast.Tree{
		api.ErrForm:   {{}, {Nodes: []ast.Node{}}, leaf(-1).tree(), leaf(ast.Kinds).tree(), leaf(ast.Cat).tree(), leaf(ast.Repeat).tree(), {Nodes: []ast.Node{letterA, letterA}}, times(a, 0, 101, 0).tree(), times(a, 3, 2, 0).tree(), times(a, 0, -2, 0).tree(), times(a, 0, 1, 3).tree(), {Nodes: []ast.Node{letterA, {Kind: ast.Atomic, A: 7}}}},
		api.ErrBig:    {deep.tree(), flat(many).tree()},
		api.ErrGroup:  {{Nodes: []ast.Node{letterA, {Kind: ast.Group, N: 2}}}, {Nodes: []ast.Node{{Kind: ast.Back, N: 1}}}, {Nodes: []ast.Node{letterA, {Kind: ast.Group}}}, groups.tree()},
		api.ErrBehind: {around(ast.Behind, times(a, 0, -1, 0)).tree(), around(ast.NotBehind, times(a, 1, 2, 0)).tree()},
	}
}

// wantNone holds that All tells an error, and nothing beside it.
func wantNone(t *testing.T, tree ast.Tree, s string, at, many int, want api.Errno) {
	t.Helper()
	if l, wrong := All(tree, s, at, many); l != nil || wrong != want {
		t.Errorf("All of %v in %d bytes at %d, %d of them = %v, %d; want %d", tree.Nodes, len(s), at, many, l, wrong, want)
	}
}

// P11.2: a tree that is not right is told ahead of all else, a text that is too long ahead of the numbers.
func TestAllErrors(t *testing.T) {
	tooLong := strings.Repeat("a", api.MaxText+1)
	for want, trees := range wrongTrees() {
		for _, tree := range trees {
			for _, s := range []string{"", "aaa", tooLong, tooLong + tooLong} {
				for _, numbers := range [][2]int{{0, 1}, {0, 0}, {-1, 1}, {0, -1}, {len(s) + 1, 1001}, {len(s), 1000}} {
					wantNone(t, tree, s, numbers[0], numbers[1], want)
				}
			}
		}
	}
	tree := parsed(t, "a*")
	for _, s := range []string{tooLong, tooLong + "a", tooLong + tooLong} {
		for _, numbers := range [][2]int{{0, 1}, {0, 0}, {-1, 1}, {0, -1}, {len(s), 1}, {len(s) + 1, 1001}, {math.MinInt, math.MaxInt}} {
			wantNone(t, tree, s, numbers[0], numbers[1], api.ErrBig)
		}
	}
}

// P11.2: places below 0 and above the end, and counts below 0 and above 1000.
func TestAllArguments(t *testing.T) {
	tree := parsed(t, "a*?")
	for _, s := range []string{"", "a", "aaa", strings.Repeat("a", api.MaxText)} {
		for _, at := range append(noPlaces, len(s)+1, len(s)+2, len(s)+256) {
			for _, many := range []int{0, 1, 2, 1000} {
				wantNone(t, tree, s, at, many, api.ErrArg)
			}
		}
		for _, many := range []int{math.MinInt, -1 << 32, -1<<32 + 1, -1000, -2, -1, 1001, 1002, 1 << 16, 1<<16 + 1, 1 << 32, 1<<32 + 1, math.MaxInt} {
			for _, at := range []int{-1, 0, len(s), len(s) + 1} {
				wantNone(t, tree, s, at, many, api.ErrArg)
			}
		}
		for _, at := range []int{0, len(s) / 2, len(s)} {
			wantNone(t, tree, s, at, 0, api.OK)
		}
	}
}

// P11.2: the first many outcomes, where there are fewer, as many, and more.
func TestAllCounts(t *testing.T) {
	tree := parsed(t, "(a)*?")
	s := strings.Repeat("a", 2000)
	for _, at := range []int{0, 1, 998, 999, 1000, 1001, 1002, 1500, 1998, 1999, 2000} {
		for _, many := range []int{1, 2, 3, 500, 999, 1000} {
			var want []State
			x := State{Pos: at}
			for range min(many, len(s)-at+1) {
				want = append(want, x)
				x.Caps, _ = x.Caps.With(1, x.Pos, x.Pos+1)
				x.Pos++
			}
			if l, wrong := All(tree, s, at, many); !slices.Equal(l, want) || wrong != api.OK {
				t.Errorf("All at %d, %d of them: %d, %d; want %d", at, many, len(l), wrong, len(want))
			}
		}
	}
}

// P11.2: a text may have 10000 bytes, and is read to its end.
func TestAllOfLongTexts(t *testing.T) {
	s := strings.Repeat("ab", api.MaxText/2)
	for _, x := range []struct {
		p    string
		at   int
		many int
		want string
	}{
		{"[ab]*", 0, 2, "10000 9999"}, {"(?:ab)*", 0, 3, "10000 9998 9996"}, {"(?s:.)*$", 5000, 9, "10000"}, {".*?$", 1, 1000, "10000"},
		{"(a|b)*", 9998, 9, "10000(9999-10000) 9999(9998-9999) 9998(?)"}, {"(.*)", 0, 1, "10000(0-10000)"}, {`(ab)*$`, 0, 1, "10000(9998-10000)"},
		{"", 10000, 5, "10000"}, {"$", 10000, 5, "10000"}, {".", 10000, 5, ""}, {".", 9999, 5, "10000"}, {"(?<=b)", 10000, 5, "10000"}, {`(ab){100}(.*?)\1$`, 9798, 1, "10000(9996-9998,9998-9998)"},
	} {
		tree := parsed(t, x.p)
		l, wrong := All(tree, s, x.at, x.many)
		if got := statesText(l, ast.Groups(tree)); got != x.want || wrong != api.OK {
			t.Errorf("All of %s at %d, %d of them = %s, %d; want %s", x.p, x.at, x.many, got, wrong, x.want)
		}
	}
}

// P11.2: no outcome is looked for beyond those that are asked for: here the next one is told by nobody in time.
func TestAllLooksNoFurther(t *testing.T) {
	s := strings.Repeat("a", 100)
	for _, x := range []struct {
		p    string
		many int
		want string
	}{
		{"(?:a|a)*b", 0, ""}, {"a|(?:a|a)*b", 1, "1"}, {"(?:a|aa)|(?:a|a)*b", 2, "1 2"}, {"a??(?:|(?:a|a)*b)", 1, "0"}, {"(?:|(?:a|a)*b)+?", 1, "0"},
		// Nor beyond the first one, where that counts alone.
		{"(?=a|(?:a|a)*b)", 1000, "0"}, {"(?!a|(?:a|a)*b)", 1000, ""}, {"(?>a|(?:a|a)*b)", 1000, "1"}, {"(?:(?>a|(?:a|a)*b)){3}", 1000, "3"}, {"(?<=)a", 1000, "1"}, {"(?:a|(?:a|a)*b)*+", 1000, "100"},
	} {
		tree := parsed(t, x.p)
		l, wrong := All(tree, s, 0, x.many)
		if got := statesText(l, ast.Groups(tree)); got != x.want || wrong != api.OK {
			t.Errorf("All of %s, %d of them = %s, %d; want %s", x.p, x.many, got, wrong, x.want)
		}
	}
	if m, is, wrong := Find(parsed(t, "a|(?:a|a)*b"), s); m != (caps.Match{To: 1}) || !is || wrong != api.OK {
		t.Error(m, is, wrong)
	}
}

// R1: turns go no deeper than the tree, however many there are, and however wide and deep the tree is.
func TestTurnsEnd(t *testing.T) {
	s := strings.Repeat("a", api.MaxText)
	var wide []plant
	for range 249 {
		wide = append(wide, leaf(ast.Empty))
	}
	wide[100] = plant{node: letterA}
	deep := plant{node: letterA}
	for i := range 37 {
		deep = times(deep, 1, 1, i%2)
	}
	for i, x := range []struct {
		tree ast.Tree
		s    string
		want int
	}{
		{times(flat(wide), 0, -1, ast.Greedy).tree(), s, len(s)},
		{times(deep, 0, -1, ast.Greedy).tree(), s, len(s)},
		{times(deep, 0, -1, ast.Possessive).tree(), s, len(s)},
		{catOf(times(deep, 0, -1, ast.Lazy), leaf(ast.End)).tree(), s, len(s)},
		{parsed(t, "(?:(?:(?:(?:){100}){100}){100}){3}"), s, 0},
		{parsed(t, "(?:(?:(?:a?){100}){100}){100}"), "", 0},
		{parsed(t, "(?:(?:(?:a?+){100}){100}){100}"), s, len(s)},
	} {
		if m, is, wrong := Find(x.tree, x.s); m != (caps.Match{To: x.want}) || !is || wrong != api.OK {
			t.Error(i, m, is, wrong)
		}
	}
}

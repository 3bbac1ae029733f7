package naive

import (
	"slices"
	"strings"
	"sync"
	"testing"

	"clew/api"
	"clew/ast"
	"clew/caps"
)

// P11.3: the first place that has an outcome: the first one, a later one, the end alone, or none; and the groups of the first outcome.
func TestFind(t *testing.T) {
	for _, x := range []struct {
		p, s     string
		from, to int
		groups   string
		is       bool
	}{
		{"a|ab", "xab", 1, 2, "", true}, {"a|b", "c", 0, 0, "", false}, {"(a+)b", "aab", 0, 3, "0-2", true}, {"(?<=a)b", "bab", 2, 3, "", true},
		{"", "", 0, 0, "", true}, {"", "abc", 0, 0, "", true}, {"a", "", 0, 0, "", false}, {"$", "abc", 3, 3, "", true}, {"a*$", "aba", 2, 3, "", true}, {"a*", "baa", 0, 0, "", true}, {"a+", "baa", 1, 3, "", true}, {"a+?", "baa", 1, 2, "", true},
		{"()$", "ab", 2, 2, "2-2", true}, {"b$", "bab", 2, 3, "", true}, {"^b", "ab", 0, 0, "", false}, {"(?m:^)b", "a\nb", 2, 3, "", true}, {"c", "abc", 2, 3, "", true}, {"[^a]", "aaa", 0, 0, "", false},
		{"(a)|(b)", "cb", 1, 2, "?,1-2", true}, {"(?:(a)|(b))+", "xabx", 1, 3, "1-2,2-3", true}, {"(?:(a)|b)+c", "abab bc", 5, 7, "?", true}, {"(a)(?!b)|(a)b", "ab", 0, 2, "?,0-1", true}, {`(a|b)\1`, "abb", 1, 3, "1-2", true}, {"(a*)(a*)", "aa", 0, 2, "0-2,2-2", true}, {"(a)x|b", "ab", 1, 2, "?", true},
		{"(?=(b))", "ab", 1, 1, "1-2", true}, {`\B`, "ab", 1, 1, "", true}, {"(?<!a)$", "ba", 0, 0, "", false}, {"(?>a|ab)c", "abcac", 3, 5, "", true}, {"[^\\x00-\\xff]", "abc", 0, 0, "", false},
	} {
		tree := parsed(t, x.p)
		m, is, wrong := Find(tree, x.s)
		if m.From != x.from || m.To != x.to || is != x.is || wrong != api.OK {
			t.Errorf("Find of %s in %q = %d, %d, %v, %d; want %d, %d, %v", x.p, x.s, m.From, m.To, is, wrong, x.from, x.to, x.is)
		}
		if is && m.Caps.Show(ast.Groups(tree)) != x.groups || !is && m != (caps.Match{}) {
			t.Errorf("Find of %s in %q: groups %s; want %s", x.p, x.s, m.Caps.Show(9), x.groups)
		}
	}
}

// P11.3: a tree that is not right is told ahead of a text that is too long; nothing is told beside an error.
func TestFindErrors(t *testing.T) {
	tooLong := strings.Repeat("a", api.MaxText+1)
	wantWrong := func(tree ast.Tree, s string, want api.Errno) {
		t.Helper()
		if m, is, wrong := Find(tree, s); m != (caps.Match{}) || is || wrong != want {
			t.Errorf("Find of %v in %d bytes = %v, %v, %d; want %d", tree.Nodes, len(s), m, is, wrong, want)
		}
	}
	for want, trees := range wrongTrees() {
		for _, tree := range trees {
			for _, s := range []string{"", "aaa", tooLong} {
				wantWrong(tree, s, want)
			}
		}
	}
	for _, p := range []string{"a", "b", "", "$"} {
		for _, s := range []string{tooLong, tooLong + tooLong} {
			wantWrong(parsed(t, p), s, api.ErrBig)
		}
	}
}

// P11.3: a text may have 10000 bytes, and is looked through to its end.
func TestFindInLongTexts(t *testing.T) {
	s := strings.Repeat("a", api.MaxText-1) + "b"
	for _, x := range []struct {
		p        string
		from, to int
		is       bool
	}{
		{"b", 9999, 10000, true}, {"$", 10000, 10000, true}, {"a*b", 0, 10000, true}, {"ab", 9998, 10000, true}, {"c", 0, 0, false}, {"b.", 0, 0, false}, {"(?<=b)", 10000, 10000, true}, {"(?<!a)$", 10000, 10000, true}, {"a*", 0, 9999, true},
	} {
		want := caps.Match{From: x.from, To: x.to}
		if m, is, wrong := Find(parsed(t, x.p), s); m != want || is != x.is || wrong != api.OK {
			t.Errorf("Find of %s = %v, %v, %d", x.p, m, is, wrong)
		}
	}
}

// told is what all calls tell of a tree and a text.
type told struct {
	states, again []State
	match         caps.Match
	is, holds     bool
	wrong         [2]api.Errno
}

func tell(tree ast.Tree, s string) told {
	var x told
	x.states, x.wrong[0] = All(tree, s, 0, 1000)
	x.again, _ = All(tree, s, len(s)/2, 3)
	x.match, x.is, x.wrong[1] = Find(tree, s)
	x.holds = Holds(ast.Word, s, len(s))
	return x
}

func (x told) same(y told) bool {
	return slices.Equal(x.states, y.states) && slices.Equal(x.again, y.again) && x.match == y.match && x.is == y.is && x.holds == y.holds && x.wrong == y.wrong
}

// R4, R5: no call leaves anything behind that another one sees, and none changes what it is handed.
func TestNothingIsLeftBehind(t *testing.T) {
	trees := []ast.Tree{{}, parsed(t, "(a|b)*"), parsed(t, "(?<=(a))b|a*?"), parsed(t, `(a)(?=\1)|(?:(b)|.)++`), parsed(t, "(?>a*)(?<!ab)"), leaf(-1).tree(), parsed(t, "(?:a{2,3}|(b)?){2}")}
	texts := []string{"", "abab", "aabb", strings.Repeat("a", api.MaxText+1), "ba ab"}
	first := map[[2]int]told{}
	for i, tree := range trees {
		for j, s := range texts {
			first[[2]int{i, j}] = tell(tree, s)
		}
	}
	for i, tree := range trees {
		before := slices.Clone(tree.Nodes)
		for j, s := range texts {
			for k := range trees {
				tell(trees[k], texts[(j+k)%len(texts)])
				if !tell(tree, s).same(first[[2]int{i, j}]) || !slices.Equal(tree.Nodes, before) {
					t.Error("told otherwise, or changed:", i, j, k)
				}
			}
		}
	}
	var waiting sync.WaitGroup
	for i, tree := range trees {
		for j, s := range texts {
			waiting.Go(func() {
				for range 20 {
					if !tell(tree, s).same(first[[2]int{i, j}]) {
						t.Error("told otherwise at once:", i, j)
					}
				}
			})
		}
	}
	waiting.Wait()
}

// R4: what is told is new memory, also its spare room; the room behind a tree's nodes stays as it was.
func TestStatesAreNew(t *testing.T) {
	nodes := append(make([]ast.Node, 0, 10), parsed(t, "(a|b)*").Nodes...)
	room := nodes[:10]
	for i := len(nodes); i < 10; i++ {
		room[i] = ast.Node{Kind: ast.Kinds, A: 7 + i}
	}
	before := slices.Clone(room)
	tree := ast.Tree{Nodes: nodes}
	first, _ := All(tree, "abab", 0, 3)
	second, _ := All(tree, "abab", 0, 3)
	want := slices.Clone(second)
	full := first[:cap(first)]
	for i := range full {
		full[i] = State{Pos: 99}
	}
	third, _ := All(tree, "abab", 0, 3)
	if !slices.Equal(second, want) || !slices.Equal(third, want) || !slices.Equal(room, before) {
		t.Error(second, third, room)
	}
}

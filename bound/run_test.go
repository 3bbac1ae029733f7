package bound

import (
	"math"
	"strings"
	"testing"

	"clew/api"
	"clew/ast"
	"clew/class"
	"clew/step"
)

// most is how many steps a run goes here at most, and room how many frames its machine has room for.
const (
	most = 20000
	room = 1 << 20
)

// counter runs configs as P13.5 tells it, and counts the steps that it asks for.
type counter struct {
	t     *testing.T
	m     *step.Machine
	steps int
}

// tooLong is told by panic, where there are more steps than most.
type tooLong struct{}

func (r *counter) run(c step.Config) (step.Config, bool) {
	for {
		r.steps++
		if r.steps > most {
			panic(tooLong{})
		}
		s, wrong := r.m.Next(c)
		if wrong != api.OK {
			r.t.Fatal("no step:", c, wrong)
		}
		switch s.Kind {
		case step.Fail:
			return step.Config{}, false
		case step.Done:
			return c, true
		case step.Go:
			c = s.A
		case step.Choice:
			if x, is := r.run(s.A); is {
				return x, true
			}
			c = s.B
		case step.Sub:
			x, is := r.run(s.A)
			joined, goesOn := step.Join(s.How, s.B, x, is)
			if !goesOn {
				return step.Config{}, false
			}
			c = joined
		}
	}
}

// fromPlace is how many steps the run from a place asks for, most if these are more, and whether it came to its end.
func (r *counter) fromPlace(at int) (steps int, whole bool) {
	r.steps = 0
	defer func() {
		if wrong := recover(); wrong != nil {
			if _, is := wrong.(tooLong); !is {
				panic(wrong)
			}
			steps, whole = most, false
		}
	}()
	c, wrong := r.m.Begin(at)
	if wrong != api.OK {
		r.t.Fatal("Begin:", at, wrong)
	}
	r.run(c)
	return r.steps, true
}

// search is how many steps all runs ask for, and the most of one, and how many frames are put; no, if a run has more steps than most.
func search(t *testing.T, tree ast.Tree, s string) (steps, longest, frames int, whole bool) {
	t.Helper()
	m, wrong := step.New(tree, s, room)
	if wrong != api.OK {
		t.Fatal("no machine:", tree.Nodes, wrong)
	}
	r := counter{t: t, m: m}
	for at := range len(s) + 1 {
		more, ends := r.fromPlace(at)
		if !ends {
			return 0, 0, 0, false
		}
		steps, longest = steps+more, max(longest, more)
	}
	return steps, longest, m.Len(), true
}

// holdSearch holds P14.2 of a tree and a text; no, if a run is not followed to its end.
// A run is held to half of what is promised of it, so that all runs together are within Steps by that alone.
func holdSearch(t *testing.T, tree ast.Tree, s string) bool {
	t.Helper()
	long, _ := Long(tree, len(s))
	allowed, wrong := Steps(tree, len(s))
	steps, longest, frames, whole := search(t, tree, s)
	if !whole {
		if math.Ldexp(1, long) <= most {
			t.Fatal("a run is too long:", tree.Nodes, s, long)
		}
		return false
	}
	if wrong != api.OK || steps < len(s)+1 || float64(longest) > math.Ldexp(1, long) || float64(steps) > allowed || float64(frames) > 3*allowed {
		t.Fatalf("%v in %q: %d steps, %d in one run, %d frames; Long tells %d, and Steps %v", tree.Nodes, s, steps, longest, frames, long, allowed)
	}
	return true
}

// tally counts the searches, and those that were not followed.
type tally struct{ searches, skipped int }

// hold holds P14.2 of a tree; and of it ahead of what never matches, so that a run goes all ways.
func (h *tally) hold(t *testing.T, tree ast.Tree, texts []string) {
	t.Helper()
	if ast.Right(tree) != api.OK {
		return
	}
	never := ast.Join(tree, ast.Leaf(ast.Node{Kind: ast.Bytes, Set: class.Set{}}), ast.Cat)
	for _, s := range texts {
		for _, u := range []ast.Tree{tree, never} {
			if ast.Right(u) != api.OK {
				continue
			}
			h.searches++
			if !holdSearch(t, u, s) {
				h.skipped++
			}
		}
	}
}

// P14.2: all trees of up to four nodes of all kinds.
func TestSearchesOfSmallTrees(t *testing.T) {
	t.Parallel()
	leaves := []ast.Node{{Kind: ast.Empty}, letterA, anyByte, {Kind: ast.Begin}, {Kind: ast.Word}}
	var h tally
	for _, p := range plantsOf(4, leaves, ones, twos) {
		h.hold(t, p.tree(), []string{"", "a", "aa", "ba"})
	}
	if h.searches < 100000 || h.skipped > 0 {
		t.Error("too few:", h)
	}
}

// P14.2: greater trees of all kinds, drawn by a fixed rule.
func TestSearchesOfDrawnTrees(t *testing.T) {
	t.Parallel()
	draw := drawer(41)
	var h tally
	for i := range 3000 {
		h.hold(t, besideGroup(around(ast.Group, draw.plant(2+i%7))).tree(), []string{"", "a", "b", "ab", "\n", "aAb", "abab"})
	}
	if h.searches < 15000 || h.skipped > h.searches/5 {
		t.Error("too few:", h)
	}
}

// P14.2: trees whose runs go very many ways, in longer texts too.
func TestSearchesOfManyWays(t *testing.T) {
	t.Parallel()
	var h tally
	for _, pattern := range []string{
		"(?:a|a)*b", "(?:a*)*b", "(?:a*?)*?b", "(?:a|a|a)+b", "(?:(a?)*)+b", "(?:a?){4}b", "(?:a|){3}b", "(?:a*+)*b", "(?=(?:a|a)*)b", "(?!(?:a*)*b)", "(?>a|a)*b", "(?:(?:a|a)(?:a|a))*b", "a*a*a*b", "(?:a{0,2}){0,2}b", "a{0}", "(?:a|b){0}b", "(?:){3}", "(?:(?:)*)*",
	} {
		for n := range 9 {
			h.hold(t, parsed(t, pattern), []string{strings.Repeat("a", n), strings.Repeat("ab", n/2)})
		}
	}
	if h.searches < 500 || h.skipped > h.searches/10 {
		t.Error("too few:", h)
	}
	for _, pattern := range []string{"a*b", "(?:a|b)*c", "(?>a*)b", "a*+b", "a{100}", "(?:a?){100}"} {
		holdSearch(t, parsed(t, pattern), strings.Repeat("a", 100))
	}
}

// P14.2: where Steps is small a search is held against it by hand.
func TestSearchesByHand(t *testing.T) {
	for _, x := range []struct {
		pattern, text          string
		steps, longest, frames int
	}{
		// Of each place Do of the letter, and Stop where it matches.
		{"a", "", 1, 1, 1}, {"a", "a", 3, 2, 1}, {"a", "aaa", 7, 2, 1}, {"", "ab", 6, 2, 1},
		{"a|b", "", 3, 3, 3}, {"a|b", "b", 7, 4, 3}, {"ab", "ab", 8, 4, 3}, {"(a)", "a", 6, 4, 5},
	} {
		tree := parsed(t, x.pattern)
		steps, longest, frames, whole := search(t, tree, x.text)
		if steps != x.steps || longest != x.longest || frames != x.frames || !whole {
			t.Error("the search of", x.pattern, "in", x.text, "is", steps, longest, frames, whole)
		}
		holdSearch(t, tree, x.text)
	}
}

package step

import (
	"slices"
	"strconv"
	"strings"
	"testing"

	"clew/api"
	"clew/ast"
	"clew/caps"
	"clew/frame"
	"clew/naive"
)

// runner runs configs as P13.5 tells it, in at most so many steps; ahead is done ahead of each step, if there is one.
type runner struct {
	t     *testing.T
	m     *Machine
	most  int
	ahead func()
}

// tooLong is told by panic, where there are more steps.
type tooLong struct{}

// run is the config that a run ends with, and yes; no, if it fails.
func (r *runner) run(c Config) (Config, bool) {
	for {
		r.most--
		if r.most < 0 {
			panic(tooLong{})
		}
		if r.ahead != nil {
			r.ahead()
		}
		step, wrong := r.m.Next(c)
		if wrong != api.OK {
			r.t.Fatal("no step:", c, wrong)
		}
		r.holdStep(c, step)
		switch step.Kind {
		case Fail:
			return Config{}, false
		case Done:
			return c, true
		case Go:
			c = step.A
		case Choice:
			if x, is := r.run(step.A); is {
				return x, true
			}
			c = step.B
		case Sub:
			x, is := r.run(step.A)
			joined, goesOn := Join(step.How, step.B, x, is)
			if !goesOn {
				return Config{}, false
			}
			c = joined
		}
	}
}

// holdStep holds what is so of all steps: what is not named is zero.
func (r *runner) holdStep(c Config, s Step) {
	none := Config{}
	is := map[int]bool{
		Fail:   s.How == 0 && s.A == none && s.B == none,
		Done:   s.How == 0 && s.A == none && s.B == none && c.Frame == 0,
		Go:     s.How == 0 && s.B == none,
		Choice: s.How == 0 && s.A.Pos == c.Pos && s.B.Pos == c.Pos && s.A.Caps == c.Caps && s.B.Caps == c.Caps,
		Sub:    s.How <= Miss && s.A.Pos <= c.Pos && s.B.Pos == c.Pos && s.A.Caps == c.Caps && s.B.Caps == c.Caps,
	}[s.Kind]
	if !is {
		r.t.Fatal("the step is none:", c, s)
	}
}

// fromPlace is the end of the run of all of the tree from a place, as text.
func (r *runner) fromPlace(at int) string {
	c, wrong := r.m.Begin(at)
	if wrong != api.OK {
		r.t.Fatal("Begin:", at, wrong)
	}
	x, is := r.run(c)
	if !is {
		return "none"
	}
	return strconv.Itoa(x.Frame) + " at " + strconv.Itoa(x.Pos) + " with " + x.Caps.Show(9)
}

// searched are the ends of the runs from all places from 0 to last.
func searched(t *testing.T, m *Machine, last int) []string {
	t.Helper()
	var l []string
	for at := range last + 1 {
		r := runner{t: t, m: m, most: 1 << 20}
		l = append(l, r.fromPlace(at))
	}
	return l
}

// tally counts what is held against naive.
type tally struct{ trees, ends, fails, groups, skipped, frames int }

// hold holds the runs from all places of the texts against the first outcomes, with one machine a text.
func (h *tally) hold(t *testing.T, tree ast.Tree, texts []string) {
	t.Helper()
	h.trees++
	for _, s := range texts {
		m := machineOf(t, tree, s, room)
		for at := range len(s) + 1 {
			if !h.holdRun(t, m, tree, s, at) {
				h.skipped++
				return
			}
		}
		h.frames += m.Len()
		holdPut(t, m)
	}
}

// holdRun holds one run; it is no, if that would take too long.
func (h *tally) holdRun(t *testing.T, m *Machine, tree ast.Tree, s string, at int) (few bool) {
	t.Helper()
	defer func() {
		wrong := recover()
		if _, long := wrong.(tooLong); !long && wrong != nil {
			panic(wrong)
		}
		few = wrong == nil
	}()
	c, wrong := m.Begin(at)
	if c.Pos != at || c.Caps != (caps.Caps{}) || wrong != api.OK {
		t.Fatal("Begin:", at, c, wrong)
	}
	r := runner{t: t, m: m, most: 5000}
	x, is := r.run(c)
	outcomes, _ := naive.All(tree, s, at, 1)
	if is != (len(outcomes) == 1) || is && (outcomes[0] != naive.State{Pos: x.Pos, Caps: x.Caps} || x.Frame != 0) || !is && x != (Config{}) {
		t.Fatalf("the run of %v in %q from %d ends with %v, %v; the outcomes are %v", tree.Nodes, s, at, x, is, outcomes)
	}
	switch {
	case !is:
		h.fails++
	case x.Caps != (caps.Caps{}):
		h.groups++
		fallthrough
	default:
		h.ends++
	}
	return true
}

// holdPut holds what is so of all frames that a machine puts: of Turn K is 0 to Min and 1, or Max.
func holdPut(t *testing.T, m *Machine) {
	t.Helper()
	for id, f := range framesOf(m) {
		n := m.nodes[f.Node]
		is := f.Next <= id
		switch f.Kind {
		case frame.Do:
			is = is && f.K == 0 && f.From == 0
		case frame.Turn:
			most := n.Max
			if most < 0 {
				most = n.Min + 1
			}
			is = is && n.Kind == ast.Repeat && f.K <= most && f.From <= len(m.text)
		case frame.Close:
			is = is && n.Kind == ast.Group && f.K == 0 && f.From <= len(m.text)
		}
		if !is {
			t.Fatal("a frame is none:", id+1, f, m.nodes)
		}
	}
}

// P13.5: all trees of up to four nodes of all kinds, at all places of short texts.
func TestRunsOfSmallTrees(t *testing.T) {
	t.Parallel()
	leaves := []ast.Node{
		{Kind: ast.Empty}, {Kind: ast.Bytes}, letterA, letterB, anyByte,
		{Kind: ast.Begin}, {Kind: ast.End}, {Kind: ast.LineBegin}, {Kind: ast.LineEnd}, {Kind: ast.Word}, {Kind: ast.NotWord}, {Kind: ast.Back, N: 1}, {Kind: ast.Back, N: 1, Fold: true},
	}
	texts := []string{"", "a", "b", "\n", "ab", "aa", "bab", "aAa", "a\n "}
	var h tally
	for _, p := range plantsOf(4, leaves, ones, twos) {
		if p.has(ast.Back) {
			p = besideGroup(p)
		}
		if tree := p.tree(); ast.Right(tree) == api.OK {
			h.hold(t, tree, texts)
		}
	}
	if h.trees < 30000 || h.ends < 100000 || h.fails < 100000 || h.groups < 50000 || h.skipped > 0 {
		t.Error("too few:", h)
	}
}

// P13.5: greater trees of a few kinds.
func TestRunsOfTreesOfAFewKinds(t *testing.T) {
	t.Parallel()
	texts := append(textsOf("ab", 2), "aab", "abab")
	few := [][]ast.Node{{ones[0], ones[6]}, {ones[6], ones[11]}, {ones[0], ones[12]}, {ones[1], ones[5]}, {ones[2], ones[3]}, {ones[8], ones[9]}, {ones[10], ones[13]}}
	var h tally
	for _, l := range few {
		for _, p := range plantsOf(6, []ast.Node{{Kind: ast.Empty}, letterA, letterB}, l, twos) {
			if tree := p.tree(); ast.Right(tree) == api.OK {
				h.hold(t, tree, texts)
			}
		}
	}
	if h.trees < 10000 || h.ends < 100000 || h.fails < 10000 || h.groups < 10000 || h.skipped > h.trees/100 {
		t.Error("too few:", h)
	}
}

// P13.5: greater trees of all kinds, drawn by a fixed rule.
func TestRunsOfDrawnTrees(t *testing.T) {
	t.Parallel()
	texts := append(textsOf("ab", 3), "\n", "ab\nab", "a b", "aAbB", "ababab")
	draw := drawer(31)
	var h tally
	for i := range 6000 {
		tree := besideGroup(around(ast.Group, draw.plant(2+i%7))).tree()
		if ast.Right(tree) == api.OK {
			h.hold(t, tree, texts)
		}
	}
	if h.trees < 3000 || h.ends < 50000 || h.fails < 50000 || h.groups < 50000 || h.skipped > h.trees/10 {
		t.Error("too few:", h)
	}
}

// P13.5: runs by hand: repeats whose turns go no further, looks, what keeps together, and groups.
func TestRuns(t *testing.T) {
	for _, x := range []struct{ pattern, text, want string }{
		{"a|b", "b", "1"}, {"a|ab", "ab", "1"}, {"a*", "aab", "2"}, {"a*?", "aab", "0"}, {"a*?b", "aab", "3"}, {"a*+a", "aaa", "none"}, {"a{2}", "aaa", "2"}, {"a{2,}?", "aaa", "2"}, {"a{0}", "aaa", "0"}, {"(?:a|b)*c", "ababc", "5"},
		{"(?:)*", "a", "0"}, {"(?:){3}", "a", "0"}, {"(?:){2,}", "a", "0"}, {"(?:a?){3}", "aa", "2"}, {"(?:a*)*", "aa", "2"}, {"(?:a*)*b", "aa", "none"}, {"(?:a*?)*?b", "aab", "3"}, {"(?:a*)++", "aa", "2"}, {"(?:|a)*", "aa", "2"}, {"(?:|a)*?b", "aab", "3"}, {"(?:^)*a", "a", "1"}, {"(?:\\b)+a", "a", "1"}, {"(?:(?=a)){2,5}a", "a", "1"},
		{"(a*)*", "aa", "2 0-2"}, {"(a*)+", "b", "0 0-0"}, {"(a?){3}", "aa", "2 2-2"}, {"(a|b)*", "abb", "3 2-3"}, {"(a)|b", "b", "1 ?"}, {"((a)|b)*", "ab", "2 1-2,0-1"},
		{"(?=(a+))a*b\\1", "aab", "none"}, {"(?=(a+))ab\\1", "aba", "3 0-1"}, {"(?!(a))b", "b", "1 ?"}, {"(?>a|ab)c", "abc", "none"}, {"(?>(a|ab))b", "ab", "2 0-1"}, {"a(?<=a)b", "ab", "2"}, {"ab(?<=(a)b)", "ab", "2 0-1"}, {"(?<!a)b", "b", "1"}, {"a(?<!a)b", "ab", "none"}, {"a(?<!ba)b", "ab", "2"},
	} {
		m := made(t, x.pattern, x.text)
		r := runner{t: t, m: m, most: 10000}
		c, _ := m.Begin(0)
		got := "none"
		if end, is := r.run(c); is {
			got = strconv.Itoa(end.Pos)
			if groups := ast.Groups(parsed(t, x.pattern)); groups > 0 {
				got += " " + end.Caps.Show(groups)
			}
		}
		if got != x.want {
			t.Errorf("the run of %s in %q ends with %s instead of %s", x.pattern, x.text, got, x.want)
		}
	}
}

// P13.5: the longest texts, with choices that wait at all places.
func TestRunsOfLongTexts(t *testing.T) {
	for _, x := range []struct {
		pattern, text string
		to            int // below 0: it fails
	}{
		{"(?:a|b)*c", strings.Repeat("ab", 4999) + "ac", 10000}, {"(?:a|b)*c", strings.Repeat("ab", 5000), -1}, {"(?:a|b)*?c", strings.Repeat("b", 9999) + "c", 10000}, {"(?:a{100})*+", strings.Repeat("a", 10000), 10000}, {"(a|b)*", strings.Repeat("a", 10000), 10000}, {"(?:(?=a)a)+(?<=a{100})$", strings.Repeat("a", 10000), 10000},
	} {
		m := made(t, x.pattern, x.text)
		r := runner{t: t, m: m, most: 1 << 20}
		c, _ := m.Begin(0)
		end, is := r.run(c)
		if is != (x.to >= 0) || is && end.Pos != x.to {
			t.Error("the run of", x.pattern, "ends with", end.Pos, is)
		}
	}
}

// P13.5: that frames run out is told by Next, not by another end of the run.
func TestRunOutOfRoom(t *testing.T) {
	const pattern, text = "(?:a|b)*?c", "abbac"
	wide := made(t, pattern, text)
	want := searched(t, wide, 0)
	for most := range wide.Len() + 2 {
		m := machineOf(t, parsed(t, pattern), text, most)
		got, wrong := m.endWithin()
		if (wrong == api.OK) != (most >= wide.Len()) || wrong != api.OK && wrong != api.ErrBig {
			t.Error("with room for", most, "frames:", wrong)
		}
		if wrong == api.OK && "0 at "+strconv.Itoa(got)+" with "+(caps.Caps{}).Show(9) != want[0] {
			t.Error("with room for", most, "frames the run ends at", got, "instead of", want)
		}
		if wrong == api.ErrBig && m.Len() != most {
			t.Error("with room for", most, "frames there are", m.Len())
		}
	}
}

// endWithin is where the run from 0 of a tree without Subs ends, told by a list of what waits, or the first error; below 0, if it fails.
func (m *Machine) endWithin() (int, api.Errno) {
	c, wrong := m.Begin(0)
	if wrong != api.OK {
		return 0, wrong
	}
	for waiting := []Config{c}; len(waiting) > 0; {
		c, waiting = waiting[len(waiting)-1], waiting[:len(waiting)-1]
		step, wrong := m.Next(c)
		switch {
		case wrong != api.OK:
			return 0, wrong
		case step.Kind == Done:
			return c.Pos, api.OK
		case step.Kind == Choice:
			waiting = append(waiting, step.B, step.A)
		case step.Kind == Go:
			waiting = append(waiting, step.A)
		}
	}
	return -1, api.OK
}

// P13.5: the runs from all places are Find's match.
func TestSearchIsFind(t *testing.T) {
	for _, pattern := range []string{"b|ab", "(a+)b\\1", "(?<=a)b(?!c)", "(a|b)*?c", "x", "(?:a|)+c", `\b(?i:A)\B`} {
		for _, s := range []string{"", "aabaab", "abcb", "cab", "xbx", "a aab"} {
			tree := parsed(t, pattern)
			m := machineOf(t, tree, s, room)
			match, is, _ := naive.Find(tree, s)
			want := "none"
			if is {
				want = "0 at " + strconv.Itoa(match.To) + " with " + match.Caps.Show(9)
			}
			ends := searched(t, m, len(s))
			first := slices.IndexFunc(ends, func(end string) bool { return end != "none" })
			if is != (first >= 0) || is && (first != match.From || ends[first] != want) {
				t.Error("the search of", pattern, "in", s, "is", ends, "instead of", match.From, want)
			}
		}
	}
}

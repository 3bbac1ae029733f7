package step

import (
	"slices"
	"strings"
	"testing"

	"clew/api"
	"clew/ast"
	"clew/caps"
	"clew/frame"
)

// A doRow tries Do of a node of a pattern's tree, at a place: the frames that are put, from the number 3 on, and the step.
type doRow struct {
	pattern, text string
	node, at      int
	put           []frame.Frame
	want          Step
}

func (r doRow) hold(t *testing.T) {
	t.Helper()
	m := setting(t, r.pattern, r.text, doOf(r.node, 0))
	holdNext(t, m, Config{2, r.at, odd()}, r.want)
	holdFrames(t, m, append([]frame.Frame{marker, doOf(r.node, 1)}, r.put...)...)
	if t.Failed() {
		t.Fatal("in", r.pattern, r.text, r.node, r.at)
	}
}

// P13.3: nodes without children go on, or fail, and put nothing.
func TestDoOfLeaves(t *testing.T) {
	for _, r := range []doRow{
		{"(?:)", "ab", 0, 0, nil, goes(1, 0)}, {"(?:)", "ab", 0, 1, nil, goes(1, 1)}, {"(?:)", "ab", 0, 2, nil, goes(1, 2)}, {"(?:)", "", 0, 0, nil, goes(1, 0)},
		{"a", "aba", 0, 0, nil, goes(1, 1)}, {"a", "aba", 0, 1, nil, fails}, {"a", "aba", 0, 2, nil, goes(1, 3)}, {"a", "aba", 0, 3, nil, fails}, {"a", "", 0, 0, nil, fails},
		{"[ab]", "aba", 0, 1, nil, goes(1, 2)}, {"[^a]", "aba", 0, 0, nil, fails}, {".", "\n", 0, 0, nil, fails}, {"(?s:.)", "\n", 0, 0, nil, goes(1, 1)},
		{`\xff`, "\x00\xff", 0, 0, nil, fails}, {`\xff`, "\x00\xff", 0, 1, nil, goes(1, 2)}, {`\x00`, "\x00\xff", 0, 0, nil, goes(1, 1)},
		{`[^\x00-\xff]`, "a", 0, 0, nil, fails}, {"(?s:.)", "a", 0, 1, nil, fails},
		{"ab", "ab", 1, 0, nil, fails}, {"ab", "ab", 1, 1, nil, goes(1, 2)}, {"ab", "ab", 0, 0, nil, goes(1, 1)},
	} {
		r.hold(t)
	}
}

// P13.3: what asserts goes on where it stands, just where naive.Holds says so.
func TestDoOfWhatAsserts(t *testing.T) {
	const text = "a\nb "
	for pattern, places := range map[string][]int{"^": {0}, "$": {4}, "(?m:^)": {0, 2}, "(?m:$)": {1, 4}, `\b`: {0, 1, 2, 3}, `\B`: {4}} {
		for at := range len(text) + 1 {
			want := fails
			if slices.Contains(places, at) {
				want = goes(1, at)
			}
			doRow{pattern, text, 0, at, nil, want}.hold(t)
		}
	}
	for pattern, holds := range map[string]bool{"^": true, "$": true, "(?m:^)": true, "(?m:$)": true, `\b`: false, `\B`: true} {
		want := fails
		if holds {
			want = goes(1, 0)
		}
		doRow{pattern, "", 0, 0, nil, want}.hold(t)
	}
}

// P13.3: Back goes on as many bytes as its group has, if these stand there again.
func TestDoOfBack(t *testing.T) {
	// Nodes: 0 Bytes, 1 Group, 2 Back, 3 Cat.
	const same, anyCase = `(a)\1`, `(a)(?i:\1)`
	beyond := caps.Caps{Is: [9]bool{true}, At: [9][2]int{{0, 9}}}
	turned := caps.Caps{Is: [9]bool{true}, At: [9][2]int{{2, 1}}}
	for _, r := range []struct {
		pattern, text string
		at            int
		caps          caps.Caps
		to            int // below 0: it fails
	}{
		{same, "abab", 2, capsOf(t, 1, 0, 2), 4}, {same, "abab", 0, capsOf(t, 1, 0, 2), 2}, {same, "abab", 1, capsOf(t, 1, 0, 2), -1}, {same, "abab", 3, capsOf(t, 1, 0, 2), -1}, {same, "abab", 4, capsOf(t, 1, 0, 2), -1},
		{same, "abab", 3, capsOf(t, 1, 1, 2), 4}, {same, "abab", 0, capsOf(t, 1, 0, 4), 4},
		{same, "abab", 0, capsOf(t, 1, 3, 3), 0}, {same, "abab", 2, capsOf(t, 1, 4, 4), 2}, {same, "abab", 4, capsOf(t, 1, 0, 0), 4}, {same, "", 0, capsOf(t, 1, 0, 0), 0},
		{same, "abab", 0, caps.Caps{}, -1}, {same, "abab", 4, caps.Caps{}, -1}, {same, "abab", 0, capsOf(t, 2, 0, 2), -1}, {same, "abab", 0, beyond, -1}, {same, "abab", 0, turned, -1},
		{same, "abAB", 2, capsOf(t, 1, 0, 2), -1}, {anyCase, "abAB", 2, capsOf(t, 1, 0, 2), 4}, {anyCase, "aBAb", 2, capsOf(t, 1, 0, 2), 4}, {anyCase, "abAc", 2, capsOf(t, 1, 0, 2), -1}, {anyCase, "abA", 2, capsOf(t, 1, 0, 2), -1},
		{anyCase, "abAB", 2, caps.Caps{}, -1},
	} {
		m := setting(t, r.pattern, r.text, doOf(2, 0))
		want := fails
		if r.to >= 0 {
			want = Step{Kind: Go, A: Config{1, r.to, r.caps}}
		}
		holdNext(t, m, Config{2, r.at, r.caps}, want)
		holdFrames(t, m, marker, doOf(2, 1))
	}
	m := setting(t, `(a)(b)\2`, "abab", doOf(5, 0))
	if n := m.nodes[5]; n.Kind != ast.Back || n.N != 2 {
		t.Fatal("no Back:", n)
	}
	held := capsOf(t, 1, 0, 1, 2, 1, 2)
	holdNext(t, m, Config{2, 3, held}, Step{Kind: Go, A: Config{1, 4, held}})
	holdNext(t, m, Config{2, 2, held}, fails)
}

// P13.3: Cat puts B and then A, and goes to A; Alt puts A and then B, and has a choice; Group puts its Close ahead.
func TestDoOfPairsAndGroups(t *testing.T) {
	for at := range 3 {
		for _, r := range []doRow{
			// Nodes: 0 a, 1 b, 2 both.
			{"ab", "xy", 2, at, []frame.Frame{doOf(1, 1), doOf(0, 3)}, goes(4, at)},
			{"a|b", "xy", 2, at, []frame.Frame{doOf(0, 1), doOf(1, 1)}, either(3, 4, at)},
			// Nodes: 0 a, 1 b, 2 Cat, 3 c, 4 Alt, 5 Group of 1.
			{"(ab|c)", "xy", 5, at, []frame.Frame{closing(5, at, 1), doOf(4, 3)}, goes(4, at)},
			{"(ab|c)", "xy", 4, at, []frame.Frame{doOf(2, 1), doOf(3, 1)}, either(3, 4, at)},
			{"(ab|c)", "xy", 2, at, []frame.Frame{doOf(1, 1), doOf(0, 3)}, goes(4, at)},
			// Nodes: 0 a, 1 Group of 1, 2 b, 3 Group of 2, 4 Cat.
			{"(a)(b)", "xy", 3, at, []frame.Frame{closing(3, at, 1), doOf(2, 3)}, goes(4, at)},
			{"(a)(b)", "xy", 1, at, []frame.Frame{closing(1, at, 1), doOf(0, 3)}, goes(4, at)},
			{"(a)(b)", "xy", 4, at, []frame.Frame{doOf(3, 1), doOf(1, 3)}, goes(4, at)},
		} {
			r.hold(t)
		}
	}
}

// P13.3: a repeat begins with no turn done, from where one is; a possessive one runs on its own.
func TestDoOfRepeat(t *testing.T) {
	for _, often := range []string{"*", "+", "?", "{0}", "{2}", "{3,}", "{2,100}"} {
		for at := range 3 {
			for _, mode := range []string{"", "?"} {
				doRow{"a" + often + mode, "aa", 1, at, []frame.Frame{turning(1, 0, at, 1)}, goes(3, at)}.hold(t)
			}
			doRow{"a" + often + "+", "aa", 1, at, []frame.Frame{turning(1, 0, at, 0)}, runs(Keep, 3, at, 1, at)}.hold(t)
		}
	}
}

// P13.3: looks, and what keeps together, run on their own.
func TestDoOfRunsWithin(t *testing.T) {
	for at := range 4 {
		within := []frame.Frame{doOf(2, 0)}
		for _, r := range []doRow{
			// Nodes: 0 a, 1 b, 2 Cat, 3 the look.
			{"(?=ab)", "abx", 3, at, within, runs(See, 3, at, 1, at)},
			{"(?!ab)", "abx", 3, at, within, runs(Miss, 3, at, 1, at)},
			{"(?>ab)", "abx", 3, at, within, runs(Keep, 3, at, 1, at)},
			{"(?>ab)", "", 3, 0, within, runs(Keep, 3, 0, 1, 0)},
			{"(?=a*)", "abx", 2, at, []frame.Frame{doOf(1, 0)}, runs(See, 3, at, 1, at)},
			{"(?!a*)", "abx", 2, at, []frame.Frame{doOf(1, 0)}, runs(Miss, 3, at, 1, at)},
		} {
			r.hold(t)
		}
	}
}

// P13.3: a look behind begins as many bytes back as its tree has: where there are fewer it fails, or goes on, and puts nothing.
func TestDoOfBehind(t *testing.T) {
	long := "a{100}a{100}a{55}"
	text := strings.Repeat("a", 300)
	for _, x := range []struct {
		within       string
		length, node int // node is the look; its child stands just ahead of it
	}{{"a", 1, 1}, {"ab", 2, 3}, {"a|b", 1, 3}, {"", 0, 1}, {"^", 0, 1}, {"(?=abc)", 0, 6}, {"[ab]{3}", 3, 2}, {"(?>ab)", 2, 4}, {"(?:a|b){2}c", 3, 6}, {"a{0}", 0, 2}, {long, 255, 8}} {
		for _, at := range []int{0, 1, 2, 3, 4, 254, 255, 256, 300} {
			within := []frame.Frame{doOf(x.node-1, 0)}
			ahead := doRow{"(?<=" + x.within + ")", text, x.node, at, within, runs(See, 3, at-x.length, 1, at)}
			behind := doRow{"(?<!" + x.within + ")", text, x.node, at, within, runs(Miss, 3, at-x.length, 1, at)}
			if at < x.length {
				ahead.put, ahead.want = nil, fails
				behind.put, behind.want = nil, goes(1, at)
			}
			ahead.hold(t)
			behind.hold(t)
		}
	}
}

// P13.3: looks behind of unlike lengths in one tree go back each as far as it is to.
func TestDoOfManyBehinds(t *testing.T) {
	tree := parsed(t, "(?<=a)(?<!bc)(?=d)(?<=(?<=efg)hi)")
	lengths := map[int]int{}
	for i, n := range tree.Nodes {
		if n.Kind == ast.Behind || n.Kind == ast.NotBehind {
			lengths[i], _, _ = ast.Len(tree, n.A)
		} else if n.Kind == ast.Ahead {
			lengths[i] = 0
		}
	}
	var far []int
	for i := range tree.Nodes {
		if length, is := lengths[i]; is {
			far = append(far, length)
			m := machineOf(t, tree, "abcdef", room)
			lay(t, m, doOf(i, 0), 1)
			got, wrong := m.Next(Config{Frame: 1, Pos: 5})
			if got.Kind != Sub || got.A.Pos != 5-length || got.B.Pos != 5 || wrong != api.OK {
				t.Error("Next:", i, length, got, wrong)
			}
		}
	}
	if !slices.Equal(far, []int{1, 2, 0, 3, 2}) {
		t.Error("the looks go back", far)
	}
}

// P13.3: a frame that is there already is not put again.
func TestDoOfWhatIsThere(t *testing.T) {
	m := setting(t, "ab", "ab", doOf(2, 0))
	lay(t, m, doOf(0, 0), 3)
	lay(t, m, doOf(1, 1), 4)
	holdNext(t, m, Config{2, 0, odd()}, goes(5, 0))
	holdFrames(t, m, marker, doOf(2, 1), doOf(0, 0), doOf(1, 1), doOf(0, 4))
	m = setting(t, "a|b", "ab", doOf(2, 0))
	lay(t, m, doOf(1, 1), 3)
	holdNext(t, m, Config{2, 1, odd()}, either(4, 3, 1))
	holdFrames(t, m, marker, doOf(2, 1), doOf(1, 1), doOf(0, 1))
	m = setting(t, "(a)", "ab", doOf(1, 0))
	lay(t, m, closing(1, 0, 1), 3)
	lay(t, m, doOf(0, 3), 4)
	holdNext(t, m, Config{2, 0, odd()}, goes(4, 0))
	holdNext(t, m, Config{2, 1, odd()}, goes(6, 1))
	holdFrames(t, m, marker, doOf(1, 1), closing(1, 0, 1), doOf(0, 3), closing(1, 1, 1), doOf(0, 5))
}

// P13.3: of Stop the run is done: the step names no config.
func TestStop(t *testing.T) {
	m := made(t, "ab", "xyz")
	for at := range 4 {
		holdNext(t, m, Config{0, at, odd()}, Step{Kind: Done})
		holdNext(t, m, Config{0, at, caps.Caps{}}, Step{Kind: Done})
	}
	holdFrames(t, m)
}

package step

import (
	"slices"
	"strings"
	"testing"

	"clew/api"
	"clew/ast"
	"clew/frame"
)

// words is a machine told anew, as the document's words do: its frames in a row, Stop's the first one.
type words struct {
	tree   ast.Tree
	s      string
	most   int
	frames []frame.Frame
}

// full is told by panic, where there is no room for a frame.
type full struct{}

func wordsOf(tree ast.Tree, s string, most int) *words {
	return &words{tree, s, most, make([]frame.Frame, 1)}
}

func (w *words) put(f frame.Frame) int {
	if id := slices.Index(w.frames, f); id >= 0 {
		return id
	}
	if len(w.frames) > w.most {
		panic(full{})
	}
	w.frames = append(w.frames, f)
	return len(w.frames) - 1
}

func (w *words) begin(at int) (c Config, wrong api.Errno) {
	defer func() {
		if _, is := recover().(full); is {
			c, wrong = Config{}, api.ErrBig
		}
	}()
	if at < 0 || at > len(w.s) {
		return Config{}, api.ErrArg
	}
	return Config{Frame: w.put(doOf(len(w.tree.Nodes)-1, 0)), Pos: at}, api.OK
}

func (w *words) may(c Config) bool {
	if c.Frame < 0 || c.Frame >= len(w.frames) || c.Pos < 0 || c.Pos > len(w.s) {
		return false
	}
	f := w.frames[c.Frame]
	if f.Kind == frame.Stop {
		return true
	}
	if f.Node >= len(w.tree.Nodes) {
		return false
	}
	kind := w.tree.Nodes[f.Node].Kind
	return f.Kind == frame.Do || f.From <= c.Pos && (f.Kind == frame.Turn && kind == ast.Repeat || f.Kind == frame.Close && kind == ast.Group)
}

func (w *words) next(c Config) (step Step, wrong api.Errno) {
	defer func() {
		if _, is := recover().(full); is {
			step, wrong = Step{}, api.ErrBig
		}
	}()
	if !w.may(c) {
		return Step{}, api.ErrArg
	}
	f := w.frames[c.Frame]
	next := Config{f.Next, c.Pos, c.Caps}
	switch f.Kind {
	case frame.Do:
		return w.do(f, c, next), api.OK
	case frame.Turn:
		return w.turn(f, c, next), api.OK
	case frame.Close:
		g := w.tree.Nodes[f.Node].N
		next.Caps.Is[g-1], next.Caps.At[g-1] = true, [2]int{f.From, c.Pos}
		return Step{Kind: Go, A: next}, api.OK
	}
	return Step{Kind: Done}, api.OK
}

func (w *words) do(f frame.Frame, c, next Config) Step {
	n := w.tree.Nodes[f.Node]
	at := func(id, pos int) Config { return Config{id, pos, c.Caps} }
	switch n.Kind {
	case ast.Cat:
		b := w.put(doOf(n.B, f.Next))
		return Step{Kind: Go, A: at(w.put(doOf(n.A, b)), c.Pos)}
	case ast.Alt:
		a := w.put(doOf(n.A, f.Next))
		return Step{Kind: Choice, A: at(a, c.Pos), B: at(w.put(doOf(n.B, f.Next)), c.Pos)}
	case ast.Group:
		shut := w.put(closing(f.Node, c.Pos, f.Next))
		return Step{Kind: Go, A: at(w.put(doOf(n.A, shut)), c.Pos)}
	case ast.Repeat:
		if n.Mode == ast.Possessive {
			return Step{Kind: Sub, How: Keep, A: at(w.put(turning(f.Node, 0, c.Pos, 0)), c.Pos), B: next}
		}
		return Step{Kind: Go, A: at(w.put(turning(f.Node, 0, c.Pos, f.Next)), c.Pos)}
	case ast.Ahead, ast.NotAhead, ast.Atomic:
		how := map[int]int{ast.Ahead: See, ast.NotAhead: Miss, ast.Atomic: Keep}[n.Kind]
		return Step{Kind: Sub, How: how, A: at(w.put(doOf(n.A, 0)), c.Pos), B: next}
	case ast.Behind, ast.NotBehind:
		length, _, _ := ast.Len(w.tree, n.A)
		if c.Pos < length && n.Kind == ast.Behind {
			return Step{Kind: Fail}
		}
		if c.Pos < length {
			return Step{Kind: Go, A: next}
		}
		how := map[int]int{ast.Behind: See, ast.NotBehind: Miss}[n.Kind]
		return Step{Kind: Sub, How: how, A: at(w.put(doOf(n.A, 0)), c.Pos-length), B: next}
	}
	if further := w.further(n, c); further >= 0 {
		return Step{Kind: Go, A: at(f.Next, c.Pos+further)}
	}
	return Step{Kind: Fail}
}

// further is how many bytes a node without children goes further; below 0, if it fails.
func (w *words) further(n ast.Node, c Config) int {
	rest := w.s[c.Pos:]
	isWord := func(i int) bool {
		return i >= 0 && i < len(w.s) && strings.Contains("abcdefghijklmnopqrstuvwxyzABCDEFGHIJKLMNOPQRSTUVWXYZ0123456789_", w.s[i:i+1])
	}
	edge := isWord(c.Pos-1) != isWord(c.Pos)
	is := true
	switch n.Kind {
	case ast.Bytes:
		if rest == "" || !n.Set.Has(rest[0]) {
			return -1
		}
		return 1
	case ast.Back:
		place := c.Caps.At[n.N-1]
		if !c.Caps.Is[n.N-1] || place[0] < 0 || place[0] > place[1] || place[1] > len(w.s) {
			return -1
		}
		piece := w.s[place[0]:place[1]]
		if len(piece) > len(rest) || rest[:len(piece)] != piece && !(n.Fold && strings.ToLower(rest[:len(piece)]) == strings.ToLower(piece)) {
			return -1
		}
		return len(piece)
	case ast.Begin:
		is = c.Pos == 0
	case ast.End:
		is = rest == ""
	case ast.LineBegin:
		is = c.Pos == 0 || w.s[c.Pos-1] == 10
	case ast.LineEnd:
		is = rest == "" || rest[0] == 10
	case ast.Word:
		is = edge
	case ast.NotWord:
		is = !edge
	}
	if !is {
		return -1
	}
	return 0
}

func (w *words) turn(f frame.Frame, c, next Config) Step {
	n := w.tree.Nodes[f.Node]
	if f.K > n.Min && c.Pos == f.From {
		return Step{Kind: Fail}
	}
	if f.K == n.Max && f.K >= n.Min {
		return Step{Kind: Go, A: next}
	}
	k := f.K + 1
	if n.Max == -1 && k > n.Min+1 {
		k = n.Min + 1
	}
	more := w.put(turning(f.Node, k, c.Pos, f.Next))
	again := Config{w.put(doOf(n.A, more)), c.Pos, c.Caps}
	switch {
	case f.K < n.Min:
		return Step{Kind: Go, A: again}
	case n.Mode == ast.Lazy:
		return Step{Kind: Choice, A: next, B: again}
	}
	return Step{Kind: Choice, A: again, B: next}
}

// visit holds a machine against the words, call by call, at configs that were answered and at others.
type visit struct {
	m     *Machine
	w     *words
	draw  *drawer
	known []Config
	told  map[api.Errno]int
	kinds map[int]int
}

// call draws a call, and holds what both answer.
func (v *visit) call(t *testing.T) {
	t.Helper()
	v.layOdd(t)
	if v.draw.below(8) == 0 {
		at := v.draw.below(len(v.w.s)+3) - 1
		got, gotWrong := v.m.Begin(at)
		want, wrong := v.w.begin(at)
		if got != want || gotWrong != wrong {
			t.Fatalf("Begin(%d) = %v, %d instead of %v, %d: %v, %q", at, got, gotWrong, want, wrong, v.w.tree.Nodes, v.w.s)
		}
		v.told[wrong]++
		v.keep(got)
	} else {
		c := v.config()
		got, gotWrong := v.m.Next(c)
		want, wrong := v.w.next(c)
		if got != want || gotWrong != wrong {
			t.Fatalf("Next(%v) = %v, %d instead of %v, %d: %v, %q, %v", c, got, gotWrong, want, wrong, v.w.tree.Nodes, v.w.s, v.w.frames)
		}
		v.told[wrong]++
		if wrong == api.OK {
			v.kinds[got.Kind]++
		}
		v.keep(got.A, got.B)
	}
	if v.m.Len() != len(v.w.frames)-1 {
		t.Fatal("Len:", v.m.Len(), len(v.w.frames)-1)
	}
}

// layOdd puts, from time to time, a frame that no call would put, in both.
func (v *visit) layOdd(t *testing.T) {
	t.Helper()
	if v.draw.below(6) > 0 || len(v.w.frames) > v.w.most {
		return
	}
	f := frame.Frame{Kind: frame.Do + v.draw.below(3), Node: v.draw.below(len(v.w.tree.Nodes) + 2), K: v.draw.below(5), From: v.draw.below(len(v.w.s) + 2), Next: v.draw.below(len(v.w.frames))}
	lay(t, v.m, f, v.w.put(f))
}

// keep keeps configs to ask for; of what stands at Stop a few are enough.
func (v *visit) keep(l ...Config) {
	for _, c := range l {
		if c.Frame > 0 || v.draw.below(20) == 0 {
			v.known = append(v.known, c)
		}
	}
}

// config draws one that was answered, or one that is like it, or any.
func (v *visit) config() Config {
	c := Config{}
	if len(v.known) > 0 {
		c = v.known[len(v.known)-1-v.draw.below(min(len(v.known), 12))]
	}
	switch v.draw.below(4) {
	case 0:
		c.Frame = v.draw.below(len(v.w.frames)+2) - 1
	case 1:
		c.Pos = v.draw.below(len(v.w.s)+3) - 1
	case 2:
		g := v.draw.below(9)
		c.Caps.Is[g], c.Caps.At[g] = v.draw.below(2) == 0, [2]int{v.draw.below(6) - 1, v.draw.below(8) - 1}
	}
	return c
}

// P13.1 to P13.3: all calls are as the words tell them, of trees of all kinds, with much room and little.
func TestAsTheWords(t *testing.T) {
	t.Parallel()
	texts := []string{"", "a", "ab", "ba\nab", "aAbB a", "abababab"}
	draw := drawer(13)
	told, kinds := map[api.Errno]int{}, map[int]int{}
	for i := range 12000 {
		tree := besideGroup(around(ast.Group, draw.plant(2+i%7))).tree()
		if ast.Right(tree) != api.OK {
			continue
		}
		s := texts[draw.below(len(texts))]
		most := []int{room, draw.below(12), 2 * len(tree.Nodes)}[i%3]
		v := &visit{m: machineOf(t, tree, s, most), w: wordsOf(tree, s, most), draw: &draw, told: told, kinds: kinds}
		for range 60 {
			v.call(t)
		}
		for id, f := range v.w.frames {
			if got, is := v.m.frames.Get(id); got != f || !is {
				t.Fatal("a frame is another one:", id, got, f)
			}
		}
	}
	if told[api.OK] < 100000 || told[api.ErrArg] < 10000 || told[api.ErrBig] < 5000 {
		t.Error("too few:", told)
	}
	for kind := range Sub + 1 {
		if kinds[kind] < 3000 {
			t.Error("too few steps of a kind:", kinds)
		}
	}
}

// P13.4: Join is as the words tell it, of drawn configs.
func TestJoinAsTheWords(t *testing.T) {
	draw := drawer(4)
	drawn := func() Config {
		c := Config{Frame: draw.below(9), Pos: draw.below(9)}
		c.Caps.Is[draw.below(9)] = true
		c.Caps.At[draw.below(9)] = [2]int{draw.below(9), draw.below(9)}
		return c
	}
	for range 5000 {
		how, b, x, is := draw.below(5)-1, drawn(), drawn(), draw.below(2) == 0
		want, yes := Config{}, false
		if how == Keep && is {
			want, yes = Config{Frame: b.Frame, Pos: x.Pos, Caps: x.Caps}, true
		}
		if how == See && is {
			want, yes = Config{Frame: b.Frame, Pos: b.Pos, Caps: x.Caps}, true
		}
		if how == Miss && !is {
			want, yes = b, true
		}
		if got, gotYes := Join(how, b, x, is); got != want || gotYes != yes {
			t.Fatal("Join:", how, b, x, is, got, gotYes, want, yes)
		}
	}
}

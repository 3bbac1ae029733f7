package facts

import (
	"testing"

	"clew/ast"
	"clew/class"
)

var (
	firstA  = class.One('a')
	firstB  = class.One('b')
	firstAB = class.Of("ab")
)

// sample is a plant, and what the words say of it.
type sample struct {
	what  string
	plant plant
	want  Facts
}

// samples are the kinds, each alone or with a child of which the kind tells all it can.
func samples() []sample {
	nothing := Facts{Open: true}
	return []sample{
		{"Empty", empty, nothing},
		{"a", a, Facts{First: firstA, Prefix: "a"}},
		{"Begin", begin, Facts{Open: true, Fast: true}},
		{"End", leaf(ast.End), nothing},
		{"LineBegin", leaf(ast.LineBegin), nothing},
		{"LineEnd", leaf(ast.LineEnd), nothing},
		{"Word", leaf(ast.Word), nothing},
		{"NotWord", leaf(ast.NotWord), nothing},
		{"Cat", ab, Facts{First: firstA, Prefix: "ab"}},
		{"Alt", altOf(a, b), Facts{First: firstAB}},
		{"Repeat", times(a, 1, -1), Facts{First: firstA, Prefix: "a"}},
		{"Group", group(a), Facts{First: firstA, Prefix: "a"}},
		{"Back", backTo(1), Facts{First: class.All(), Open: true}},
		{"Ahead", around(ast.Ahead, a), nothing},
		{"NotAhead", around(ast.NotAhead, a), nothing},
		{"Behind", around(ast.Behind, a), nothing},
		{"NotBehind", around(ast.NotBehind, a), nothing},
		{"Atomic", around(ast.Atomic, a), Facts{First: firstA, Prefix: "a"}},
	}
}

// P9.1: each kind.
func TestKinds(t *testing.T) {
	seen := map[int]bool{}
	for _, s := range samples() {
		seen[s.plant.node.Kind] = true
		wantPart(t, s.what, s.plant, s.want)
	}
	if len(seen) != ast.Kinds {
		t.Error("a kind is missing:", len(seen))
	}
}

// P9.1: the examples of the chapter.
func TestExamples(t *testing.T) {
	wantOf(t, "ab|ac", altOf(ab, catOf(a, c)), Facts{First: firstA})
	wantOf(t, "^ab", row(begin, a, b), Facts{First: firstA, Fast: true, Prefix: "ab"})
}

// P9.1: Bytes of one byte, of none, of several, of all.
func TestBytes(t *testing.T) {
	for i := range 256 {
		one := class.One(byte(i))
		wantOf(t, "one byte", set(one), Facts{First: one, Prefix: string([]byte{byte(i)})})
		wantOf(t, "all others", set(one.Not()), Facts{First: one.Not()})
		wantOf(t, "two bytes", set(one.Or(class.One(byte(i+1)))), Facts{First: one.Or(class.One(byte(i + 1)))})
	}
	wantOf(t, "no byte", set(class.Set{}), Facts{})
	wantOf(t, "several", bytesOf("a0\x00\xff"), Facts{First: class.Of("a0\x00\xff")})
	wantOf(t, "all", set(class.All()), Facts{First: class.All()})
	wantOf(t, "no byte ahead of a", catOf(set(class.Set{}), a), Facts{})
	wantOf(t, "a ahead of no byte", catOf(a, set(class.Set{})), Facts{First: firstA, Prefix: "a"})
	wantOf(t, "no byte or a", altOf(set(class.Set{}), a), Facts{First: firstA})
	wantOf(t, "no byte or a, ahead of b", catOf(altOf(set(class.Set{}), a), b), Facts{First: firstA})
}

// P9.1: each kind within each one that has a child.
func TestAround(t *testing.T) {
	for _, s := range samples() {
		for _, kind := range []int{ast.Group, ast.Atomic} {
			wantPart(t, s.what+" within", around(kind, s.plant), s.want)
		}
		for kind := ast.Ahead; kind <= ast.NotBehind; kind++ {
			if kind >= ast.Behind && s.plant.tell().most != 1 && s.plant.tell().most != 0 {
				// It has no one length.
				continue
			}
			wantPart(t, s.what+" looked for", around(kind, s.plant), Facts{Open: true})
		}
		maybe := Facts{First: s.want.First, Open: true}
		wantPart(t, s.what+" 0 times", times(s.plant, 0, 0), Facts{Open: true})
		wantPart(t, s.what+" 0 or 1 times", times(s.plant, 0, 1), maybe)
		wantPart(t, s.what+" 0 to 100 times", times(s.plant, 0, 100), maybe)
		wantPart(t, s.what+" 0 times and more", many(s.plant), maybe)
		for _, most := range []int{-1, 1, 2, 100} {
			wantPart(t, s.what+" once and more", times(s.plant, 1, most), s.want)
		}
		for _, most := range []int{-1, 2, 3, 100} {
			wantPart(t, s.what+" twice and more", times(s.plant, 2, most), s.want)
		}
		for _, most := range []int{-1, 100} {
			wantPart(t, s.what+" 100 times", times(s.plant, 100, most), s.want)
		}
	}
}

// P9.1: a Repeat's Mode changes nothing of what is known.
func TestModes(t *testing.T) {
	for mode := range 3 {
		of := func(p plant, least, most int) plant {
			return plant{ast.Node{Kind: ast.Repeat, Min: least, Max: most, Mode: mode}, []plant{p}}
		}
		wantOf(t, "a 0 times", of(a, 0, 0), Facts{Open: true})
		wantOf(t, "a*", of(a, 0, -1), Facts{First: firstA, Open: true})
		wantOf(t, "a+", of(a, 1, -1), Facts{First: firstA, Prefix: "a"})
		wantOf(t, "a once, b", catOf(of(a, 1, 1), b), Facts{First: firstA, Prefix: "ab"})
		wantOf(t, "^ twice", of(begin, 2, 2), Facts{Open: true, Fast: true})
	}
}

// P9.1: each kind beside each other one, in a Cat, and in an Alt; what is known of both is written out from what is known of each.
func TestBeside(t *testing.T) {
	// What a kind of samples has beside its facts: whether its prefix is whole, and whether it has 0 bytes at most.
	whole := map[string]bool{"a": true, "Cat": true, "Group": true, "Atomic": true}
	none := map[string]bool{}
	for _, s := range samples() {
		switch s.what {
		case "a", "Cat", "Group", "Atomic", "Alt", "Repeat", "Back":
		default:
			whole[s.what], none[s.what] = true, true
		}
	}
	for _, p := range samples() {
		for _, q := range samples() {
			cat := Facts{First: p.want.First, Open: p.want.Open && q.want.Open, Fast: p.want.Fast || none[p.what] && q.want.Fast, Prefix: p.want.Prefix}
			if p.want.Open {
				cat.First = cat.First.Or(q.want.First)
			}
			if whole[p.what] {
				cat.Prefix += q.want.Prefix
			}
			wantPart(t, p.what+" and then "+q.what, catOf(p.plant, q.plant), cat)
			alt := Facts{First: p.want.First.Or(q.want.First), Open: p.want.Open || q.want.Open, Fast: p.want.Fast && q.want.Fast}
			wantPart(t, p.what+" or "+q.what, altOf(p.plant, q.plant), alt)
		}
	}
}

// P9.1: First and Open of a Cat: B's bytes count just if A is Open.
func TestOpen(t *testing.T) {
	wantOf(t, "ab", ab, Facts{First: firstA, Prefix: "ab"})
	wantOf(t, "a?b", catOf(times(a, 0, 1), b), Facts{First: firstAB})
	wantOf(t, "a*b", catOf(many(a), b), Facts{First: firstAB})
	wantOf(t, "a+b", catOf(times(a, 1, -1), b), Facts{First: firstA, Prefix: "a"})
	wantOf(t, "ab?", catOf(a, times(b, 0, 1)), Facts{First: firstA, Prefix: "a"})
	wantOf(t, "a?b?", catOf(times(a, 0, 1), times(b, 0, 1)), Facts{First: firstAB, Open: true})
	wantOf(t, "(?:a?b?)c", catOf(catOf(times(a, 0, 1), times(b, 0, 1)), c), Facts{First: class.Of("abc")})
	wantOf(t, "(?:a?b)c", catOf(catOf(times(a, 0, 1), b), c), Facts{First: firstAB})
	wantOf(t, "(?:a|)b", catOf(altOf(a, empty), b), Facts{First: firstAB})
	wantOf(t, "(?:a|)*", many(altOf(a, empty)), Facts{First: firstA, Open: true})
	wantOf(t, "(?:a?)+", times(times(a, 0, 1), 1, -1), Facts{First: firstA, Open: true})
	wantOf(t, "(?:a?){2}b", catOf(times(times(a, 0, 1), 2, 2), b), Facts{First: firstAB})
	wantOf(t, "(?=a)b", catOf(around(ast.Ahead, a), b), Facts{First: firstB, Prefix: "b"})
	wantOf(t, `(a)\1b`, row(group(a), backTo(1), b), Facts{First: firstA, Prefix: "a"})
	wantOf(t, `\1(a)`, catOf(backTo(1), group(a)), Facts{First: class.All()})
}

// P9.1: Fast of a Cat: A is, or B is behind what has 0 bytes at most.
func TestFastCat(t *testing.T) {
	fast := Facts{Open: true, Fast: true}
	wantOf(t, "^^", catOf(begin, begin), fast)
	wantOf(t, "^a", catOf(begin, a), Facts{First: firstA, Fast: true, Prefix: "a"})
	wantOf(t, "^a*", catOf(begin, many(a)), Facts{First: firstA, Open: true, Fast: true})
	wantOf(t, "a^", catOf(a, begin), Facts{First: firstA, Prefix: "a"})
	wantOf(t, "a?^", catOf(times(a, 0, 1), begin), Facts{First: firstA, Open: true})
	wantOf(t, "a*^", catOf(many(a), begin), Facts{First: firstA, Open: true})
	wantOf(t, `()\1^`, row(group(empty), backTo(1), begin), Facts{First: class.All(), Open: true})
	none := []sample{
		{"Empty", empty, Facts{}}, {"$", leaf(ast.End), Facts{}}, {"a 0 times", times(a, 0, 0), Facts{}},
		{"Empty*", many(empty), Facts{}}, {"^?", times(begin, 0, 1), Facts{}}, {"^*", many(begin), Facts{}}, {"^{0,100}", times(begin, 0, 100), Facts{}},
		{"^|$", altOf(begin, leaf(ast.End)), Facts{}}, {"$|^", altOf(leaf(ast.End), begin), Facts{}}, {"(?=a*)", around(ast.Ahead, many(a)), Facts{}}, {"(?!a)", around(ast.NotAhead, a), Facts{}},
		{"(?<=a)", around(ast.Behind, a), Facts{}}, {"(?<!a)", around(ast.NotBehind, a), Facts{}}, {"()", group(empty), Facts{}}, {"(?>$)", around(ast.Atomic, leaf(ast.End)), Facts{}},
		{"(?:a{0}|$)+", times(altOf(times(a, 0, 0), leaf(ast.End)), 1, -1), Facts{}}, {"Back 0 times", times(backTo(1), 0, 0), Facts{}},
	}
	for _, s := range none {
		if s.plant.has(ast.Back) {
			wantOf(t, s.what+"^", row(s.plant, begin, group(empty)), fast)
			continue
		}
		wantOf(t, s.what, s.plant, Facts{Open: true})
		wantOf(t, s.what+"^", catOf(s.plant, begin), fast)
		wantOf(t, s.what+"^ab", catOf(s.plant, catOf(begin, ab)), Facts{First: firstA, Fast: true, Prefix: prefixIf(s.plant.tell().whole, "ab")})
		wantOf(t, s.what+"a^", row(s.plant, a, begin), Facts{First: firstA, Prefix: prefixIf(s.plant.tell().whole, "a")})
		wantOf(t, "^"+s.what, catOf(begin, s.plant), fast)
		wantOf(t, s.what+" or a, and then ^", catOf(altOf(s.plant, a), begin), Facts{First: firstA, Open: true})
	}
	for _, p := range []plant{times(a, 0, 1), times(a, 0, 100), many(a), altOf(a, empty), times(set(class.Set{}), 0, 1)} {
		wantOf(t, "what may have a byte, and then ^", catOf(p, begin), Facts{First: p.tell().facts().First, Open: true})
	}
	// A part that takes no byte ever, but has 1 at most.
	wantOf(t, "a set without bytes or $, and then ^", catOf(altOf(set(class.Set{}), leaf(ast.End)), begin), Facts{Open: true})
}

func prefixIf(whole bool, s string) string {
	if whole {
		return s
	}
	return ""
}

// P9.1: Fast of an Alt: both are; of one, and of none, it is not.
func TestFastAlt(t *testing.T) {
	wantOf(t, "^|^", altOf(begin, begin), Facts{Open: true, Fast: true})
	wantOf(t, "^a|^b", altOf(catOf(begin, a), catOf(begin, b)), Facts{First: firstAB, Fast: true})
	wantOf(t, "^a|b", altOf(catOf(begin, a), b), Facts{First: firstAB})
	wantOf(t, "a|^b", altOf(a, catOf(begin, b)), Facts{First: firstAB})
	wantOf(t, "^|a", altOf(begin, a), Facts{First: firstA, Open: true})
	wantOf(t, "a|^", altOf(a, begin), Facts{First: firstA, Open: true})
	wantOf(t, "a|b", altOf(a, b), Facts{First: firstAB})
	wantOf(t, "^a|^b|^c", choice(catOf(begin, a), catOf(begin, b), catOf(begin, c)), Facts{First: class.Of("abc"), Fast: true})
	wantOf(t, "^a|b|^c", choice(catOf(begin, a), b, catOf(begin, c)), Facts{First: class.Of("abc")})
	wantOf(t, "(?:^|^)a", catOf(altOf(begin, begin), a), Facts{First: firstA, Fast: true})
	wantOf(t, "a|a", altOf(a, a), Facts{First: firstA})
	wantOf(t, "(?:a|a)b", catOf(altOf(a, a), b), Facts{First: firstA})
	wantOf(t, "(?:|)b", catOf(altOf(empty, empty), b), Facts{First: firstB})
	wantOf(t, "b(?:|)c", row(b, altOf(empty, empty), c), Facts{First: firstB, Prefix: "b"})
}

// P9.1: Fast and Prefix of a Repeat: as A, if Min is above 0; whole of 1 and 1 alone.
func TestRepeats(t *testing.T) {
	fast := Facts{Open: true, Fast: true}
	for _, x := range []struct {
		least, most int
		of          Facts
		fast        bool
		behind      string
	}{
		{0, 0, Facts{Open: true}, false, "c"},
		{0, 1, Facts{First: firstA, Open: true}, false, ""},
		{0, 2, Facts{First: firstA, Open: true}, false, ""},
		{0, -1, Facts{First: firstA, Open: true}, false, ""},
		{1, 1, Facts{First: firstA, Prefix: "ab"}, true, "abc"},
		{1, 2, Facts{First: firstA, Prefix: "ab"}, true, "ab"},
		{1, -1, Facts{First: firstA, Prefix: "ab"}, true, "ab"},
		{2, 2, Facts{First: firstA, Prefix: "ab"}, true, "ab"},
		{2, -1, Facts{First: firstA, Prefix: "ab"}, true, "ab"},
		{100, 100, Facts{First: firstA, Prefix: "ab"}, true, "ab"},
	} {
		wantOf(t, "ab repeated", times(ab, x.least, x.most), x.of)
		want := fast
		want.Fast = x.fast
		wantOf(t, "^ repeated", times(begin, x.least, x.most), want)
		first := x.of.First
		if x.of.Open {
			first = first.Or(class.One('c'))
		}
		wantOf(t, "ab repeated, and then c", catOf(times(ab, x.least, x.most), c), Facts{First: first, Prefix: x.behind})
		// What is behind a Repeat that takes no byte stands where it stood, but its prefix only if the Repeat's is whole.
		wantOf(t, "$ repeated, and then c", catOf(times(leaf(ast.End), x.least, x.most), c), Facts{First: class.One('c'), Prefix: prefixIf(x.most == 0 || x.least == 1 && x.most == 1, "c")})
	}
}

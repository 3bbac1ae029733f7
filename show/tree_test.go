package show

import (
	"slices"
	"strconv"
	"testing"

	"clew/api"
	"clew/ast"
	"clew/class"
)

// P8.2: the document's example, node by node.
func TestExample(t *testing.T) {
	tree := ast.Tree{Nodes: []ast.Node{{Kind: ast.Bytes, Set: class.Of("aA")}, {Kind: ast.Repeat, A: 0, Max: -1, Mode: ast.Lazy}}}
	if got := Tree(tree); got != "[Aa]*?" {
		t.Error(got)
	}
}

// sample is a plant, and its pattern.
type sample struct {
	plant
	pattern string
}

// samples are of each kind one or more, each of one length, but those with a Back.
func samples() []sample {
	return []sample{
		{empty, "(?:)"},
		{a, "a"},
		{bytesOf("xyz"), "[x-z]"},
		{bytesOf(""), `[^\x00-\xff]`},
		{bytesOf("?"), `\x3f`},
		{leaf(ast.Begin), "^"},
		{leaf(ast.End), "$"},
		{leaf(ast.LineBegin), "(?m:^)"},
		{leaf(ast.LineEnd), "(?m:$)"},
		{leaf(ast.Word), `\b`},
		{leaf(ast.NotWord), `\B`},
		{catOf(a, b), "ab"},
		{altOf(a, b), "a|b"},
		{repeatOf(a, 2, 2, ast.Greedy), "a{2}"},
		{repeatOf(a, 2, 2, ast.Lazy), "a{2}?"},
		{repeatOf(a, 2, 2, ast.Possessive), "a{2}+"},
		{group(a), "(a)"},
		{backTo(1, false), `\1`},
		{backTo(1, true), `(?i:\1)`},
		{around(ast.Ahead, a), "(?=a)"},
		{around(ast.NotAhead, a), "(?!a)"},
		{around(ast.Behind, a), "(?<=a)"},
		{around(ast.NotBehind, a), "(?<!a)"},
		{around(ast.Atomic, a), "(?>a)"},
	}
}

// place is where a part may stand below a root: the root around a part, the texts on the part's both sides, and the kinds that are held together there.
type place struct {
	root        func(plant) plant
	left, right string
	apart       []int
}

func places() []place {
	of := func(kind int, opening string) place {
		return place{func(p plant) plant { return around(kind, p) }, opening, ")", nil}
	}
	belowRepeat := []int{ast.Cat, ast.Alt, ast.Repeat}
	return []place{
		{func(p plant) plant { return catOf(p, c) }, "", "c", []int{ast.Alt}},
		{func(p plant) plant { return catOf(c, p) }, "c", "", []int{ast.Cat, ast.Alt}},
		{func(p plant) plant { return altOf(p, c) }, "", "|c", nil},
		{func(p plant) plant { return altOf(c, p) }, "c|", "", []int{ast.Alt}},
		{func(p plant) plant { return repeatOf(p, 3, 3, ast.Greedy) }, "", "{3}", belowRepeat},
		{func(p plant) plant { return repeatOf(p, 1, 1, ast.Lazy) }, "", "{1}?", belowRepeat},
		{func(p plant) plant { return repeatOf(p, 0, 0, ast.Possessive) }, "", "{0}+", belowRepeat},
		{many, "", "*", belowRepeat},
		{func(p plant) plant { return repeatOf(p, 0, 1, ast.Lazy) }, "", "??", belowRepeat},
		of(ast.Group, "("),
		of(ast.Ahead, "(?="),
		of(ast.NotAhead, "(?!"),
		of(ast.Behind, "(?<="),
		of(ast.NotBehind, "(?<!"),
		of(ast.Atomic, "(?>"),
	}
}

// at is the sample below a place's root.
func (s sample) at(where place) sample {
	pattern := s.pattern
	if slices.Contains(where.apart, s.node.Kind) {
		pattern = "(?:" + pattern + ")"
	}
	return sample{where.root(s.plant), where.left + pattern + where.right}
}

// P8.2: each kind alone, at each place below each root, and at each place below these.
func TestEachKindAtEachPlace(t *testing.T) {
	held := 0
	hold := func(s sample) {
		// What is looked for behind has one length, which not all that stands there has.
		if ast.Right(besideGroup(s.plant).tree()) != api.ErrBehind {
			held++
			wantPart(t, s.plant, s.pattern)
		}
	}
	for _, s := range samples() {
		hold(s)
		for _, where := range places() {
			hold(s.at(where))
			for _, further := range places() {
				hold(s.at(where).at(further))
			}
		}
	}
	if most := len(samples()) * (1 + len(places())*(1+len(places()))); held < most*9/10 {
		t.Error("held", held, "of", most)
	}
}

// P8.2: parts of each kind beside each other.
func TestEachKindBesideEachOther(t *testing.T) {
	for _, l := range samples() {
		for _, r := range samples() {
			left, right := l.pattern, r.pattern
			if l.node.Kind == ast.Alt {
				left = "(?:" + left + ")"
			}
			inCat, inAlt := right, right
			switch r.node.Kind {
			case ast.Cat:
				inCat = "(?:" + right + ")"
			case ast.Alt:
				inCat, inAlt = "(?:"+right+")", "(?:"+right+")"
			}
			wantPart(t, catOf(l.plant, r.plant), left+inCat)
			wantPart(t, altOf(l.plant, r.plant), l.pattern+"|"+inAlt)
		}
	}
}

// P8.2: trees by hand.
func TestTreesByHand(t *testing.T) {
	for want, p := range map[string]plant{
		"abcd":                 row(a, b, c, d),
		"ab(?:cd)":             catOf(catOf(a, b), catOf(c, d)),
		"a(?:b(?:cd))":         catOf(a, catOf(b, catOf(c, d))),
		"a(?:bcd)":             catOf(a, row(b, c, d)),
		"a|b|c|d":              choice(a, b, c, d),
		"a|b|(?:c|d)":          altOf(altOf(a, b), altOf(c, d)),
		"a|(?:b|(?:c|d))":      altOf(a, altOf(b, altOf(c, d))),
		"ab|cd":                altOf(catOf(a, b), catOf(c, d)),
		"(?:a|b)(?:c|d)":       catOf(altOf(a, b), altOf(c, d)),
		"(?:a|b)cd":            row(altOf(a, b), c, d),
		"a(?:b|c)d":            row(a, altOf(b, c), d),
		"(?:(?:a*)*)*":         many(many(many(a))),
		"(?:ab)*":              many(catOf(a, b)),
		"(?:a|b)*":             many(altOf(a, b)),
		"(?:a*b)*":             many(catOf(many(a), b)),
		"a*b*":                 catOf(many(a), many(b)),
		"a*|b*":                altOf(many(a), many(b)),
		"(a*)*":                many(group(many(a))),
		"(a|b)*c":              catOf(many(group(altOf(a, b))), c),
		"((a)(b))(c)":          catOf(group(catOf(group(a), group(b))), group(c)),
		`(a)\1`:                catOf(group(a), backTo(1, false)),
		`(a)\10`:               row(group(a), backTo(1, false), bytesOf("0")),
		`(a)\1*`:               catOf(group(a), many(backTo(1, false))),
		`(a)(?i:\1)*`:          catOf(group(a), many(backTo(1, true))),
		`(a)(?i:\1)`:           catOf(group(a), backTo(1, true)),
		`\1(?i:\1)(a)`:         row(backTo(1, false), backTo(1, true), group(a)),
		`(a\1)`:                group(catOf(a, backTo(1, false))),
		"(?:)(?:)":             catOf(empty, empty),
		"(?:)|(?:)":            altOf(empty, empty),
		"(?:)*":                many(empty),
		"((?:))":               group(empty),
		"(?=(?:))":             around(ast.Ahead, empty),
		"(?<=a|b)c":            catOf(around(ast.Behind, altOf(a, b)), c),
		"(?>a|b)*":             many(around(ast.Atomic, altOf(a, b))),
		"(?m:^)a(?m:$)":        row(leaf(ast.LineBegin), a, leaf(ast.LineEnd)),
		"^*":                   many(leaf(ast.Begin)),
		"(?m:^)*":              many(leaf(ast.LineBegin)),
		`\b\B*`:                catOf(leaf(ast.Word), many(leaf(ast.NotWord))),
		`\x2a\x2b\x3f\x7b\x7d`: row(bytesOf("*"), bytesOf("+"), bytesOf("?"), bytesOf("{"), bytesOf("}")),
		`a\x2a*`:               catOf(a, many(bytesOf("*"))),
		`\x5cx00 _[ _]`:        row(bytesOf(`\`), bytesOf("x"), bytesOf("0"), bytesOf("0"), bytesOf(" "), bytesOf("_"), bytesOf(" _")),
	} {
		wantTree(t, p, want)
	}
}

// P8.2: each of nine groups, and each asked for, with Fold and without.
func TestGroupsAndBacks(t *testing.T) {
	var l []plant
	want := ""
	for range 9 {
		l = append(l, group(a))
		want += "(a)"
	}
	wantTree(t, row(l...), want)
	for n := 1; n <= 9; n++ {
		l = append(l, backTo(n, false), backTo(n, true))
		want += `\` + strconv.Itoa(n) + `(?i:\` + strconv.Itoa(n) + `)`
	}
	wantTree(t, row(l...), want)
	within := a
	want = "a"
	for range 9 {
		within, want = group(within), "("+want+")"
	}
	wantTree(t, within, want)
	wantTree(t, catOf(within, backTo(9, false)), want+`\9`)
}

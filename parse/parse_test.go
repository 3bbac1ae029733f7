package parse

import (
	"slices"
	"testing"

	"clew/api"
	"clew/ast"
	"clew/class"
)

// plant is a node and what its children are; its tree is laid out here on its own, without ast's calls.
type plant struct {
	node     ast.Node
	children []plant
}

func (p plant) tree() ast.Tree {
	var nodes []ast.Node
	p.layOnto(&nodes)
	return ast.Tree{Nodes: nodes}
}

func (p plant) layOnto(nodes *[]ast.Node) int {
	n := p.node
	for i, child := range p.children {
		place := child.layOnto(nodes)
		if i == 0 {
			n.A = place
		} else {
			n.B = place
		}
	}
	*nodes = append(*nodes, n)
	return len(*nodes) - 1
}

func set(s class.Set) plant { return plant{node: ast.Node{Kind: ast.Bytes, Set: s}} }
func bytes(of string) plant { return set(class.Of(of)) }
func leaf(kind int) plant   { return plant{node: ast.Node{Kind: kind}} }
func cat(l ...plant) plant  { return fromLeft(ast.Cat, l) }
func alt(l ...plant) plant  { return fromLeft(ast.Alt, l) }
func group(n int, p plant) plant {
	return plant{node: ast.Node{Kind: ast.Group, N: n}, children: []plant{p}}
}
func around(kind int, p plant) plant { return plant{node: ast.Node{Kind: kind}, children: []plant{p}} }
func back(n int, fold bool) plant {
	return plant{node: ast.Node{Kind: ast.Back, N: n, Fold: fold}}
}

func repeat(p plant, least, most, mode int) plant {
	return plant{node: ast.Node{Kind: ast.Repeat, Min: least, Max: most, Mode: mode}, children: []plant{p}}
}

func fromLeft(kind int, l []plant) plant {
	all := l[0]
	for _, next := range l[1:] {
		all = plant{node: ast.Node{Kind: kind}, children: []plant{all, next}}
	}
	return all
}

var (
	a     = bytes("a")
	b     = bytes("b")
	c     = bytes("c")
	d     = bytes("d")
	empty = leaf(ast.Empty)
	dot   = set(class.One(10).Not())
)

func wantTree(t *testing.T, p string, want plant) {
	t.Helper()
	wantNodes(t, p, want.tree().Nodes)
}

func wantNodes(t *testing.T, p string, want []ast.Node) {
	t.Helper()
	got, wrong := Parse(p)
	if wrong != api.OK || !slices.Equal(got.Nodes, want) {
		t.Errorf("Parse(%q) = %v, %d; want %v", p, got.Nodes, wrong, want)
	}
}

func wantWrong(t *testing.T, p string, want api.Errno) {
	t.Helper()
	got, wrong := Parse(p)
	if wrong != want || got.Nodes != nil {
		t.Errorf("Parse(%q) = %v, %d; want no nodes, and %d", p, got.Nodes, wrong, want)
	}
}

func wantOK(t *testing.T, p string) {
	t.Helper()
	if got, wrong := Parse(p); wrong != api.OK || ast.Right(got) != api.OK {
		t.Errorf("Parse(%q) = %v, %d; want a tree", p, got.Nodes, wrong)
	}
}

// P7.1: the document's example, node by node.
func TestExample(t *testing.T) {
	wantNodes(t, "a|bc", []ast.Node{
		{Kind: ast.Bytes, Set: class.One('a')},
		{Kind: ast.Bytes, Set: class.One('b')},
		{Kind: ast.Bytes, Set: class.One('c')},
		{Kind: ast.Cat, A: 1, B: 2},
		{Kind: ast.Alt, A: 0, B: 3},
	})
}

// pieces are pieces of each kind, of which none has a group, or asks for one.
func pieces() map[string]plant {
	return map[string]plant{
		"a": a, `\x00`: bytes("\x00"), `\xff`: bytes("\xff"), "\xff": bytes("\xff"), "\n": bytes("\n"), ",": bytes(","),
		`\d`: bytes("0123456789"), `\D`: set(class.Range('0', '9').Not()), "[a-cx]": bytes("abcx"), "[^a]": set(class.One('a').Not()), `\.`: bytes("."),
		".": dot, "^": leaf(ast.Begin), "$": leaf(ast.End), `\b`: leaf(ast.Word), `\B`: leaf(ast.NotWord),
		"(?:a)": a, "(?:)": empty, "(?i:a)": bytes("aA"), "(?s:.)": set(class.All()), "(?m:^)": leaf(ast.LineBegin),
		"(?=a)": around(ast.Ahead, a), "(?!a)": around(ast.NotAhead, a), "(?<=a)": around(ast.Behind, a), "(?<!a)": around(ast.NotBehind, a), "(?>a)": around(ast.Atomic, a),
		"(?=)": around(ast.Ahead, empty), "(?!)": around(ast.NotAhead, empty), "(?<=)": around(ast.Behind, empty), "(?<!)": around(ast.NotBehind, empty), "(?>)": around(ast.Atomic, empty),
		"(?i:)": empty, "(?ims:)": empty, "(?:(?:))": empty, "(?:a|b)": alt(a, b), "(?:ab)": cat(a, b),
	}
}

// quants are Quants, each with the Repeat that it makes of a.
func quants() map[string]plant {
	all := map[string]plant{}
	for text, n := range map[string][2]int{"*": {0, -1}, "+": {1, -1}, "?": {0, 1}, "{0}": {0, 0}, "{3}": {3, 3}, "{2,}": {2, -1}, "{2,5}": {2, 5}, "{100}": {100, 100}, "{0,100}": {0, 100}, "{100,}": {100, -1}} {
		all[text] = repeat(a, n[0], n[1], ast.Greedy)
		all[text+"?"] = repeat(a, n[0], n[1], ast.Lazy)
		all[text+"+"] = repeat(a, n[0], n[1], ast.Possessive)
	}
	return all
}

// P7.1: each piece alone and within a row, with each Quant behind it and without. Chapter 5 says of no piece that it may not be repeated.
func TestPieces(t *testing.T) {
	for text, piece := range pieces() {
		wantTree(t, text, piece)
		wantTree(t, text+text, cat(piece, piece))
		wantTree(t, "b"+text+"c", cat(b, piece, c))
		wantTree(t, "b|"+text+"|c", alt(b, piece, c))
		for quant, of := range quants() {
			repeated := plant{node: of.node, children: []plant{piece}}
			wantTree(t, text+quant, repeated)
			wantTree(t, "b"+text+quant+"c", cat(b, repeated, c))
			wantTree(t, "b|"+text+quant+"|c", alt(b, repeated, c))
		}
	}
}

// P7.1: groups, and what asks for them, alone and in rows, repeated and not.
func TestGroupsAsPieces(t *testing.T) {
	for quant, of := range quants() {
		repeated := func(p plant) plant { return plant{node: of.node, children: []plant{p}} }
		wantTree(t, "(a)"+quant, repeated(group(1, a)))
		wantTree(t, "(a"+quant+")", group(1, repeated(a)))
		wantTree(t, "b(a)"+quant+"c", cat(b, repeated(group(1, a)), c))
		wantTree(t, `(a)\1`+quant, cat(group(1, a), repeated(back(1, false))))
		wantTree(t, `(a)\1`+quant+"c", cat(group(1, a), repeated(back(1, false)), c))
	}
	wantTree(t, "(a)", group(1, a))
	wantTree(t, "()", group(1, empty))
	wantTree(t, "b(a)c", cat(b, group(1, a), c))
	wantTree(t, "b|(a)|c", alt(b, group(1, a), c))
	wantTree(t, `(a)\1`, cat(group(1, a), back(1, false)))
}

// P7.1: rows and alternatives are joined from the left.
func TestJoinedFromTheLeft(t *testing.T) {
	for text, kind := range map[string]int{"abcd": ast.Cat, "a|b|c|d": ast.Alt} {
		wantNodes(t, text, []ast.Node{
			{Kind: ast.Bytes, Set: class.One('a')},
			{Kind: ast.Bytes, Set: class.One('b')},
			{Kind: kind, A: 0, B: 1},
			{Kind: ast.Bytes, Set: class.One('c')},
			{Kind: kind, A: 2, B: 3},
			{Kind: ast.Bytes, Set: class.One('d')},
			{Kind: kind, A: 4, B: 5},
		})
	}
}

// P7.1: rows of one item, two, three and more; alternatives of one row, two, three and more.
func TestRowsAndAlternatives(t *testing.T) {
	for text, want := range map[string]plant{
		"a":            a,
		"ab":           cat(a, b),
		"abc":          cat(a, b, c),
		"abcda":        cat(a, b, c, d, a),
		"a|b":          alt(a, b),
		"a|b|c":        alt(a, b, c),
		"a|b|c|d|a":    alt(a, b, c, d, a),
		"ab|cd":        alt(cat(a, b), cat(c, d)),
		"ab|c|da":      alt(cat(a, b), c, cat(d, a)),
		"abc|d":        alt(cat(a, b, c), d),
		"a|bcd":        alt(a, cat(b, c, d)),
		"a(?:bc)d":     cat(a, cat(b, c), d),
		"a(?:b(?:c))":  cat(a, cat(b, c)),
		"(?:ab)(?:cd)": cat(cat(a, b), cat(c, d)),
		"a(?:b|c)d":    cat(a, alt(b, c), d),
		"a|(?:b|c)|d":  alt(a, alt(b, c), d),
		"(?:a|b)|c|d":  alt(a, b, c, d),
		"a|(?:b|c|d)":  alt(a, alt(b, c, d)),
		"(?:ab)cd":     cat(a, b, c, d),
		"ab*|c+d":      alt(cat(a, repeat(b, 0, -1, ast.Greedy)), cat(repeat(c, 1, -1, ast.Greedy), d)),
		"(?:ab|c)*":    repeat(alt(cat(a, b), c), 0, -1, ast.Greedy),
		"a(?>b|c)d|a":  alt(cat(a, around(ast.Atomic, alt(b, c)), d), a),
	} {
		wantTree(t, text, want)
	}
}

// P7.1: empty rows, ahead of, between and behind Bar, and within each opening.
func TestEmptyRows(t *testing.T) {
	wantNodes(t, "", []ast.Node{{Kind: ast.Empty}})
	// Digits, as no flag changes them.
	one, two, three := bytes("1"), bytes("2"), bytes("3")
	rows := map[string]plant{
		"":       empty,
		"|":      alt(empty, empty),
		"||":     alt(empty, empty, empty),
		"|1":     alt(empty, one),
		"1|":     alt(one, empty),
		"|1|":    alt(empty, one, empty),
		"1||2":   alt(one, empty, two),
		"1|||2":  alt(one, empty, empty, two),
		"||1":    alt(empty, empty, one),
		"1||":    alt(one, empty, empty),
		"|12":    alt(empty, cat(one, two)),
		"12||31": alt(cat(one, two), empty, cat(three, one)),
	}
	for text, want := range rows {
		wantTree(t, text, want)
		for opening, kind := range openings {
			wantTree(t, opening+text+")", kind(want))
			wantTree(t, "a"+opening+text+")b", cat(a, kind(want), b))
			wantTree(t, "|"+opening+text+")|", alt(empty, kind(want), empty))
		}
	}
}

// openings are the openings that may stand around anything of one length, and what they make of a tree without groups.
var openings = map[string]func(plant) plant{
	"(":      func(p plant) plant { return group(1, p) },
	"(?:":    func(p plant) plant { return p },
	"(?=":    func(p plant) plant { return around(ast.Ahead, p) },
	"(?!":    func(p plant) plant { return around(ast.NotAhead, p) },
	"(?>":    func(p plant) plant { return around(ast.Atomic, p) },
	"(?i:":   func(p plant) plant { return p },
	"(?m:":   func(p plant) plant { return p },
	"(?s:":   func(p plant) plant { return p },
	"(?ism:": func(p plant) plant { return p },
}

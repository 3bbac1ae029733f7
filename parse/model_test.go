package parse

import (
	"slices"
	"strings"
	"testing"

	"clew/api"
	"clew/ast"
	"clew/class"
)

// What tokens make, told by other means than reading on: all of them are split at their Bars, rows into items, and items at their ends.

// word is a token's text, and how many Open tokens there are up to it.
type word struct {
	text  string
	opens int
}

func words(texts []string) []word {
	var l []word
	opens := 0
	for _, text := range texts {
		if text == "(" {
			opens++
		}
		l = append(l, word{text, opens})
	}
	return l
}

func isQuant(text string) bool   { return text == "*" || text == "{2,3}?" }
func isOpening(text string) bool { return strings.HasPrefix(text, "(") }

// closeOf is where the Close stands of the opening that is the first word, or -1.
func closeOf(l []word) int {
	deep := 0
	for i, w := range l {
		switch {
		case isOpening(w.text):
			deep++
		case w.text == ")":
			deep--
		}
		if deep == 0 {
			return i
		}
	}
	return -1
}

// endOfItem is where the item ends that words begin with, or -1, if they begin with none.
func endOfItem(l []word) int {
	end := 1
	switch text := l[0].text; {
	case isQuant(text) || text == ")":
		return -1
	case isOpening(text):
		if end = closeOf(l) + 1; end == 0 {
			return -1
		}
	}
	if end < len(l) && isQuant(l[end].text) {
		end++
	}
	return end
}

func modelAlternative(l []word, flags string) (plant, bool) {
	var rows []plant
	var items []plant
	endRow := func() {
		if items == nil {
			items = []plant{empty}
		}
		rows, items = append(rows, cat(items...)), nil
	}
	for len(l) > 0 {
		if l[0].text == "|" {
			endRow()
			l = l[1:]
			continue
		}
		end := endOfItem(l)
		if end < 0 {
			return plant{}, false
		}
		item, is := modelItem(l[:end], flags)
		if !is {
			return plant{}, false
		}
		items = append(items, item)
		l = l[end:]
	}
	endRow()
	return alt(rows...), true
}

func modelItem(l []word, flags string) (plant, bool) {
	last := len(l) - 1
	switch {
	case l[last].text == "*" && last > 0:
		piece, is := modelItem(l[:last], flags)
		return repeat(piece, 0, -1, ast.Greedy), is
	case l[last].text == "{2,3}?" && last > 0:
		piece, is := modelItem(l[:last], flags)
		return repeat(piece, 2, 3, ast.Lazy), is
	case !isOpening(l[0].text):
		return modelLeaf(l[0].text, flags), true
	}
	opening := l[0].text
	letters := strings.Trim(opening, "(?:=!<>")
	within, is := modelAlternative(l[1:last], flags+letters)
	kind := map[string]int{"(": ast.Group, "(?=": ast.Ahead, "(?!": ast.NotAhead, "(?<=": ast.Behind, "(?<!": ast.NotBehind, "(?>": ast.Atomic}[opening]
	switch kind {
	case 0:
		return within, is
	case ast.Group:
		return group(l[0].opens, within), is
	}
	return around(kind, within), is
}

func modelLeaf(text, flags string) plant {
	i, m, s := strings.Contains(flags, "i"), strings.Contains(flags, "m"), strings.Contains(flags, "s")
	switch {
	case text == "." && s:
		return set(class.All())
	case text == ".":
		return dot
	case text == "^" && m:
		return leaf(ast.LineBegin)
	case text == "^":
		return leaf(ast.Begin)
	case text == "$" && m:
		return leaf(ast.LineEnd)
	case text == "$":
		return leaf(ast.End)
	case text == `\b`:
		return leaf(ast.Word)
	case text == `\1`:
		return back(1, i)
	case i:
		return bytes(text + strings.ToUpper(text))
	}
	return bytes(text)
}

// eachText hands on all rows of tokens up to a length.
func eachText(tokens []string, longest int, tell func([]string)) {
	var l []string
	var further func()
	further = func() {
		tell(l)
		if len(l) == longest {
			return
		}
		for _, next := range tokens {
			l = append(l, next)
			further()
			l = l[:len(l)-1]
		}
	}
	further()
}

func wantAsModel(t *testing.T, texts []string) {
	t.Helper()
	var wantNodes []ast.Node
	want := api.ErrForm
	if model, is := modelAlternative(words(texts), ""); is {
		tree := model.tree()
		if want = ast.Right(tree); want == api.OK {
			wantNodes = tree.Nodes
		}
	}
	p := strings.Join(texts, "")
	got, wrong := Parse(p)
	if wrong != want || !slices.Equal(got.Nodes, wantNodes) {
		t.Fatalf("Parse(%q) = %v, %d; want %v, %d", p, got.Nodes, wrong, wantNodes, want)
	}
}

// P7.1: all rows of a few tokens, each answered as splitting has it.
func TestAsModel(t *testing.T) {
	eachText([]string{"a", "|", "(", "(?:", ")", "*"}, 6, func(texts []string) { wantAsModel(t, texts) })
	eachText([]string{"a", ".", "^", "$", `\b`, `\1`, "|", ")", "*", "{2,3}?", "(", "(?:", "(?=", "(?!", "(?<=", "(?<!", "(?>", "(?i:", "(?ms:"}, 4, func(texts []string) { wantAsModel(t, texts) })
}

// P7.1: longer rows, with much within one another, drawn by a fixed rule.
func TestLongTextsAsModel(t *testing.T) {
	leaves := []string{"a", "b", ".", "^", "$", `\b`, `\1`}
	opens := []string{"(", "(?:", "(?=", "(?!", "(?<=", "(?>", "(?i:", "(?s:", "(?im:"}
	seed := uint32(7)
	draw := func(below int) int {
		seed = seed*1664525 + 1013904223
		return int(seed>>8) % below
	}
	right := 0
	for range 30000 {
		var texts []string
		deep := 0
		for range 1 + draw(40) {
			switch n := draw(12); {
			case n < 5:
				texts = append(texts, leaves[draw(len(leaves))])
			case n < 7:
				texts = append(texts, opens[draw(len(opens))])
				deep++
			case n < 9 && deep > 0:
				texts = append(texts, ")")
				deep--
			case n == 9:
				texts = append(texts, "|")
			case n == 10 && len(texts) > 0 && !isOpening(texts[len(texts)-1]) && texts[len(texts)-1] != "|" && !isQuant(texts[len(texts)-1]):
				texts = append(texts, "*")
			case n == 11 && draw(40) == 0:
				texts = append(texts, ")")
			}
		}
		for ; deep > 0; deep-- {
			texts = append(texts, ")")
		}
		wantAsModel(t, texts)
		if _, wrong := Parse(strings.Join(texts, "")); wrong == api.OK {
			right++
		}
	}
	if right < 5000 {
		t.Error("too few of them are patterns:", right)
	}
}

// P7.2: a pattern between (?: and ) has the same tree; one between ( and ) that with a Group around, if it has no group.
func TestBetweenOpenings(t *testing.T) {
	within := func(texts []string) {
		p := strings.Join(texts, "")
		tree, wrong := Parse(p)
		if wrong != api.OK {
			return
		}
		if got, also := Parse("(?:" + p + ")"); also != api.OK || !ast.Same(got, tree) {
			t.Fatalf("(?:%s): %v, %d; want %v", p, got.Nodes, also, tree.Nodes)
		}
		if ast.Groups(tree) > 0 {
			return
		}
		want := append(slices.Clone(tree.Nodes), ast.Node{Kind: ast.Group, A: len(tree.Nodes) - 1, N: 1})
		if got, also := Parse("(" + p + ")"); also != api.OK || !slices.Equal(got.Nodes, want) {
			t.Fatalf("(%s): %v, %d; want %v", p, got.Nodes, also, want)
		}
	}
	eachText([]string{"a", "|", "(", "(?i:", ")", "*", "[a-c]", "(?<=", "$"}, 5, within)
	for text := range pieces() {
		within([]string{text})
	}
	wantTree(t, "(?:(a)(b))", cat(group(1, a), group(2, b)))
	wantTree(t, "((a)(b))", group(1, cat(group(2, a), group(3, b))))
}

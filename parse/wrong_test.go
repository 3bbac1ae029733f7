package parse

import (
	"slices"
	"strings"
	"testing"

	"clew/api"
	"clew/ast"
	"clew/lex"
)

// allOpenings are all openings' texts.
var allOpenings = []string{"(", "(?:", "(?=", "(?!", "(?<=", "(?<!", "(?>", "(?i:", "(?m:", "(?s:", "(?ims:"}

// P7.1: ErrForm of tokens that are no alternative: a Quant that stands behind no piece.
func TestQuantsBehindNothing(t *testing.T) {
	for quant := range quants() {
		for _, text := range []string{quant, quant + "a", "a|" + quant, "|" + quant, quant + "|a", "a|" + quant + "|a", "a" + quant + "|" + quant} {
			wantWrong(t, text, api.ErrForm)
		}
		for _, opening := range allOpenings {
			wantWrong(t, opening+quant+")", api.ErrForm)
			wantWrong(t, "a"+opening+quant+"a)", api.ErrForm)
			wantWrong(t, opening+"a|"+quant+")", api.ErrForm)
			wantWrong(t, opening+"a)"+quant+"{2}", api.ErrForm)
			wantOK(t, opening+"a)"+quant)
			wantOK(t, opening+")"+quant)
		}
		for _, second := range []string{"*", "*?", "*+", "{2}", "{2,}", "{2,3}?"} {
			wantWrong(t, "a"+quant+second, api.ErrForm)
			wantWrong(t, "b|a"+quant+second+"c", api.ErrForm)
			wantOK(t, "(?:a"+quant+")"+second)
		}
	}
	wantWrong(t, "a*??", api.ErrForm)
	wantWrong(t, "a*++", api.ErrForm)
	wantWrong(t, "a{2}{3}", api.ErrForm)
	wantWrong(t, "a* *+*", api.ErrForm)
	wantOK(t, "a* *+")
}

// P7.1: ErrForm of an opening that is never closed, and of a Close too many.
func TestOpeningsAndCloses(t *testing.T) {
	for _, opening := range allOpenings {
		for _, text := range []string{opening, opening + "a", "a" + opening, opening + "a|", opening + opening + ")", opening + "a)" + opening, opening + opening + opening + "))", "|" + opening} {
			wantWrong(t, text, api.ErrForm)
		}
		for _, text := range []string{opening + "))", opening + "a))", ")" + opening + ")", opening + "a)" + ")" + opening, opening + ")|)"} {
			wantWrong(t, text, api.ErrForm)
		}
		for _, other := range allOpenings {
			wantOK(t, opening+other+"))")
			wantOK(t, opening+")"+other+")")
			wantWrong(t, opening+other+")", api.ErrForm)
			wantWrong(t, opening+other+")))", api.ErrForm)
		}
	}
	for _, text := range []string{")", "a)", ")a", "|)", ")|", "())", "())(", "a)(b", ")(", "*)", ")*"} {
		wantWrong(t, text, api.ErrForm)
	}
	// Only tokens open and close: a byte that looks like one does neither.
	wantWrong(t, `(a\)`, api.ErrForm)
	wantWrong(t, `(a[)]`, api.ErrForm)
	wantWrong(t, `\(a)`, api.ErrForm)
	wantWrong(t, `[(]a)`, api.ErrForm)
}

// P7.1: nothing is ErrForm for what is repeated, or stands within what, but what the tokens say; chapter 5 says of no node that it may not be repeated.
func TestWhatMayBeRepeated(t *testing.T) {
	for _, text := range []string{"^*", "$+", `\b?`, `\B{2}`, "(?=a)*", "(?!a)+?", "(?<=a){2,}", "(?<!a)*+", "(?>a)*", "()*", "(?:)*", "(?:|)*", "(?:(?:a*)*)*", "(?:a{0})*", `(a)\1*`, "(?:^*$*)*", "(?m:^)*", "(?:a{100}){100}"} {
		wantOK(t, text)
	}
}

// P7.1: ErrBehind of what has not one length, or more than 255 bytes.
func TestBehind(t *testing.T) {
	for _, opening := range []string{"(?<=", "(?<!"} {
		for _, text := range []string{"", "a", "ab", ".", "^", "$", `\b`, `\B`, "|", "a|b", "ab|cd", "abc|(?:de|fg)h", "a{3}", "a{0}", "(?:a|b){2}", "(?=a*)", "(?!a*b|c)", "(?<=a)", "(?<!a)b", "(?>a)", "(?i:a)", "(?:ab)", "(a)", "(?:a*){0}", "(?:){0,5}", "(?:^)*", "(?:)*", `(?:\1){0}(a)`, "(?:a{100}){2}a{55}"} {
			wantOK(t, opening+text+")")
			wantOK(t, "a*"+opening+text+")*a*")
		}
		for _, text := range []string{"a*", "a+", "a?", "a|", "|a", "a|bc", "ab|c", "a{1,2}", "a{2,}", "(?:a|bc)", "(?:a|bc)d", "a*b", "a(?:b?)", "(a|bc)", "(?>a*)", "(?i:a+)", `(a)\1`, "a*?", "a*+", "(?:a{0,1})", "(?=a)a*", "(?:a{100}){2}a{56}", "(?:a{100}){3}", "(?:a{100}){100}", "(?:(?:(?:a{100}){100}){100}){100}"} {
			wantWrong(t, opening+text+")", api.ErrBehind)
			wantWrong(t, "a|"+opening+text+")*", api.ErrBehind)
			wantWrong(t, "(?:"+opening+text+")){0}", api.ErrBehind)
		}
		wantWrong(t, "(a)"+opening+`\1)`, api.ErrBehind)
		wantWrong(t, opening+opening+"a*))", api.ErrBehind)
		wantWrong(t, "(?="+opening+"a*))", api.ErrBehind)
	}
}

// P7.1: the errors of lex.Lex, wherever what is none stands.
func TestErrorsOfTokens(t *testing.T) {
	for _, text := range []string{"[", "[]", "[a", "[b-a]", "]", "}", "{", "a{", "a{2", "a{b}", "a{3,2}", "(?", "(?a:)", "(?)", "(?ii:a)", "(?<a)", "(?P<a>b)", `\`, `\q`, `\x`, `\x1g`, `\0`} {
		wantWrong(t, text, api.ErrForm)
		wantWrong(t, "a|(?:b"+text, api.ErrForm)
	}
	for _, text := range []string{"a{101}", "a{101,}", "a{0,101}", "a{999,1}", "{101}", "({101})"} {
		wantWrong(t, text, api.ErrBig)
		wantWrong(t, "a|(?:b"+text, api.ErrBig)
	}
	wantOK(t, "a{100}")
	wantOK(t, "a{100,}")
	wantOK(t, "a{0,100}")
	// A pattern of 1000 bytes, and of 1001.
	long := "[" + strings.Repeat("a", api.MaxPat-2) + "]"
	wantTree(t, long, a)
	wantWrong(t, "a"+long, api.ErrBig)
	wantWrong(t, long+")", api.ErrBig)
	wantWrong(t, strings.Repeat("a", api.MaxPat+1), api.ErrBig)
}

// P7.1: of several errors the one that comes first: lex.Lex's, ErrForm, and Right's in the order that chapter 5 has them.
func TestWhichErrorComesFirst(t *testing.T) {
	tooMany, tooDeep := manyNodes(501), strings.Repeat("a", 41)
	tooManyGroups := strings.Repeat("()", 10)
	for _, x := range []struct {
		text string
		want api.Errno
	}{
		// The tokens' own errors are first, from the left, ahead of what the tokens make.
		{")a{101}", api.ErrBig}, {"*a{101}", api.ErrBig}, {"(a{101}", api.ErrBig}, {`\1a{101}`, api.ErrBig}, {"(?<=a*)a{101}", api.ErrBig},
		{"a{101}[", api.ErrBig}, {"[a{101}", api.ErrForm}, {`\1[`, api.ErrForm}, {"(?<=a*)[", api.ErrForm}, {tooDeep + "[", api.ErrForm},
		{strings.Repeat(")", 1001), api.ErrBig}, {strings.Repeat("[", 1001), api.ErrBig},
		// Then the form, also where it is wrong behind what is too deep, too much, no group, or not of one length.
		{tooDeep + ")", api.ErrForm}, {tooDeep + "(", api.ErrForm}, {tooDeep + "|*", api.ErrForm}, {tooDeep + "**", api.ErrForm}, {"(?:" + tooDeep + ")**", api.ErrForm},
		{tooMany + ")", api.ErrForm}, {tooMany + "(", api.ErrForm}, {tooManyGroups + ")", api.ErrForm}, {`\1)`, api.ErrForm}, {`*\1`, api.ErrForm}, {"(?<=a*)(", api.ErrForm}, {"(?<=a*", api.ErrForm}, {"(?<=*)", api.ErrForm},
		// Then too many nodes or too deep, ahead of groups and of what is looked for behind.
		{tooDeep + `\1`, api.ErrBig}, {`\1` + tooDeep, api.ErrBig}, {tooManyGroups + tooDeep, api.ErrBig}, {"(?<=a*)" + tooDeep, api.ErrBig}, {tooMany + `|\1`, api.ErrBig}, {tooMany + "|(?<=a*)", api.ErrBig}, {tooManyGroups + "|" + tooMany, api.ErrBig},
		// Then the groups, ahead of what is looked for behind.
		{`(?<=a*)\1`, api.ErrGroup}, {`\1(?<=a*)`, api.ErrGroup}, {"(?<=a*)" + tooManyGroups, api.ErrGroup}, {`(?<=\1)`, api.ErrGroup}, {`(?<!a|bc\1)`, api.ErrGroup},
		{`(?<=a*)`, api.ErrBehind},
	} {
		wantWrong(t, x.text, x.want)
	}
}

// manyNodes is a pattern of so many nodes, 500 or 501, that is not too deep: 25 rows of 10 bytes have 499.
func manyNodes(nodes int) string {
	row := strings.Repeat("a", 10)
	return strings.Repeat(row+"|", 24) + row[:10-(nodes-499)] + strings.Repeat("a*", nodes-499)
}

// P7.1: ErrBig of more than 500 nodes, and not of 500.
func TestTooManyNodes(t *testing.T) {
	for _, nodes := range []int{499, 500} {
		got, wrong := Parse(manyNodes(nodes))
		if wrong != api.OK || len(got.Nodes) != nodes {
			t.Errorf("%d nodes: %d, %d", nodes, len(got.Nodes), wrong)
		}
	}
	wantWrong(t, manyNodes(501), api.ErrBig)
	wantWrong(t, "("+manyNodes(500)+")", api.ErrBig)
	wantOK(t, "("+manyNodes(499)+")")
	wantOK(t, "(?:"+manyNodes(500)+")")
	// Far too many, and none of it too deep.
	wantWrong(t, strings.TrimSuffix(strings.Repeat("(?:"+strings.Repeat("a", 30)+")", 29), ")")+")", api.ErrBig)
}

// P7.1: ErrBig of what is deeper than 40, and not of 40: rows, alternatives, and what stands around.
func TestTooDeep(t *testing.T) {
	deep := func(text string, want int) {
		t.Helper()
		if want > api.MaxDeep {
			wantWrong(t, text, api.ErrBig)
			return
		}
		got, wrong := Parse(text)
		if wrong != api.OK || ast.Deep(got) != want {
			t.Errorf("Parse(%q): %d, deep %d; want %d", text, wrong, ast.Deep(got), want)
		}
	}
	for want := range 100 {
		if want < 2 {
			continue
		}
		deep(strings.Repeat("a", want), want)
		deep(strings.Repeat("a|", want-1), want)
		deep(strings.Repeat("|", want-1), want)
		deep("a*"+strings.Repeat("a", want-2), want)
		deep(strings.Repeat("a", want-1)+"a*", max(want, 3))
		for _, opening := range []string{"(?=", "(?!", "(?>"} {
			around := strings.Repeat(opening, want-1)
			closes := strings.Repeat(")", want-1)
			deep(around+closes, want)
			deep(around+"a"+closes, want)
			deep(strings.Repeat("(?:", want-1)+"a"+strings.Repeat(")*", want-1), want)
			deep("(?:"+around+closes+")", want)
			if want >= 3 {
				deep(around[len(opening):]+closes[1:]+"b", want)
				deep("b"+around[len(opening):]+closes[1:], want)
				deep("b|"+around[len(opening):]+closes[1:], want)
				deep(around[len(opening):]+closes[1:]+"|b", want)
				deep(around[len(opening):]+closes[1:]+"{2}", want)
			}
		}
		// The last one that is joined is the deepest one of the others' depth.
		deep("(?:"+strings.Repeat("a", want-1)+")"+"b", want)
		deep("b(?:"+strings.Repeat("a", want-1)+")", want)
	}
}

// P7.1: openings alone are not deep: what Plain and Flags make has no node of their own.
func TestOpeningsAreNotDeep(t *testing.T) {
	for _, opening := range []string{"(?:", "(?i:"} {
		times := api.MaxPat / (len(opening) + 1)
		text := strings.Repeat(opening, times-1) + "1" + strings.Repeat(")", times-1)
		wantTree(t, text, bytes("1"))
	}
}

// P7.1: only what is told to be too deep is recovered from: a fault of the program is not hidden.
func TestFaultsAreNotHidden(t *testing.T) {
	defer func() {
		if recover() == nil {
			t.Error("a fault was hidden")
		}
	}()
	// Parse never hands this on.
	built([]lex.Token{{Kind: lex.Plain}})
}

// R4, R5: what a call answers is its own, and no call leaves anything behind that another one sees.
func TestCallsLeaveNothingBehind(t *testing.T) {
	texts := []string{"", "a", "(a)", "(?i:a)", "a", `(a)\1`, `\1`, "(?i:a", "a.", "(?ims:a.^$)", "a.^$", strings.Repeat("a", 41), "a|b", ")", "(a)(b)", "(b)", "(?<=a*)", "a{101}"}
	type told struct {
		nodes []ast.Node
		wrong api.Errno
	}
	var first []told
	for _, text := range texts {
		got, wrong := Parse(text)
		first = append(first, told{slices.Clone(got.Nodes), wrong})
		// What is answered is its owner's, spare room too.
		all := got.Nodes[:cap(got.Nodes)]
		for i := range all {
			all[i] = ast.Node{Kind: -1, A: -7, N: 99}
		}
	}
	for i := len(texts) - 1; i >= 0; i-- {
		for range 2 {
			got, wrong := Parse(texts[i])
			if wrong != first[i].wrong || !slices.Equal(got.Nodes, first[i].nodes) {
				t.Errorf("Parse(%q) = %v, %d, and earlier %v", texts[i], got, wrong, first[i])
			}
		}
	}
}

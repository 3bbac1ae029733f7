package lex

import (
	"strings"
	"testing"

	"clew/api"
)

// P6.1, what begins with (

func TestTheLongestOpening(t *testing.T) {
	for _, c := range []struct {
		text string
		want Token
	}{
		{"(", of(Open)}, {"(?:", of(Plain)}, {"(?=", of(Ahead)}, {"(?!", of(NotAhead)}, {"(?<=", of(Behind)}, {"(?<!", of(NotBehind)},
		{"(?>", of(Atomic)}, {"(?i:", Token{Kind: Flags, Flags: "i"}}, {"(?sim:", Token{Kind: Flags, Flags: "sim"}},
	} {
		wantTokens(t, c.text, c.want)
		wantTokens(t, c.text+")", c.want, of(Close))
		wantTokens(t, c.text+":", c.want, lit(':'))
		wantTokens(t, c.text+"=", c.want, lit('='))
		wantTokens(t, c.text+"<!", c.want, lit('<'), lit('!'))
		wantTokens(t, c.text+"(", c.want, of(Open))
		wantTokens(t, "("+c.text+"(", of(Open), c.want, of(Open))
		wantWrong(t, c.text+"(?", api.ErrForm)
	}
	wantTokens(t, "(:", of(Open), lit(':'))
	wantTokens(t, "(=<!>", append([]Token{of(Open)}, lits("=<!>")...)...)
	wantTokens(t, "(i:", append([]Token{of(Open)}, lits("i:")...)...)
	wantTokens(t, "(*?", of(Open), times(0, -1, 1))
}

func TestFlags(t *testing.T) {
	texts := []string{"i", "m", "s", "im", "is", "mi", "ms", "si", "sm", "ims", "ism", "mis", "msi", "sim", "smi"}
	for _, flags := range texts {
		wantTokens(t, "(?"+flags+":", Token{Kind: Flags, Flags: flags})
		wantTokens(t, "a(?"+flags+":i:)", lit('a'), Token{Kind: Flags, Flags: flags}, lit('i'), lit(':'), of(Close))
		// An end of the pattern within them, no : behind them, another letter among them.
		wantWrong(t, "(?"+flags, api.ErrForm)
		for _, other := range []string{")", ";", "=", "!", ">", "<=", "-", "?", " :", "-:", "x:", "I:", "?:", "\u0131:", "\xff:", "\x00:"} {
			wantWrong(t, "(?"+flags+other, api.ErrForm)
			wantWrong(t, "(?"+flags+other+":a)", api.ErrForm)
		}
		for _, one := range []string{"x", "I", "M", "S", "a", "0", "\u017f", "\xff"} {
			wantWrong(t, "(?"+one+flags+":", api.ErrForm)
			wantWrong(t, "(?"+flags[:1]+one+flags[1:]+":", api.ErrForm)
		}
		// A flag twice; among four there is one.
		for i := range len(flags) {
			wantWrong(t, "(?"+flags+flags[i:i+1]+":", api.ErrForm)
			wantWrong(t, "(?"+flags[i:i+1]+flags+":", api.ErrForm)
		}
	}
	for _, p := range []string{"(?imsi:", "(?imsx:", "(?iii:", "(?ii:", "(?imsims:", "(?x:", "(?-i:", "(?i-m:", "(?i,m:", "(?I:"} {
		wantWrong(t, p, api.ErrForm)
		wantWrong(t, p+"a)", api.ErrForm)
	}
	for c := range 256 {
		one := string([]byte{byte(c)})
		if p := "(?" + one + ":"; strings.Contains("ims", one) {
			wantTokens(t, p, Token{Kind: Flags, Flags: one})
		} else if !strings.Contains(":=!>", one) {
			wantWrong(t, p, api.ErrForm)
		}
	}
	// None is Plain.
	wantTokens(t, "(?:", of(Plain))
}

func TestOpeningsThatAreNone(t *testing.T) {
	for _, p := range []string{"(?", "(?<", "(?)", "(?a", "(?<a", "(?<:", "(?<>", "(?<<=", "(?P<a>", "(?#a)", "(??", "(?*", "(?+", "(?|", "(?'a'", "(?&a)", "(?1)", "(? :", "(?<)", "(?(", "(?\n:", "(?\xef\xbf\xbd:", "(?\xff", "(?\\b:", "(?{1}", "(?[a]"} {
		wantWrong(t, p, api.ErrForm)
		wantWrong(t, "a"+p+"a)", api.ErrForm)
	}
	for c := range 256 {
		text := "(?" + string([]byte{byte(c)})
		kind, is := map[int]int{':': Plain, '=': Ahead, '!': NotAhead, '>': Atomic}[c]
		if is {
			wantTokens(t, text, of(kind))
		} else {
			wantWrong(t, text, api.ErrForm)
		}
		text = "(?<" + string([]byte{byte(c)})
		if kind, is = map[int]int{'=': Behind, '!': NotBehind}[c]; is {
			wantTokens(t, text, of(kind))
		} else {
			wantWrong(t, text, api.ErrForm)
		}
	}
}

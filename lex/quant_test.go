package lex

import (
	"strconv"
	"testing"

	"clew/api"
	"clew/ast"
)

// P6.1, Quants

func TestModesOfQuants(t *testing.T) {
	for _, c := range []struct {
		text        string
		least, most int
	}{
		{"*", 0, -1}, {"+", 1, -1}, {"?", 0, 1}, {"{3}", 3, 3}, {"{3,}", 3, -1}, {"{3,5}", 3, 5}, {"{0}", 0, 0}, {"{0,}", 0, -1}, {"{0,0}", 0, 0},
	} {
		greedy, lazy, possessive := times(c.least, c.most, ast.Greedy), times(c.least, c.most, ast.Lazy), times(c.least, c.most, ast.Possessive)
		one, more := times(0, 1, ast.Greedy), times(1, -1, ast.Greedy)
		wantTokens(t, c.text, greedy)
		wantTokens(t, c.text+"a", greedy, lit('a'))
		wantTokens(t, c.text+"?", lazy)
		wantTokens(t, c.text+"+", possessive)
		wantTokens(t, c.text+"??", lazy, one)
		wantTokens(t, c.text+"?+", lazy, more)
		wantTokens(t, c.text+"+?", possessive, one)
		wantTokens(t, c.text+"++", possessive, more)
		wantTokens(t, c.text+"?a+", lazy, lit('a'), more)
		wantTokens(t, c.text+"*", greedy, times(0, -1, ast.Greedy))
		wantTokens(t, c.text+"*?", greedy, times(0, -1, ast.Lazy))
		wantTokens(t, c.text+"{1}?", greedy, times(1, 1, ast.Lazy))
		wantTokens(t, c.text+" ?", greedy, lit(' '), one)
		wantTokens(t, `a`+c.text+`?\1`, lit('a'), lazy, Token{Kind: Back, N: 1})
	}
	wantTokens(t, "?????", times(0, 1, ast.Lazy), times(0, 1, ast.Lazy), times(0, 1, ast.Greedy))
	wantTokens(t, "+++++", times(1, -1, ast.Possessive), times(1, -1, ast.Possessive), times(1, -1, ast.Greedy))
}

// countTexts are texts of numbers, and the numbers, -1 for a text that is none.
func countTexts() map[string]int {
	l := map[string]int{
		"": -1, "0": 0, "1": 1, "9": 9, "10": 10, "42": 42, "99": 99, "100": 100, "101": 101, "102": 102, "200": 200, "999": 999,
		"00": 0, "000": 0, "01": 1, "007": 7, "010": 10, "099": 99,
		"0000": -1, "0001": -1, "0100": -1, "1000": -1, "9999": -1, "1234": -1, "99999999999999999999999": -1,
		" ": -1, " 1": -1, "1 ": -1, "1 1": -1, "\t1": -1, "-1": -1, "+1": -1, "a": -1, "1a": -1, "a1": -1, "0x1": -1, "1_0": -1, ".": -1, "1.0": -1, "²": -1, "\xff": -1, "1\n": -1, "/": -1, ":": -1, "1/": -1, "1:": -1, "٣": -1,
	}
	return l
}

func TestCounts(t *testing.T) {
	for first, n := range countTexts() {
		wantCounts(t, "{"+first+"}", n, n)
		if n < 0 {
			wantWrong(t, "{"+first+",}", api.ErrForm)
		} else {
			wantCounts(t, "{"+first+",}", n, 1000)
		}
		for second, m := range countTexts() {
			if second != "" {
				wantCounts(t, "{"+first+","+second+"}", n, m)
			}
		}
	}
	for n := range 110 {
		for _, m := range []int{0, n - 1, n, n + 1, 99, 100, 101, 998, 999} {
			if m >= 0 {
				wantCounts(t, "{"+strconv.Itoa(n)+","+strconv.Itoa(m)+"}", n, m)
			}
		}
	}
}

// wantCounts holds the text of braces against what it asks for; below 0 is no number, and 1000 is without end.
func wantCounts(t *testing.T, text string, n, m int) {
	t.Helper()
	want := api.OK
	switch {
	case n < 0 || m < 0:
		want = api.ErrForm
	case n > 100 || m > 100 && m < 1000:
		want = api.ErrBig
	case m < n:
		want = api.ErrForm
	}
	for i, mode := range []string{"", "?", "+"} {
		p := text + mode
		switch {
		case want != api.OK:
			wantWrong(t, p, want)
			wantWrong(t, "a"+p+"a", want)
		case m == 1000:
			wantTokens(t, p, times(n, -1, i))
		default:
			wantTokens(t, p, times(n, m, i))
			wantTokens(t, "a"+p+"a", lit('a'), times(n, m, i), lit('a'))
		}
	}
}

func TestCountsThatAreWrongTwice(t *testing.T) {
	// Above 100 and below n: ErrBig is named ahead.
	for _, p := range []string{"{101}", "{999}", "{101,}", "{0,101}", "{100,101}", "{101,100}", "{101,0}", "{102,101}", "{101,102}", "{999,000}", "{300,200}"} {
		wantWrong(t, p, api.ErrBig)
	}
	for _, p := range []string{"{1,0}", "{100,99}", "{100,0}", "{010,009}", "{2,1}?"} {
		wantWrong(t, p, api.ErrForm)
	}
	// What has not the form is ErrForm, however great its numbers are.
	for _, p := range []string{"{101", "{101,", "{101,5", "{101,5,", "{1,101,}", "{101,a}", "{1000}", "{101,1000}", "{1000,101}", "{,101}", "{101, 102}"} {
		wantWrong(t, p, api.ErrForm)
	}
}

func TestBracesThatAreNone(t *testing.T) {
	for _, p := range []string{"{", "{}", "{,}", "{,5}", "{5", "{5,", "{5,6", "{5,6,7}", "{5,,6}", "{,5,}", "{5;6}", "{{5}}", "{{5}", "{5{6}", "{[5]}", `{\5}`, "{5)", "{5]", "{a}", "{-5}", "{ }", "{ 5 }", "{5 ,6}", "{5, 6}", "{5,6 }", "{5,?}", "{?}", "{5?}", "{\n}", "{\xff}"} {
		wantWrong(t, p, api.ErrForm)
		wantWrong(t, "a"+p, api.ErrForm)
		wantWrong(t, p+"a{5}", api.ErrForm)
	}
	for _, p := range []string{"}", "]", "a}", "a]", "5}", "{5}}", "[a]]", "(])", "(})", "}?", "]+"} {
		wantWrong(t, p, api.ErrForm)
	}
}

package lex

import (
	"math"
	"strings"
	"testing"

	"clew/api"
	"clew/class"
)

const (
	digitBytes = "0123456789"
	wordBytes  = "0123456789ABCDEFGHIJKLMNOPQRSTUVWXYZ_abcdefghijklmnopqrstuvwxyz"
	blankBytes = "\x09\x0a\x0b\x0c\x0d "
)

func alone(c int) string { return string([]byte{byte(c)}) }

func litOf(s string) Token { return Token{Set: class.Of(s)} }

func litNotOf(s string) Token { return Token{Set: class.Of(s).Not()} }

// P6.1, bytes and escapes

func TestEachByteAlone(t *testing.T) {
	others := map[int]Token{
		'.': of(Dot), '^': of(Caret), '$': of(Dollar), '|': of(Bar), '(': of(Open), ')': of(Close),
		'*': times(0, -1, 0), '+': times(1, -1, 0), '?': times(0, 1, 0),
	}
	for c := range 256 {
		switch other, is := others[c]; {
		case is:
			wantTokens(t, alone(c), other)
		case strings.IndexByte(`[]{}\`, byte(c)) >= 0:
			wantWrong(t, alone(c), api.ErrForm)
		default:
			wantTokens(t, alone(c), lit(byte(c)))
		}
	}
}

// escapes are the sets of the escapes that are a letter behind a backslash.
var escapes = map[int]class.Set{
	'd': class.Of(digitBytes), 'D': class.Of(digitBytes).Not(), 'w': class.Of(wordBytes), 'W': class.Of(wordBytes).Not(),
	's': class.Of(blankBytes), 'S': class.Of(blankBytes).Not(),
	'n': class.One(10), 't': class.One(9), 'r': class.One(13), 'f': class.One(12), 'v': class.One(11),
}

func TestEachByteBehindABackslash(t *testing.T) {
	for c := range 256 {
		p := `\` + alone(c)
		set, named := escapes[c]
		switch {
		case named:
			wantTokens(t, p, Token{Set: set})
			wantTokens(t, p+"1", Token{Set: set}, lit('1'))
			wantTokens(t, "["+p+"]", Token{Set: set})
			wantTokens(t, "[^"+p+"]", Token{Set: set.Not()})
		case c == 'b' || c == 'B':
			wantTokens(t, p, of(map[int]int{'b': Bound, 'B': NotBound}[c]))
			wantWrong(t, "["+p+"]", api.ErrForm)
		case c >= '1' && c <= '9':
			wantTokens(t, p, Token{Kind: Back, N: c - '0'})
			wantTokens(t, p+"0", Token{Kind: Back, N: c - '0'}, lit('0'))
			wantTokens(t, p+p, Token{Kind: Back, N: c - '0'}, Token{Kind: Back, N: c - '0'})
			wantWrong(t, "["+p+"]", api.ErrForm)
		case strings.IndexByte(wordBytes, byte(c)) >= 0 && c != '_':
			wantWrong(t, p, api.ErrForm)
			if c != 'x' {
				wantWrong(t, p+"11", api.ErrForm)
			}
			wantWrong(t, "["+p+"]", api.ErrForm)
		default:
			wantTokens(t, p, lit(byte(c)))
			wantTokens(t, p+"b", lit(byte(c)), lit('b'))
			wantTokens(t, "["+p+"]", lit(byte(c)))
			wantTokens(t, "[^"+p+"b]", litNotOf(alone(c)+"b"))
		}
	}
	for _, p := range []string{`\`, `a\`, `\\\`, `[a]\`, `[\`, `[a\`, `[a-\`, `[\]`} {
		wantWrong(t, p, api.ErrForm)
	}
	wantTokens(t, `\\`, lit('\\'))
	wantTokens(t, `\\b`, lit('\\'), lit('b'))
	wantTokens(t, `\*\+\?\(\)\[\]\{\}\.\^\$\|\\`, lits(`*+?()[]{}.^$|\`)...)
}

func TestBytesToldByTwoDigits(t *testing.T) {
	const lower, upper = "0123456789abcdef", "0123456789ABCDEF"
	for c := range 256 {
		for _, p := range []string{
			`\x` + lower[c/16:][:1] + lower[c%16:][:1], `\x` + upper[c/16:][:1] + upper[c%16:][:1],
			`\x` + lower[c/16:][:1] + upper[c%16:][:1], `\x` + upper[c/16:][:1] + lower[c%16:][:1],
		} {
			wantTokens(t, p, lit(byte(c)))
			wantTokens(t, p+"0", lit(byte(c)), lit('0'))
			wantTokens(t, "["+p+"]", lit(byte(c)))
			wantTokens(t, p+"?", lit(byte(c)), times(0, 1, 0))
		}
		// A digit that is none, as the first and as the second one.
		if strings.IndexByte("0123456789abcdefABCDEF", byte(c)) < 0 {
			for _, p := range []string{`\x` + alone(c) + "1", `\x1` + alone(c), `\x` + alone(c) + alone(c), `\x` + alone(c), `\x` + alone(c) + "11"} {
				wantWrong(t, p, api.ErrForm)
				wantWrong(t, "["+p+"]", api.ErrForm)
			}
		}
	}
	for _, p := range []string{`\x`, `\x4`, `\xf`, `a\xF`, `\x4g`, `\xg4`, `\x-1`, `\x+1`, `\x_1`, `\x1_`, `\x 1`, `\x{41}`, `\X41`, `\u0041`, `[\x]`, `[\x4]`, `[\x4-\x5]`} {
		wantWrong(t, p, api.ErrForm)
	}
}

// P6.1 and P6.2, classes

// wantClass holds the class, that stands for itself, against the set: by Class, also within a longer pattern, and by Lex.
func wantClass(t *testing.T, text string, want class.Set) {
	t.Helper()
	wantTokens(t, text, Token{Set: want})
	wantTokens(t, "a"+text+"+?b", lit('a'), Token{Set: want}, times(1, -1, 1), lit('b'))
	for _, ahead := range []string{"", "a", "[", "[]", `\`, "(?", "[^", "\xff", strings.Repeat("]", 1001)} {
		for _, behind := range []string{"", "a", "]", "[", "-z]", "{5", `\`} {
			got, at, wrong := Class(ahead+text+behind, len(ahead))
			if got != want || at != len(ahead)+len(text) || wrong != api.OK {
				t.Errorf("Class of %q within %q: %v, %d, %d; want %v", text, ahead+text+behind, got.Ranges(), at, wrong, want.Ranges())
			}
		}
	}
}

func wantNoClass(t *testing.T, text string) {
	t.Helper()
	wantWrong(t, text, api.ErrForm)
	wantWrong(t, "a"+text, api.ErrForm)
	wantNoClassAt(t, text, 0, api.ErrForm)
	wantNoClassAt(t, "[a]"+text, 3, api.ErrForm)
	wantNoClassAt(t, "a]"+text, 2, api.ErrForm)
}

func wantNoClassAt(t *testing.T, p string, at int, want api.Errno) {
	t.Helper()
	got, behind, wrong := Class(p, at)
	if got != (class.Set{}) || behind != 0 || wrong != want {
		t.Errorf("Class(%q, %d) = %v, %d, %d; want none, 0, %d", p, at, got.Ranges(), behind, wrong, want)
	}
}

func TestClassesOfItems(t *testing.T) {
	for text, want := range map[string]string{
		"[a]": "a", "[ab]": "ab", "[ba]": "ab", "[aa]": "a", "[abcxyz]": "abcxyz", "[ ]": " ", "[_]": "_",
		"[.*+?(){}|$,:<=!>]": ".*+?(){}|$,:<=!>", "[{5}]": "{5}", "[(?i:]": "(?i:",
		"[a^]": "a^", "[a^b]": "a^b", "[a^^]": "a^", "[\x00]": "\x00", "[\n]": "\n",
		// Bytes above 127, also those that make up no UTF-8.
		"[\xff]": "\xff", "[\x80\xc3]": "\x80\xc3", "[é]": "\xc3\xa9", "[\xc3]": "\xc3", "[\xef\xbf\xbd]": "\xef\xbf\xbd", "[\xff\xfe\x80]": "\xff\xfe\x80",
		`[\]]`: "]", `[\[]`: "[", `[\\]`: `\`, `[\-]`: "-", `[\^]`: "^", `[\^a]`: "^a", `[a\]b]`: "a]b", `[\\\]]`: `\]`, `[a\-c]`: "a-c", `[\--\/]`: "-./",
		`[\d]`: digitBytes, `[\w]`: wordBytes, `[\s]`: blankBytes, `[\d\s]`: digitBytes + blankBytes, `[a\d]`: "a" + digitBytes, `[\dz]`: "z" + digitBytes,
		`[\n\t\r\f\v]`: "\n\t\r\f\v", `[\x41]`: "A", `[\x41\x5a1]`: "AZ1", `[\x4a4]`: "\x4a4",
	} {
		wantClass(t, text, class.Of(want))
		if text[1] != '^' {
			wantClass(t, "[^"+text[1:], class.Of(want).Not())
		}
	}
	wantClass(t, `[\D]`, class.Of(digitBytes).Not())
	wantClass(t, `[\W\d]`, class.Of(wordBytes).Not().Or(class.Of(digitBytes)))
	wantClass(t, `[\s\S]`, class.All())
	wantClass(t, `[^\s\S]`, class.Set{})
	wantClass(t, "[^\x00-\xff]", class.Set{})
	wantClass(t, `[^^]`, class.One('^').Not())
	wantClass(t, `[^^^]`, class.One('^').Not())
	wantClass(t, `[^a^]`, class.Of("a^").Not())
	wantClass(t, `[^\^]`, class.One('^').Not())
}

func TestClassesOfEachByte(t *testing.T) {
	for c := range 256 {
		if strings.IndexByte(`[]-\`, byte(c)) >= 0 {
			for _, text := range []string{"[" + alone(c), "[" + alone(c) + "]", "[^" + alone(c) + "]", "[a-" + alone(c) + "]", "[a-" + alone(c)} {
				wantNoClass(t, text)
			}
			continue
		}
		if c != '^' {
			wantClass(t, "["+alone(c)+"]", class.One(byte(c)))
		}
		wantClass(t, "[^"+alone(c)+"]", class.One(byte(c)).Not())
		wantClass(t, "[a"+alone(c)+"]", class.Of("a"+alone(c)))
	}
}

func TestClassesOfRanges(t *testing.T) {
	for a := range 256 {
		for _, b := range []int{0, a - 1, a, a + 1, 'z', 128, 255} {
			if b < 0 || b > 255 {
				continue
			}
			first, last := shown(a), shown(b)
			text := "[" + first + "-" + last + "]"
			if a > b {
				wantNoClass(t, text)
				wantNoClass(t, "[^"+first+"-"+last+"]")
				continue
			}
			want := class.Range(byte(a), byte(b))
			wantClass(t, text, want)
			wantClass(t, "[^"+first+"-"+last+"]", want.Not())
			wantClass(t, "[="+first+"-"+last+"=]", want.Or(class.One('=')))
		}
	}
	for text, want := range map[string]class.Set{
		"[a-c]": class.Of("abc"), "[a-a]": class.One('a'), "[a-cx]": class.Of("abcx"), "[xa-c]": class.Of("abcx"), "[a-cx-z]": class.Of("abcxyz"),
		"[a-cb-d]": class.Of("abcd"), "[+-=]": class.Range('+', '='), "[ -~]": class.Range(' ', '~'), "[.-.]": class.One('.'), "[a^-z]": class.Range('^', 'z'), "[^^-z]": class.Range('^', 'z').Not(),
		`[\n-\r]`: class.Range(10, 13), `[\t-a]`: class.Range(9, 'a'), `[\x41-Z]`: class.Range('A', 'Z'), `[A-\x5a]`: class.Range('A', 'Z'), `[\x00-\xff]`: class.All(), "[\x00-\xff]": class.All(),
		`[\--0]`: class.Range('-', '0'), `[+-\-]`: class.Range('+', '-'), `[\[-\]]`: class.Range('[', ']'), `[\\-a]`: class.Range('\\', 'a'), `[\d\--\/]`: class.Of(digitBytes + "-./"), `[a-b\d]`: class.Of("ab" + digitBytes),
		// Bytes, not runes: from the last byte of é on.
		"[é-\xff]": class.Range(0xa9, 0xff).Or(class.One(0xc3)),
	} {
		wantClass(t, text, want)
	}
}

// shown is a byte that may stand anywhere within a class, as it is, or escaped.
func shown(c int) string {
	if strings.IndexByte(`[]-\^`, byte(c)) >= 0 {
		return `\` + alone(c)
	}
	return alone(c)
}

func TestClassesThatAreNone(t *testing.T) {
	for _, text := range []string{
		// No item; a ^ ahead belongs to the class, not to its items.
		"[]", "[]a]", "[^]", "[^]a]",
		// Ranges down.
		"[b-a]", "[z-a]", "[a-Z]", `[\r-\n]`, `[\x42-\x41]`, "[ab-a]", "[b-aa]", "[\xff-\x00]", "[1-0]", `[a-\]]`,
		// - first, last, alone, elsewhere.
		"[-]", "[--]", "[---]", "[-a]", "[a-]", "[^-]", "[^-a]", "[^-z]", "[a-b-]", "[a-b-c]", "[a--b]", "[--a]", "[a--]", "[+--]", "[-a-b]", "[a-c-e]",
		// - beside an escape of several bytes.
		`[\d-]`, `[-\d]`, `[\d-x]`, `[x-\d]`, `[\w-\w]`, `[\s-z]`, `[ -\s]`, `[\D-\xff]`, `[\x00-\D]`, `[\W-a]`, `[a-\S]`, `[\d-\d]`,
		// [ within, escapes that may not stand there.
		"[[]", "[a[]", "[[a]", "[[:alpha:]]", "[a-[]", "[[-a]", "[^[]", `[\b]`, `[\B]`, `[\1]`, `[\9]`, `[\0]`, `[\q]`, `[a-\b]`, `[\1-a]`, `[0-\1]`, `[\xg0]`, `[\x4]`, `[a-\x4]`,
		// No end.
		"[", "[^", "[a", "[^a", "[ab", "[a-", "[a-z", `[\`, `[\]`, `[a\]`, `[a-\]`, `[\d`, `[\x4`, "[^^", "[a^", "[a-z-", "[ab(c|d)*", "[\xff",
	} {
		wantNoClass(t, text)
	}
}

// P6.2, ErrArg

func TestClassAtPlacesWithoutOne(t *testing.T) {
	for _, p := range []string{"", "a", "[a]", "]a[", "[[a]]", `\[a]`, "ab[c-d]e"} {
		for _, at := range []int{math.MinInt, -1000, -2, -1, len(p), len(p) + 1, len(p) + 1000, math.MaxInt} {
			wantNoClassAt(t, p, at, api.ErrArg)
		}
		for at := range len(p) {
			if p[at] != '[' {
				wantNoClassAt(t, p, at, api.ErrArg)
			}
		}
	}
	for c := range 256 {
		if c != '[' {
			wantNoClassAt(t, alone(c)+"a]", 0, api.ErrArg)
		}
	}
	wantNoClassAt(t, "[", 1, api.ErrArg)
	wantNoClassAt(t, "[", 0, api.ErrForm)
	wantNoClassAt(t, "a[", 1, api.ErrForm)
}

// P6.2: Class asks for a place alone, not for what the pattern is, nor how long it is.
func TestClassWithinLongerPatterns(t *testing.T) {
	for _, c := range []struct {
		p      string
		at     int
		set    class.Set
		behind int
	}{
		{"[a]", 0, class.One('a'), 3},
		{`[\[b]`, 2, class.One('b'), 5},
		{`\[b]`, 1, class.One('b'), 4},
		{"[[a]]", 1, class.One('a'), 4},
		{"[a][b]", 3, class.One('b'), 6},
		{"[a][b", 0, class.One('a'), 3},
		{strings.Repeat("x", 5000) + "[y-z]" + strings.Repeat("]", 5000), 5000, class.Of("yz"), 5005},
		{"[" + strings.Repeat("ab", 5000) + "]", 0, class.Of("ab"), 10002},
	} {
		set, behind, wrong := Class(c.p, c.at)
		if set != c.set || behind != c.behind || wrong != api.OK {
			t.Errorf("Class(%.20q, %d) = %v, %d, %d", c.p, c.at, set.Ranges(), behind, wrong)
		}
	}
}

// P6.2: all short texts, held against the model of a class's form.
func TestClassIsAsTheModel(t *testing.T) {
	form := whole(classForm)
	eachText(strings.Fields(`[ ] ^ - a b \d \n \] \x62`), 5, func(p string) {
		if !strings.HasPrefix(p, "[") {
			wantNoClassAt(t, p, 0, api.ErrArg)
			return
		}
		end := form.FindStringIndex(p)
		if end == nil {
			wantNoClassAt(t, p, 0, api.ErrForm)
			return
		}
		has, wrong := modelSet(p[:end[1]])
		if wrong != api.OK {
			wantNoClassAt(t, p, 0, wrong)
			return
		}
		set, behind, wrong := Class(p, 0)
		if set != setOf(has) || behind != end[1] || wrong != api.OK {
			t.Fatalf("Class(%q, 0) = %v, %d, %d", p, set.Ranges(), behind, wrong)
		}
	})
}

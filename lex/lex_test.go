package lex

import (
	"regexp"
	"slices"
	"strconv"
	"strings"
	"testing"

	"clew/api"
	"clew/ast"
	"clew/class"
)

func lit(c byte) Token { return Token{Set: class.One(c)} }

func lits(s string) []Token {
	var l []Token
	for i := range len(s) {
		l = append(l, lit(s[i]))
	}
	return l
}

func of(kind int) Token { return Token{Kind: kind} }

func times(least, most, mode int) Token {
	return Token{Kind: Quant, Min: least, Max: most, Mode: mode}
}

func wantTokens(t *testing.T, p string, want ...Token) {
	t.Helper()
	got, wrong := Lex(p)
	if wrong != api.OK || !slices.Equal(got, want) {
		t.Errorf("Lex(%q) = %v, %d; want %v", p, got, wrong, want)
	}
}

func wantWrong(t *testing.T, p string, want api.Errno) {
	t.Helper()
	got, wrong := Lex(p)
	if wrong != want || len(got) > 0 {
		t.Errorf("Lex(%q) = %v, %d; want no tokens, and %d", p, got, wrong, want)
	}
}

// What tokens are, told by other means: each form by a regular expression, over texts of which each rune is a byte.

const (
	unitForm  = `\\(?:[dwsDWSntrfv]|x[0-9a-fA-F]{2}|[^a-zA-Z0-9])`
	endForm   = `(?:` + unitForm + `|[^\[\]\-\\])`
	firstForm = `(?:` + unitForm + `|[^\[\]\-\\^])`
	classForm = `\[(?:\^(?:` + endForm + `(?:-` + endForm + `)?)+|` + firstForm + `(?:-` + endForm + `)?(?:` + endForm + `(?:-` + endForm + `)?)*)\]`
	countForm = `\{[0-9]{1,3}(?:,[0-9]{0,3})?\}`
)

var (
	forms = []struct {
		kind int
		form *regexp.Regexp
	}{
		{Dot, whole(`\.`)}, {Caret, whole(`\^`)}, {Dollar, whole(`\$`)}, {Bar, whole(`\|`)}, {Close, whole(`\)`)},
		{Open, whole(`\(`)}, {Plain, whole(`\(\?:`)}, {Ahead, whole(`\(\?=`)}, {NotAhead, whole(`\(\?!`)},
		{Behind, whole(`\(\?<=`)}, {NotBehind, whole(`\(\?<!`)}, {Atomic, whole(`\(\?>`)}, {Flags, whole(`\(\?[ims]{1,3}:`)},
		{Quant, whole(`(?:[*+?]|` + countForm + `)[?+]?`)},
		{Bound, whole(`\\b`)}, {NotBound, whole(`\\B`)}, {Back, whole(`\\[1-9]`)},
		{Lit, whole(classForm)}, {Lit, whole(unitForm)}, {Lit, whole(`[^.^$|)(*+?{\[\\\]}]`)},
	}
	unit   = regexp.MustCompile(`(?s)` + unitForm + `|.`)
	digits = regexp.MustCompile(`[0-9]+`)
)

func whole(form string) *regexp.Regexp { return regexp.MustCompile(`(?s)^(?:` + form + `)`) }

// latin is the text of which each rune is a byte of s; bytesOf is the other way round.
func latin(s string) string {
	var l []rune
	for i := range len(s) {
		l = append(l, rune(s[i]))
	}
	return string(l)
}

func bytesOf(s string) string {
	var l []byte
	for _, r := range s {
		l = append(l, byte(r))
	}
	return string(l)
}

func modelLex(p string) ([]Token, api.Errno) {
	if len(p) > 1000 {
		return nil, api.ErrBig
	}
	var l []Token
	for rest := latin(p); rest != ""; {
		kind, size := -1, 0
		for _, f := range forms {
			if at := f.form.FindStringIndex(rest); at != nil && at[1] > size {
				kind, size = f.kind, at[1]
			}
		}
		if kind < 0 || kind == Open && strings.HasPrefix(rest, "(?") {
			return nil, api.ErrForm
		}
		token, wrong := modelToken(kind, rest[:size])
		if wrong != api.OK {
			return nil, wrong
		}
		l = append(l, token)
		rest = rest[size:]
	}
	return l, api.OK
}

func modelToken(kind int, text string) (Token, api.Errno) {
	token := Token{Kind: kind}
	switch kind {
	case Lit:
		has, wrong := modelSet(text)
		token.Set = setOf(has)
		return token, wrong
	case Back:
		token.N = int(text[1] - '0')
	case Flags:
		token.Flags = text[2 : len(text)-1]
		for _, r := range token.Flags {
			if strings.Count(token.Flags, string(r)) > 1 {
				return Token{}, api.ErrForm
			}
		}
	case Quant:
		return modelQuant(text)
	}
	return token, api.OK
}

func modelQuant(text string) (Token, api.Errno) {
	sign, mode := text[:1], text[1:]
	if i := strings.IndexByte(text, '}'); i >= 0 {
		sign, mode = text[:i], text[i+1:]
	}
	token := Token{Kind: Quant, Mode: map[string]int{"": ast.Greedy, "?": ast.Lazy, "+": ast.Possessive}[mode]}
	var l []int
	for _, d := range digits.FindAllString(sign, -1) {
		n, _ := strconv.Atoi(d)
		l = append(l, n)
	}
	switch {
	case sign == "*":
		l = []int{0, -1}
	case sign == "+":
		l = []int{1, -1}
	case sign == "?":
		l = []int{0, 1}
	case len(l) == 1 && strings.HasSuffix(sign, ","):
		l = append(l, -1)
	case len(l) == 1:
		l = append(l, l[0])
	}
	token.Min, token.Max = l[0], l[1]
	switch {
	case slices.Max(l) > 100:
		return Token{}, api.ErrBig
	case l[1] >= 0 && l[1] < l[0]:
		return Token{}, api.ErrForm
	}
	return token, api.OK
}

// modelSet tells of each byte whether the text of a Lit, which has the form of one, has it.
func modelSet(text string) (has [256]bool, wrong api.Errno) {
	if text[0] != '[' {
		return modelUnit(text), api.OK
	}
	text = text[1 : len(text)-1]
	others := text[0] == '^'
	if others {
		text = text[1:]
	}
	units := unit.FindAllString(text, -1)
	for i := 0; i < len(units); i++ {
		item := modelUnit(units[i])
		if i+2 < len(units) && units[i+1] == "-" {
			to := modelUnit(units[i+2])
			a, b := slices.Index(item[:], true), slices.Index(to[:], true)
			if modelLen(item) != 1 || modelLen(to) != 1 || a > b {
				return [256]bool{}, api.ErrForm
			}
			for c := a; c <= b; c++ {
				item[c] = true
			}
			i += 2
		}
		for c := range has {
			has[c] = has[c] || item[c]
		}
	}
	for c := range has {
		has[c] = has[c] != others
	}
	return has, api.OK
}

func modelLen(has [256]bool) int {
	n := 0
	for _, is := range has {
		if is {
			n++
		}
	}
	return n
}

func modelUnit(text string) (has [256]bool) {
	bytes := bytesOf(text)
	ofAll := ""
	switch {
	case len(bytes) == 1:
		ofAll = bytes
	case bytes[1] == 'x':
		c, _ := strconv.ParseUint(bytes[2:], 16, 8)
		ofAll = string([]byte{byte(c)})
	default:
		ofAll = map[byte]string{
			'd': "0123456789", 'D': "0123456789",
			'w': "0123456789_abcdefghijklmnopqrstuvwxyzABCDEFGHIJKLMNOPQRSTUVWXYZ",
			'W': "0123456789_abcdefghijklmnopqrstuvwxyzABCDEFGHIJKLMNOPQRSTUVWXYZ",
			's': " \t\n\v\f\r", 'S': " \t\n\v\f\r",
			'n': "\x0a", 't': "\x09", 'r': "\x0d", 'f': "\x0c", 'v': "\x0b",
		}[bytes[1]]
		if ofAll == "" {
			ofAll = bytes[1:]
		}
	}
	others := len(bytes) == 2 && strings.IndexByte("DWS", bytes[1]) >= 0
	for c := range has {
		has[c] = strings.IndexByte(ofAll, byte(c)) >= 0 != others
	}
	return has
}

func setOf(has [256]bool) class.Set {
	set := class.Set{}
	for c, is := range has {
		if is {
			set = set.Or(class.One(byte(c)))
		}
	}
	return set
}

// eachText tells all texts of up to so many parts.
func eachText(parts []string, most int, tell func(p string)) {
	tell("")
	texts := []string{""}
	for range most {
		var longer []string
		for _, s := range texts {
			for _, part := range parts {
				tell(s + part)
				longer = append(longer, s+part)
			}
		}
		texts = longer
	}
}

func wantAsModel(t *testing.T, p string) {
	t.Helper()
	got, wrong := Lex(p)
	want, asked := modelLex(p)
	if wrong != asked || !slices.Equal(got, want) {
		t.Fatalf("Lex(%q) = %v, %d; want %v, %d", p, got, wrong, want, asked)
	}
}

// P6.1, tokens

func TestLexOfTheExample(t *testing.T) {
	wantTokens(t, "a+?", lit('a'), times(1, -1, ast.Lazy))
}

// kindTexts has a text of each kind of token, or more, and the token, whole.
var kindTexts = []struct {
	text  string
	token Token
}{
	{"a", lit('a')}, {".", of(Dot)}, {"^", of(Caret)}, {"$", of(Dollar)}, {`\b`, of(Bound)}, {`\B`, of(NotBound)},
	{"|", of(Bar)}, {"(", of(Open)}, {"(?:", of(Plain)}, {"(?=", of(Ahead)}, {"(?!", of(NotAhead)},
	{"(?<=", of(Behind)}, {"(?<!", of(NotBehind)}, {"(?>", of(Atomic)},
	{"(?mi:", Token{Kind: Flags, Flags: "mi"}}, {")", of(Close)}, {"{2,7}+", times(2, 7, ast.Possessive)},
	{`\4`, Token{Kind: Back, N: 4}},
	{"[a-c]", Token{Set: class.Range('a', 'c')}}, {`\d`, Token{Set: class.Range('0', '9')}}, {"-", lit('-')}, {"\xff", lit(255)},
}

func TestKinds(t *testing.T) {
	if Lit != 0 || Kinds != 18 {
		t.Errorf("the kinds are numbered from %d to below %d", Lit, Kinds)
	}
	told := map[int]int{}
	for _, k := range kindTexts {
		told[k.token.Kind]++
	}
	for kind := range Kinds {
		if told[kind] == 0 {
			t.Errorf("no text of the kind %d", kind)
		}
	}
}

func TestLexOfEachKindAloneAndAmongOthers(t *testing.T) {
	wantTokens(t, "")
	for _, k := range kindTexts {
		wantTokens(t, k.text, k.token)
		wantTokens(t, "x"+k.text+"y", lit('x'), k.token, lit('y'))
		wantTokens(t, k.text+k.text+k.text, k.token, k.token, k.token)
		for _, o := range kindTexts {
			wantTokens(t, o.text+k.text, o.token, k.token)
		}
	}
}

func TestLexIsAsTheModel(t *testing.T) {
	for _, c := range []struct {
		parts string
		most  int
	}{
		{"( ? : < = ! > i m", 5},
		{"( (? (?< : i m s a )", 5},
		{"{ } , 0 1 2 ? +", 5},
		{"{ } , 00 100 101 5 + ?", 5},
		{`[ ] ^ - \ a c`, 5},
		{`[ [^ ] - a c \]`, 6},
		{`[ ] ^ - \ d b x 4 1`, 5},
		{`[ ^ - \n \x41 \- \w a ]`, 5},
		{`. ^ $ | ( ) * + ? { } [ ] \ -`, 4},
	} {
		eachText(strings.Fields(c.parts), c.most, func(p string) { wantAsModel(t, p) })
	}
}

func TestLexOfManyTokens(t *testing.T) {
	p, want := "", []Token(nil)
	for _, k := range kindTexts {
		p += k.text
		want = append(want, k.token)
	}
	wantTokens(t, strings.Repeat(p, 9), slices.Repeat(want, 9)...)
}

// P6.1, ErrBig of the pattern

func TestLexOfLongPatterns(t *testing.T) {
	wantTokens(t, strings.Repeat("a", 999), lits(strings.Repeat("a", 999))...)
	wantTokens(t, strings.Repeat("a", 1000), lits(strings.Repeat("a", 1000))...)
	wantTokens(t, "["+strings.Repeat("a", 998)+"]", lit('a'))
	for _, size := range []int{1001, 1002, 5000, 100000} {
		wantWrong(t, strings.Repeat("a", size), api.ErrBig)
		wantWrong(t, "]"+strings.Repeat("a", size-1), api.ErrBig)
		wantWrong(t, "{5,3}"+strings.Repeat("a", size-5), api.ErrBig)
		wantWrong(t, strings.Repeat("[", size), api.ErrBig)
	}
	wantWrong(t, "["+strings.Repeat("a", 999)+"]", api.ErrBig)
	wantWrong(t, "]"+strings.Repeat("a", 999), api.ErrForm)
	wantWrong(t, strings.Repeat("a", 999)+"]", api.ErrForm)
}

// P6.1, of several errors the first one; R3, what is told beside an error

func TestLexTellsTheFirstError(t *testing.T) {
	forms := []string{"]", "}", "(?", "(?x:", "(?ii:", "{5,3}", "{", `\q`, `\x4`, "[b-a]", "[]", "[-]"}
	for _, form := range forms {
		for _, ahead := range []string{"", "a", "a+?", "(?i:", "[^a]"} {
			wantWrong(t, ahead+form, api.ErrForm)
			wantWrong(t, ahead+form+"{101}", api.ErrForm)
			wantWrong(t, ahead+"{101}"+form, api.ErrBig)
			wantWrong(t, ahead+"{101,5}?"+form, api.ErrBig)
		}
		// An end that is missing can't be told from what follows; a backslash alone can't stand ahead.
		for _, other := range forms {
			wantWrong(t, form+other, api.ErrForm)
		}
	}
}

// P6.3

func TestTokensOfTwoPatterns(t *testing.T) {
	var texts []string
	eachText(strings.Fields(`a ( (?: (?i: ) * +? {1} {2,3} \1 \\ [a] [^]] | . ? + , 1 } ]`), 2, func(p string) { texts = append(texts, p) })
	joined := 0
	for _, p := range texts {
		first, wrong := Lex(p)
		if wrong != api.OK {
			continue
		}
		for _, q := range texts {
			second, wrong := Lex(q)
			if wrong != api.OK || strings.HasPrefix(q, "?") || strings.HasPrefix(q, "+") {
				continue
			}
			joined++
			wantTokens(t, p+q, slices.Concat(first, second)...)
		}
	}
	if joined < 10000 {
		t.Errorf("only %d pairs", joined)
	}
	// What begins with ? or + may belong to the token ahead.
	wantTokens(t, "a*"+"?", lit('a'), times(0, -1, ast.Lazy))
	wantTokens(t, "{2}"+"+", times(2, 2, ast.Possessive))
	wantWrong(t, "("+"?", api.ErrForm)
	wantTokens(t, "a"+"?", lit('a'), times(0, 1, ast.Greedy))
}

// R4, R5: what is answered is new memory, and the same each time.

func TestLexAnswersNewMemory(t *testing.T) {
	for _, p := range []string{"abc", "(?ims:a)|[b-z]{2,3}", ""} {
		first, _ := Lex(p)
		want := slices.Clone(first)
		room := first[len(first):cap(first)]
		for i := range room {
			room[i] = Token{Kind: 99}
		}
		second, _ := Lex(p)
		for i := range first {
			first[i] = Token{Kind: 77}
		}
		if !slices.Equal(second, want) {
			t.Errorf("Lex(%q) = %v the second time; want %v", p, second, want)
		}
	}
}

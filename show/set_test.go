package show

import (
	"fmt"
	"strings"
	"testing"

	"clew/api"
	"clew/ast"
	"clew/class"
	"clew/lex"
)

const plain = "abcdefghijklmnopqrstuvwxyzABCDEFGHIJKLMNOPQRSTUVWXYZ0123456789_ "

// text is a byte's text, by the document's words.
func text(c byte) string {
	if strings.IndexByte(plain, c) >= 0 {
		return string([]byte{c})
	}
	return fmt.Sprintf(`\x%02x`, c)
}

func wantSet(t *testing.T, s class.Set, want string) {
	t.Helper()
	if got := Set(s); got != want {
		t.Errorf("Set of %v = %s; want %s", s.Ranges(), got, want)
	}
}

// P8.1: each byte's text, as a set with that byte alone.
func TestEachByte(t *testing.T) {
	asThemselves := 0
	for c := range 256 {
		wantSet(t, class.One(byte(c)), text(byte(c)))
		if len(Set(class.One(byte(c)))) == 1 {
			asThemselves++
		}
	}
	if asThemselves != 26+26+10+2 {
		t.Error("bytes that are shown as themselves:", asThemselves)
	}
}

// P8.1: bytes beside those that are shown as themselves, digits of both kinds, the first and the last byte.
func TestBytesByHand(t *testing.T) {
	for c, want := range map[byte]string{
		0: `\x00`, 9: `\x09`, 10: `\x0a`, 15: `\x0f`, 16: `\x10`, 31: `\x1f`, ' ': " ", '!': `\x21`,
		'/': `\x2f`, '0': "0", '9': "9", ':': `\x3a`, '@': `\x40`, 'A': "A", 'Z': "Z", '[': `\x5b`,
		'\\': `\x5c`, ']': `\x5d`, '^': `\x5e`, '_': "_", '`': `\x60`, 'a': "a", 'z': "z", '{': `\x7b`,
		'-': `\x2d`, '.': `\x2e`, '*': `\x2a`, '?': `\x3f`, '(': `\x28`, '|': `\x7c`, '$': `\x24`,
		0x7f: `\x7f`, 0x80: `\x80`, 0xab: `\xab`, 0xc3: `\xc3`, 0xff: `\xff`,
	} {
		wantSet(t, class.One(c), want)
	}
}

// P8.1: sets of no byte, of all, of two that touch and that don't, of several runs, of runs at both ends.
func TestSetsByHand(t *testing.T) {
	for i, x := range []struct {
		set  class.Set
		want string
	}{
		{class.Of("abcx"), "[a-cx]"},
		{class.Set{}, `[^\x00-\xff]`},
		{class.Range('b', 'a'), `[^\x00-\xff]`},
		{class.All(), `[\x00-\xff]`},
		{class.Of("ab"), "[a-b]"},
		{class.Of("ac"), "[ac]"},
		{class.Of("^a"), `[\x5ea]`},
		{class.Of("^-"), `[\x2d\x5e]`},
		{class.Of(" _"), "[ _]"},
		{class.Of("aA"), "[Aa]"},
		{class.Of("][-\\^"), `[\x2d\x5b-\x5e]`},
		{class.Of("0123456789"), "[0-9]"},
		{class.Range('a', 'z').Fold().Or(class.Of("_0123456789")), "[0-9A-Z_a-z]"},
		{class.Range('_', 'a'), "[_-a]"},
		{class.Range(' ', '!'), `[ -\x21]`},
		{class.Range(31, ' '), `[\x1f- ]`},
		{class.Of("\x00"), `\x00`},
		{class.Of("\xff"), `\xff`},
		{class.Of("\x00\xff"), `[\x00\xff]`},
		{class.Of("\x00\x01"), `[\x00-\x01]`},
		{class.Of("\xfe\xff"), `[\xfe-\xff]`},
		{class.Range(0, 'a'), `[\x00-a]`},
		{class.Range('a', 255), `[a-\xff]`},
		{class.Range(1, 254), `[\x01-\xfe]`},
		{class.One(10).Not(), `[\x00-\x09\x0b-\xff]`},
		{class.One(0).Not(), `[\x01-\xff]`},
		{class.One(255).Not(), `[\x00-\xfe]`},
		{class.Range('a', 'z').Not(), "[\\x00-\\x60\\x7b-\\xff]"},
		{class.Of("acegh kmn"), "[ aceg-hkm-n]"},
		{class.Range(63, 64).Or(class.Range(127, 128)).Or(class.Range(191, 192)), `[\x3f-\x40\x7f-\x80\xbf-\xc0]`},
	} {
		if got := Set(x.set); got != x.want {
			t.Errorf("%d: %s; want %s", i, got, x.want)
		}
	}
}

// patternOf is a set's pattern, told byte by byte, without runs being asked for.
func patternOf(s class.Set) string {
	switch s {
	case class.Set{}:
		return `[^\x00-\xff]`
	}
	told := ""
	for c := range 256 {
		begins := s.Has(byte(c)) && (c == 0 || !s.Has(byte(c-1)))
		ends := s.Has(byte(c)) && (c == 255 || !s.Has(byte(c+1)))
		switch {
		case begins:
			told += text(byte(c))
		case ends:
			told += "-" + text(byte(c))
		}
	}
	if s.Len() == 1 {
		return told
	}
	return "[" + told + "]"
}

// P8.1, P8.3: runs of all bounds, pairs of all bytes, and sets drawn by a fixed rule: shown as told byte by byte, and read again as the same set.
func TestManySets(t *testing.T) {
	seen := map[string]class.Set{}
	hold := func(s class.Set) {
		got := Set(s)
		if want := patternOf(s); got != want {
			t.Fatalf("Set of %v = %s; want %s", s.Ranges(), got, want)
		}
		if other, is := seen[got]; is && other != s {
			t.Fatalf("%s: of %v and of %v", got, other.Ranges(), s.Ranges())
		}
		seen[got] = s
		tokens, wrong := lex.Lex(got)
		if wrong != api.OK || len(tokens) != 1 || tokens[0] != (lex.Token{Set: s}) {
			t.Fatalf("Lex(%s) = %v, %d; want a Lit of %v", got, tokens, wrong, s.Ranges())
		}
	}
	for i := range 256 {
		for j := range 256 {
			one, two := byte(i), byte(j)
			hold(class.Range(one, two))
			hold(class.Range(one, two).Not())
			hold(class.One(one).Or(class.One(two)))
		}
	}
	seed := uint64(8)
	draw := func() uint64 {
		seed = seed*6364136223846793005 + 1442695040888963407
		return seed ^ seed>>29
	}
	for range 3000 {
		s := class.Set{W: [4]uint64{draw(), draw(), draw(), draw()}}
		hold(s)
		hold(s.And(class.Set{W: [4]uint64{draw(), draw() & draw(), draw(), draw() & draw()}}))
	}
}

// P8.1: every second byte makes the most runs that there are.
func TestMostRuns(t *testing.T) {
	var even class.Set
	want := "["
	for c := 0; c < 256; c += 2 {
		even = even.Or(class.One(byte(c)))
		want += text(byte(c))
	}
	wantSet(t, even, want+"]")
	wantTree(t, plant{node: ast.Node{Kind: ast.Bytes, Set: even}}, want+"]")
}

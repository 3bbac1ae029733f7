package facts

import (
	"strings"
	"testing"

	"clew/ast"
)

// letters are so many bytes, of which no two of a hundred are the same.
func letters(many int) string {
	l := make([]byte, many)
	for i := range l {
		l[i] = byte(100 + i%150)
	}
	return string(l)
}

// P9.1: B's prefix stands behind A's, if A's is whole, and only then.
func TestPrefixes(t *testing.T) {
	odd := bytesOf("xy")
	for _, x := range []struct {
		what   string
		plant  plant
		prefix string
	}{
		{"abc", row(a, b, c), "abc"},
		{"a(?:bc)", catOf(a, catOf(b, c)), "abc"},
		{"a[xy]c", row(a, odd, c), "a"},
		{"a(?:b[xy])c", row(a, catOf(b, odd), c), "ab"},
		{"(?:b[xy])c", catOf(catOf(b, odd), c), "b"},
		{"[xy]c", catOf(odd, c), ""},
		{"a(?:b|c)d", row(a, altOf(b, c), d), "a"},
		{"a(?:b|b)d", row(a, altOf(b, b), d), "a"},
		{"a(?:b)*c", row(a, many(b), c), "a"},
		{"a(?:b)+c", row(a, times(b, 1, -1), c), "ab"},
		{"ab{1}c", row(a, times(b, 1, 1), c), "abc"},
		{"ab{2}c", row(a, times(b, 2, 2), c), "ab"},
		{"ab{0}c", row(a, times(b, 0, 0), c), "ac"},
		{"a(b)c", row(a, group(b), c), "abc"},
		{"a(?>b)c", row(a, around(ast.Atomic, b), c), "abc"},
		{"a(?=x)b", row(a, around(ast.Ahead, odd), b), "ab"},
		{"a(?!x)b", row(a, around(ast.NotAhead, odd), b), "ab"},
		{"a(?<=a)b", row(a, around(ast.Behind, a), b), "ab"},
		{"a(?<!b)b", row(a, around(ast.NotBehind, b), b), "ab"},
		{`a\bb`, row(a, leaf(ast.Word), b), "ab"},
		{`a\Bb`, row(a, leaf(ast.NotWord), b), "ab"},
		{"a^b$c", row(a, begin, b, leaf(ast.End), c), "abc"},
		{"(?m:a^b$c)", row(a, leaf(ast.LineBegin), b, leaf(ast.LineEnd), c), "abc"},
		{"ac, with nothing between", row(a, empty, c), "ac"},
		{`(a)b\1c`, row(group(a), b, backTo(1), c), "ab"},
		{`(?:[xy]|a)bc`, row(altOf(odd, a), b, c), ""},
		{"(?:ab){1}{1}c", catOf(times(times(ab, 1, 1), 1, 1), c), "abc"},
		{"(?:ab+){1}c", catOf(times(catOf(a, times(b, 1, -1)), 1, 1), c), "ab"},
		{"the bytes 0, 127, 128, 255", text("\x00\x7f\x80\xff"), "\x00\x7f\x80\xff"},
	} {
		want := x.plant.tell().facts()
		want.Prefix = x.prefix
		wantOf(t, x.what, x.plant, want)
	}
}

// P9.1: a Prefix is cut to its first 100 bytes, and nothing goes on behind it then.
func TestCut(t *testing.T) {
	for many := 90; many <= 220; many++ {
		s := letters(many)
		f, _ := Of(text(s).tree())
		if f.Prefix != s[:min(many, 100)] {
			t.Errorf("of %d bytes: %q", many, f.Prefix)
		}
	}
	first := text("x").tell().facts().First
	for _, many := range []int{98, 99, 100, 101, 102, 150} {
		s := "x" + letters(many-1)
		for behind, p := range map[string]plant{"": empty, "b": b, "bc": catOf(b, c), letters(60): text(letters(60))} {
			want := Facts{First: first, Prefix: (s + behind)[:min(len(s+behind), 100)]}
			wantOf(t, "long and then more", catOf(text(s), p), want)
			wantOf(t, "long and then more, within", catOf(around(ast.Atomic, text(s)), group(p)), want)
			wantOf(t, "long, an end and then more", row(text(s), leaf(ast.End), p), want)
			// What is behind a part that is not whole is not put there, how short it ever is.
			short := Facts{First: first, Prefix: s[:min(len(s), 100)]}
			wantOf(t, "long, a class and then more", row(text(s), bytesOf("ab"), p), short)
			wantOf(t, "long, a choice and then more", row(text(s), altOf(empty, empty), p), short)
			wantOf(t, "long and then more, or nothing", altOf(catOf(text(s), p), empty), Facts{First: first, Open: true})
			wantOf(t, "long and then more, many times", times(catOf(text(s), p), 3, -1), want)
		}
	}
}

// P9.1: a prefix of 100 bytes is whole, if none was cut; what is put behind it is cut.
func TestHundred(t *testing.T) {
	s := letters(100)
	once := func(p plant) plant { return times(p, 1, 1) }
	for _, p := range []plant{text(s), once(text(s)), catOf(text(s), empty), catOf(empty, text(s)), catOf(text(s[:99]), text(s[99:])), catOf(text(s[:1]), text(s[1:]))} {
		for _, q := range []plant{a, ab, text(letters(100)), many(a), altOf(a, b), begin, leaf(ast.End)} {
			for _, r := range []plant{catOf(p, q), catOf(group(p), q), catOf(p, once(q))} {
				if f, _ := Of(r.tree()); f.Prefix != s || f.Open || f.Fast {
					t.Errorf("100 bytes and more: %q", f.Prefix)
				}
			}
		}
	}
	// 50 and 50 are 100; 50 and 51 are cut, and then the 51 are not gone on with.
	for _, x := range []struct{ p, q int }{{50, 50}, {50, 51}, {51, 50}, {99, 1}, {1, 99}, {100, 1}, {1, 100}, {99, 2}, {2, 99}, {101, 1}, {1, 101}} {
		whole := strings.Repeat("p", x.p) + strings.Repeat("q", x.q)
		f, _ := Of(row(text(whole[:x.p]), text(whole[x.p:]), c).tree())
		if f.Prefix != (whole + "c")[:100] {
			t.Errorf("of %d and %d bytes: %q", x.p, x.q, f.Prefix)
		}
	}
}

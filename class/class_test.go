package class

import (
	"slices"
	"testing"
)

// edges are the bytes at which a word of a set, or the letters of a case, begin and end, with those beside them.
var edges = []byte{0, 1, 9, 10, 62, 63, 64, 65, 90, 91, 96, 97, 122, 123, 126, 127, 128, 129, 190, 191, 192, 193, 254, 255}

// model is a set told the plain way, to hold sets against.
type model [256]bool

func modelOf(cs ...byte) model {
	var m model
	for _, c := range cs {
		m[c] = true
	}
	return m
}

func modelWhere(has func(c int) bool) model {
	var m model
	for c := range m {
		m[c] = has(c)
	}
	return m
}

// words are the W that the document asks for.
func (m model) words() [4]uint64 {
	var w [4]uint64
	for c, has := range m {
		if has {
			w[c/64] += 1 << (c % 64)
		}
	}
	return w
}

func (m model) runs() [][2]byte {
	var l [][2]byte
	for c, has := range m {
		switch {
		case !has:
		case c > 0 && m[c-1]:
			l[len(l)-1][1] = byte(c)
		default:
			l = append(l, [2]byte{byte(c), byte(c)})
		}
	}
	return l
}

func (m model) set() Set { return Set{W: m.words()} }

func isLetter(c int) bool { return c >= 'a' && c <= 'z' || c >= 'A' && c <= 'Z' }

// models are sets of many shapes: none, all, each byte alone, runs over the edges, every second one, all of one case, scattered ones.
func models() []model {
	l := []model{{}, modelWhere(func(int) bool { return true }), modelOf(edges...)}
	for c := range 256 {
		l = append(l, modelOf(byte(c)), modelWhere(func(d int) bool { return d != c }))
	}
	for _, a := range edges {
		for _, b := range edges {
			if a < b {
				l = append(l, modelWhere(func(c int) bool { return c >= int(a) && c <= int(b) }))
				l = append(l, modelWhere(func(c int) bool { return c < int(a) || c > int(b) }))
			}
		}
	}
	for k := 2; k < 40; k++ {
		l = append(l, modelWhere(func(c int) bool { return c%k == 0 }), modelWhere(func(c int) bool { return c*c%k < k/2 }))
	}
	l = append(l, modelWhere(isLetter), modelWhere(func(c int) bool { return !isLetter(c) }))
	return l
}

func expect(t *testing.T, what string, got Set, want model) {
	t.Helper()
	if got.W != want.words() {
		t.Errorf("%s: %x, not %x", what, got.W, want.words())
	}
}

// P1.1

func TestOne(t *testing.T) {
	for c := range 256 {
		expect(t, "One", One(byte(c)), modelOf(byte(c)))
	}
	for _, x := range []struct {
		c byte
		w [4]uint64
	}{
		{0, [4]uint64{1, 0, 0, 0}},
		{63, [4]uint64{1 << 63, 0, 0, 0}},
		{64, [4]uint64{0, 1, 0, 0}},
		{127, [4]uint64{0, 1 << 63, 0, 0}},
		{128, [4]uint64{0, 0, 1, 0}},
		{191, [4]uint64{0, 0, 1 << 63, 0}},
		{192, [4]uint64{0, 0, 0, 1}},
		{255, [4]uint64{0, 0, 0, 1 << 63}},
	} {
		if One(x.c).W != x.w {
			t.Errorf("One(%d): %x", x.c, One(x.c).W)
		}
	}
}

func TestRange(t *testing.T) {
	for a := range 256 {
		for b := range 256 {
			expect(t, "Range", Range(byte(a), byte(b)), modelWhere(func(c int) bool { return c >= a && c <= b }))
		}
	}
	for _, x := range [][2]byte{{1, 0}, {255, 0}, {64, 63}, {128, 127}, {255, 254}} {
		if Range(x[0], x[1]) != (Set{}) {
			t.Errorf("Range(%d, %d) has bytes", x[0], x[1])
		}
	}
	if Range(63, 64).W != [4]uint64{1 << 63, 1, 0, 0} || Range(191, 192).W != [4]uint64{0, 0, 1 << 63, 1} {
		t.Error("a range over two words")
	}
}

func TestOf(t *testing.T) {
	expect(t, "nothing", Of(""), model{})
	expect(t, "each once", Of("zxyb"), modelOf('b', 'x', 'y', 'z'))
	expect(t, "one often", Of("aaaba"), modelOf('a', 'b'))
	expect(t, "edges", Of(string(edges)), modelOf(edges...))
	expect(t, "bytes of a rune, not the rune", Of("é"), modelOf(0xc3, 0xa9))
	expect(t, "bytes that are no rune", Of("\xff\x80\xc3"), modelOf(0xff, 0x80, 0xc3))
	var each []byte
	for c := range 256 {
		each = append(each, byte(c))
	}
	if Of(string(each)) != All() {
		t.Error("Of all bytes")
	}
}

func TestAll(t *testing.T) {
	expect(t, "All", All(), modelWhere(func(int) bool { return true }))
	if All().Len() != 256 || Range(0, 255) != All() {
		t.Error("All has not each byte")
	}
}

func TestZeroSet(t *testing.T) {
	var s Set
	if c, is := s.Min(); c != 0 || is || s.Len() != 0 || len(s.Ranges()) != 0 || s.Has(0) || s.Has(255) {
		t.Error("the zero set has bytes")
	}
}

// P1.2

func TestHasAndLen(t *testing.T) {
	for _, m := range models() {
		s, n := m.set(), 0
		for c, has := range m {
			if s.Has(byte(c)) != has {
				t.Errorf("%x: Has(%d) is not %v", s.W, c, has)
			}
			if has {
				n++
			}
		}
		if s.Len() != n {
			t.Errorf("%x: Len is %d, not %d", s.W, s.Len(), n)
		}
	}
}

func TestMin(t *testing.T) {
	for _, m := range models() {
		want := slices.Index(m[:], true)
		c, is := m.set().Min()
		if is != (want >= 0) || is && int(c) != want || !is && c != 0 {
			t.Errorf("%x: Min is %d, %v, not %d", m.words(), c, is, want)
		}
	}
	if c, is := One(0).Min(); c != 0 || !is {
		t.Error("0 as the least one")
	}
	if c, is := One(255).Min(); c != 255 || !is {
		t.Error("255 as the least one")
	}
}

func TestRanges(t *testing.T) {
	for _, m := range models() {
		if got := m.set().Ranges(); !slices.Equal(got, m.runs()) {
			t.Errorf("%x: Ranges are %v, not %v", m.words(), got, m.runs())
		}
	}
	for i, x := range []struct {
		s    Set
		want [][2]byte
	}{
		{Set{}, nil},
		{All(), [][2]byte{{0, 255}}},
		{Of("bcdx"), [][2]byte{{'b', 'd'}, {'x', 'x'}}},
		{Range(0, 63), [][2]byte{{0, 63}}},
		{Range(63, 192), [][2]byte{{63, 192}}},
		{One(0).Or(One(255)), [][2]byte{{0, 0}, {255, 255}}},
		{One(63).Or(One(64)).Or(One(66)), [][2]byte{{63, 64}, {66, 66}}},
		{One(254).Or(One(255)), [][2]byte{{254, 255}}},
	} {
		if got := x.s.Ranges(); !slices.Equal(got, x.want) {
			t.Errorf("%d: %v, not %v", i, got, x.want)
		}
	}
}

func TestRangesAreNewMemory(t *testing.T) {
	s := Of("ac")
	first := s.Ranges()
	first[0] = [2]byte{0, 255}
	_ = append(first[:1], [2]byte{7, 7})
	if !slices.Equal(s.Ranges(), [][2]byte{{'a', 'a'}, {'c', 'c'}}) {
		t.Error("an answer that was changed is seen in the next one")
	}
}

// P1.3

func TestOrAndNot(t *testing.T) {
	l := models()
	for i, a := range l {
		s := a.set()
		expect(t, "Not", s.Not(), modelWhere(func(c int) bool { return !a[c] }))
		for _, b := range []model{l[0], l[1], l[2], l[(i+1)%len(l)], l[(7*i+3)%len(l)], l[len(l)-1-i]} {
			u := b.set()
			expect(t, "Or", s.Or(u), modelWhere(func(c int) bool { return a[c] || b[c] }))
			expect(t, "And", s.And(u), modelWhere(func(c int) bool { return a[c] && b[c] }))
			if s != a.set() || u != b.set() {
				t.Error("a set that was asked has changed")
			}
		}
	}
	if (Set{}).Not() != All() || All().Not() != (Set{}) {
		t.Error("Not of none, of all")
	}
}

func TestFold(t *testing.T) {
	for _, m := range models() {
		s := m.set()
		expect(t, "Fold", s.Fold(), modelWhere(func(c int) bool { return m[c] || isLetter(c) && m[c^32] }))
		if s != m.set() {
			t.Error("a set that was folded has changed")
		}
	}
	for _, x := range []struct{ s, want string }{
		{"a", "aA"}, {"A", "aA"}, {"z", "zZ"}, {"Z", "zZ"}, {"aZ5", "aAzZ5"}, {"qQ", "qQ"},
		{"", ""}, {"`", "`"}, {"{", "{"}, {"@", "@"}, {"[", "["}, {"_09 ", "_09 "},
		{"\x00\x1a\x3f\x7f\x80\xbf\xc0\xe1\xff", "\x00\x1a\x3f\x7f\x80\xbf\xc0\xe1\xff"},
	} {
		if Of(x.s).Fold() != Of(x.want) {
			t.Errorf("Fold of %q: %v", x.s, Of(x.s).Fold().Ranges())
		}
	}
}

// P1.4

func TestWhatFollows(t *testing.T) {
	for _, m := range models() {
		s := m.set()
		var again Set
		for _, r := range s.Ranges() {
			again = again.Or(Range(r[0], r[1]))
		}
		if again != s {
			t.Errorf("%x: its runs make %x", s.W, again.W)
		}
		if s.Not().Not() != s {
			t.Errorf("%x: Not of Not is %x", s.W, s.Not().Not().W)
		}
		if s.Fold().Fold() != s.Fold() {
			t.Errorf("%x: Fold of Fold is %x", s.W, s.Fold().Fold().W)
		}
	}
}

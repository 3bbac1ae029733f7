package wire

import (
	"math"
	"slices"
	"strings"
	"testing"

	"clew/api"
)

// edges are numbers at which the count of their bytes changes, with those beside them.
func edges() []uint64 {
	l := []uint64{0, 1, 2, 127, 128, 190, 191, 192, 193, 199, 200, 254, 255, 256, 257, 300, 511, 512, math.MaxUint64}
	for many := 1; many < 8; many++ {
		greatest := uint64(1)<<(8*many) - 1
		l = append(l, greatest-1, greatest, greatest+1, greatest+2)
	}
	return append(l, 1<<63-1, 1<<63, 0x0102030405060708, 0xff00ff00ff00ff00, math.MaxUint64-1)
}

// plain is a number's bytes told the slow way: by dividing, each byte put ahead of those that are there.
func plain(n uint64) string {
	if n < 192 {
		return string([]byte{byte(n)})
	}
	var b []byte
	for ; n > 0; n /= 256 {
		b = append([]byte{byte(n % 256)}, b...)
	}
	return string(append([]byte{byte(192 + len(b) - 1)}, b...))
}

// plainGet is what the promise says, asked word by word in its order.
func plainGet(s string, at int) (uint64, int, api.Errno) {
	if at < 0 || at > len(s) {
		return 0, 0, api.ErrArg
	}
	if at == len(s) {
		return 0, 0, api.ErrShort
	}
	first := s[at]
	if first > 199 {
		return 0, 0, api.ErrForm
	}
	if first < 192 {
		return uint64(first), at + 1, api.OK
	}
	many := int(first) - 191
	if len(s)-at-1 < many {
		return 0, 0, api.ErrShort
	}
	b := s[at+1 : at+1+many]
	if b[0] == 0 || many == 1 && b[0] < 192 {
		return 0, 0, api.ErrForm
	}
	var n uint64
	for i := 0; i < many; i++ {
		n = n*256 + uint64(b[i])
	}
	return n, at + 1 + many, api.OK
}

func wantGet(t *testing.T, s string, at int, n uint64, behind int, wrong api.Errno) {
	t.Helper()
	gotN, gotBehind, gotWrong := Get(s, at)
	if gotN != n || gotBehind != behind || gotWrong != wrong {
		t.Errorf("Get(%x, %d) = %d, %d, %d; want %d, %d, %d", s, at, gotN, gotBehind, gotWrong, n, behind, wrong)
	}
}

func wantAll(t *testing.T, s string, most int, want []uint64, wrong api.Errno) {
	t.Helper()
	got, gotWrong := All(s, most)
	if !slices.Equal(got, want) || gotWrong != wrong {
		t.Errorf("All(%x, %d) = %d, %d; want %d, %d", s, most, got, gotWrong, want, wrong)
	}
}

// P2.1, by bytes that are written out.
func TestPutByHand(t *testing.T) {
	for _, c := range []struct {
		n    uint64
		want string
	}{
		{0, "\x00"}, {1, "\x01"}, {100, "d"}, {190, "\xbe"}, {191, "\xbf"},
		{192, "\xc0\xc0"}, {200, "\xc0\xc8"}, {255, "\xc0\xff"},
		{256, "\xc1\x01\x00"}, {300, "\xc1\x01\x2c"}, {65535, "\xc1\xff\xff"},
		{65536, "\xc2\x01\x00\x00"}, {1<<24 - 1, "\xc2\xff\xff\xff"},
		{1 << 24, "\xc3\x01\x00\x00\x00"}, {1<<32 - 1, "\xc3\xff\xff\xff\xff"},
		{1 << 32, "\xc4\x01\x00\x00\x00\x00"}, {1<<40 - 1, "\xc4\xff\xff\xff\xff\xff"},
		{1 << 40, "\xc5\x01\x00\x00\x00\x00\x00"}, {1<<48 - 1, "\xc5\xff\xff\xff\xff\xff\xff"},
		{1 << 48, "\xc6\x01\x00\x00\x00\x00\x00\x00"}, {1<<56 - 1, "\xc6\xff\xff\xff\xff\xff\xff\xff"},
		{1 << 56, "\xc7\x01\x00\x00\x00\x00\x00\x00\x00"}, {math.MaxUint64, "\xc7\xff\xff\xff\xff\xff\xff\xff\xff"},
		{0x0102030405060708, "\xc7\x01\x02\x03\x04\x05\x06\x07\x08"},
	} {
		if got := Put(c.n); got != c.want {
			t.Errorf("Put(%d) = %x; want %x", c.n, got, c.want)
		}
		if got := Size(c.n); got != len(c.want) {
			t.Errorf("Size(%d) = %d; want %d", c.n, got, len(c.want))
		}
	}
}

// P2.1, against the plain way.
func TestPutPlain(t *testing.T) {
	check := func(n uint64) {
		want := plain(n)
		if got := Put(n); got != want || Size(n) != len(want) {
			t.Fatalf("Put(%d) = %x, Size %d; want %x", n, got, Size(n), want)
		}
	}
	for _, n := range edges() {
		check(n)
	}
	for n := range uint64(70000) {
		check(n)
	}
}

// P2.2: numbers at the beginning, within and at the end of a text.
func TestGetPlaces(t *testing.T) {
	s := "\x07\xbf\xc0\xc0\xc1\x01\x2c\xc7\xff\xff\xff\xff\xff\xff\xff\xff\x00"
	wantGet(t, s, 0, 7, 1, api.OK)
	wantGet(t, s, 1, 191, 2, api.OK)
	wantGet(t, s, 2, 192, 4, api.OK)
	wantGet(t, s, 4, 300, 7, api.OK)
	wantGet(t, s, 7, math.MaxUint64, 16, api.OK)
	wantGet(t, s, 16, 0, 17, api.OK)
	wantGet(t, s, 17, 0, 0, api.ErrShort)
	for _, at := range []int{18, 19, 1000, math.MaxInt, -1, -2, -17, math.MinInt} {
		wantGet(t, s, at, 0, 0, api.ErrArg)
	}
}

func TestGetOfNoBytes(t *testing.T) {
	wantGet(t, "", 0, 0, 0, api.ErrShort)
	wantGet(t, "", 1, 0, 0, api.ErrArg)
	wantGet(t, "", -1, 0, 0, api.ErrArg)
}

// P2.2: a text that ends within a number, at each place, of each length.
func TestGetShort(t *testing.T) {
	for _, n := range edges() {
		s := plain(n)
		for end := range len(s) {
			wantGet(t, s[:end], 0, 0, 0, api.ErrShort)
			wantGet(t, "xy"+s[:end], 2, 0, 0, api.ErrShort)
		}
	}
}

// P2.2: a first byte that begins no number is told whatever follows, also nothing.
func TestGetNoBeginning(t *testing.T) {
	for first := 200; first < 256; first++ {
		b := string([]byte{byte(first)})
		wantGet(t, b, 0, 0, 0, api.ErrForm)
		wantGet(t, "a"+b+strings.Repeat("\xff", 80), 1, 0, 0, api.ErrForm)
	}
}

// P2.2: numbers that are longer than they need be; where bytes are missing too, that is told first.
func TestGetTooLong(t *testing.T) {
	for low := range 192 {
		wantGet(t, string([]byte{192, byte(low)}), 0, 0, 0, api.ErrForm)
	}
	for many := 1; many <= 8; many++ {
		begin := string([]byte{byte(191 + many), 0})
		wantGet(t, begin+strings.Repeat("\xff", many-1), 0, 0, 0, api.ErrForm)
		wantGet(t, begin+strings.Repeat("\x00", many-1), 0, 0, 0, api.ErrForm)
		wantGet(t, begin+strings.Repeat("\xff", many+5), 0, 0, 0, api.ErrForm)
		if many > 1 {
			wantGet(t, begin+strings.Repeat("\xff", many-2), 0, 0, 0, api.ErrShort)
		}
	}
	// Of more than one byte the first may well be below 192.
	wantGet(t, "\xc1\x01\x00", 0, 256, 3, api.OK)
}

// P2.2, against the plain way: every first byte, with every second one, and some that follow.
func TestGetPlain(t *testing.T) {
	for first := range 256 {
		for second := range 256 {
			for _, more := range []string{"", "\x00", "\xff", "\x00\x00\x00\x00", "1234567", "12345678", "\xff\xff\xff\xff\xff\xff\xff\xff"} {
				s := string([]byte{byte(first), byte(second)}) + more
				for at := -1; at <= len(s)+1; at++ {
					n, behind, wrong := plainGet(s, at)
					wantGet(t, s, at, n, behind, wrong)
				}
			}
		}
	}
}

// P2.3.
func TestAll(t *testing.T) {
	s := "\x07\xbf\xc0\xc0\xc1\x01\x2c\x00"
	want := []uint64{7, 191, 192, 300, 0}
	wantAll(t, s, 5, want, api.OK)
	wantAll(t, s, 6, want, api.OK)
	wantAll(t, s, math.MaxInt, want, api.OK)
	for _, most := range []int{4, 3, 1, 0, -1, -5, math.MinInt} {
		wantAll(t, s, most, nil, api.ErrBig)
	}
	for _, most := range []int{0, 1, 5, -1, math.MinInt, math.MaxInt} {
		wantAll(t, "", most, nil, api.OK)
	}
	wantAll(t, "\x00", 1, []uint64{0}, api.OK)
}

func TestAllOfEveryEdge(t *testing.T) {
	var s string
	for _, n := range edges() {
		s += plain(n)
	}
	wantAll(t, s, len(edges()), edges(), api.OK)
	wantAll(t, s, len(edges())-1, nil, api.ErrBig)
}

// P2.3: of what is wrong the first is told, and too many ahead of what is wrong with the one too many.
func TestAllWrong(t *testing.T) {
	wantAll(t, "\x01\xc8", 2, nil, api.ErrForm)
	wantAll(t, "\x01\xc8\xc1\x01", 3, nil, api.ErrForm)
	wantAll(t, "\x01\xc1\x01", 2, nil, api.ErrShort)
	wantAll(t, "\x01\xc0\x05\xff", 2, nil, api.ErrForm)
	wantAll(t, "\xc0", 1, nil, api.ErrShort)
	wantAll(t, "\xc1\x00\x07\x01\x02", 1, nil, api.ErrForm)
	wantAll(t, "\x01\xc8", 1, nil, api.ErrBig)
	wantAll(t, "\x01\xc1\x01", 1, nil, api.ErrBig)
	wantAll(t, "\xff", 0, nil, api.ErrBig)
	wantAll(t, "\xff", -1, nil, api.ErrBig)
	wantAll(t, "\xc0", -1, nil, api.ErrBig)
	wantAll(t, "\xff\x01", 1, nil, api.ErrForm)
}

// What All answers is nobody else's: a caller may write into it and behind it.
func TestAllIsNewMemory(t *testing.T) {
	s := "\x01\x02\x03"
	first, _ := All(s, 3)
	first[0] = 99
	_ = append(first[:1], 98)
	wantAll(t, s, 3, []uint64{1, 2, 3}, api.OK)
}

// P2.4: what is put is got, wherever it stands.
func TestPutIsGot(t *testing.T) {
	for _, n := range edges() {
		for _, ahead := range []string{"", "a", "\xc1\xff"} {
			for _, behind := range []string{"", "\x00", "\xff\xff"} {
				s := ahead + Put(n) + behind
				wantGet(t, s, len(ahead), n, len(s)-len(behind), api.OK)
			}
		}
		wantAll(t, Put(n), 1, []uint64{n}, api.OK)
	}
}

// P2.4: a greater number never has fewer bytes.
func TestGreaterIsNotShorter(t *testing.T) {
	l := edges()
	slices.Sort(l)
	for i := 1; i < len(l); i++ {
		if Size(l[i]) < Size(l[i-1]) || len(Put(l[i])) < len(Put(l[i-1])) {
			t.Errorf("%d has fewer bytes than %d", l[i], l[i-1])
		}
	}
	for n := range uint64(70000) {
		if Size(n+1) < Size(n) {
			t.Errorf("%d has fewer bytes than %d", n+1, n)
		}
	}
}

// What follows of one form for each number: bytes that are got are those that are put.
func TestGotIsPut(t *testing.T) {
	for first := range 256 {
		for second := range 256 {
			s := string([]byte{byte(first), byte(second), 0, 255, 0, 1, 2, 3, 4})
			if n, behind, wrong := Get(s, 0); wrong == api.OK && Put(n) != s[:behind] {
				t.Errorf("%x is got as %d, that is put as %x", s[:behind], n, Put(n))
			}
		}
	}
}

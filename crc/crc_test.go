package crc

import (
	"math"
	"strings"
	"testing"
	"unsafe"

	"clew/api"
)

// plainOn is what the document's words say: digit by digit, without a table.
func plainOn(sum uint32, s string) uint32 {
	wide := uint64(sum) % (1 << 24)
	for i := 0; i < len(s); i++ {
		wide ^= uint64(s[i]) << 16
		for range 8 {
			wide *= 2
			if wide >= 1<<24 {
				wide ^= 0x1864cfb
			}
		}
	}
	return uint32(wide)
}

func plainOf(s string) uint32 { return plainOn(0xb704ce, s) }

func plainSeal(s string) string {
	sum := plainOf(s)
	return s + string([]byte{byte(sum / 65536), byte(sum / 256 % 256), byte(sum % 256)})
}

func oneByte(c int) string { return string([]byte{byte(c)}) }

// eachByte is all 256 bytes, rising.
func eachByte() string {
	var b []byte
	for c := range 256 {
		b = append(b, byte(c))
	}
	return string(b)
}

// texts are of many lengths and shapes: none, each byte alone, the same byte often, all of them, what looks sealed, scattered ones.
func texts() []string {
	l := []string{"", "123456789", "abc", "\x00", "\x00\x00\x00", "\xff\xff\xff\xff", "\xb7\x04\xce", "\x86\x4c\xfb", "é", "\xc3\x28", eachByte()}
	for c := range 256 {
		l = append(l, oneByte(c))
	}
	scattered := make([]byte, 300)
	n := uint32(7)
	for i := range scattered {
		n = n*1664525 + 1013904223
		scattered[i] = byte(n >> 24)
	}
	for size := range 40 {
		l = append(l, string(scattered[size:2*size]), strings.Repeat("\x00", size), strings.Repeat("\xff", size))
	}
	return append(l, string(scattered), strings.Repeat("clew", 2500))
}

// sums are those to go on from: the least, the greatest of 24 digits, each digit alone, those that have more digits.
func sums() []uint32 {
	l := []uint32{0, 1, 0xb704ce, 0x21cf02, 0x7fffff, 0x800000, 1<<24 - 2, 1<<24 - 1, 1 << 24, 1<<24 + 1, 0x1864cfb, 0x1b704ce, 0xffb704ce, math.MaxUint32 - 1, math.MaxUint32}
	for digit := range 32 {
		l = append(l, 1<<digit, 1<<digit-1, ^uint32(1<<digit))
	}
	return l
}

func wantOpen(t *testing.T, s, want string, wrong api.Errno) {
	t.Helper()
	if got, gotWrong := Open(s); got != want || gotWrong != wrong {
		t.Errorf("Open(%x) = %x, %d; want %x, %d", s, got, gotWrong, want, wrong)
	}
}

// P3.1, by the document's examples and by sums that are known.
func TestOfByHand(t *testing.T) {
	for _, c := range []struct {
		s    string
		want uint32
	}{
		{"123456789", 0x21cf02},
		{"", 0xb704ce},
		// The upper 8 digits are wiped out by their own, so that 0x04ce stays, moved up by 8.
		{"\xb7", 0x04ce00},
		// All 24 digits are wiped out; no byte 0 makes anything of 0.
		{"\xb7\x04\xce", 0},
		{"\xb7\x04\xce\x00\x00", 0},
		// A digit that is moved beyond the 24 once lays the lower 24 of 0x1864cfb.
		{"\xb7\x04\xce\x01", 0x864cfb},
	} {
		if got := Of(c.s); got != c.want {
			t.Errorf("Of(%x) = %x; want %x", c.s, got, c.want)
		}
	}
}

// P3.1, against the plain way.
func TestOfPlain(t *testing.T) {
	for _, s := range texts() {
		if got, want := Of(s), plainOf(s); got != want {
			t.Errorf("Of(%x) = %x; want %x", s, got, want)
		}
	}
}

// P3.1: every pair of bytes.
func TestOfTwoBytes(t *testing.T) {
	for first := range 256 {
		for second := range 256 {
			s := string([]byte{byte(first), byte(second)})
			if got, want := Of(s), plainOf(s); got != want {
				t.Fatalf("Of(%x) = %x; want %x", s, got, want)
			}
		}
	}
}

// P3.1: what goes on from each sum; over no bytes it stays, but for digits beyond 24.
func TestOn(t *testing.T) {
	for _, sum := range sums() {
		if got := On(sum, ""); got != sum%(1<<24) {
			t.Errorf("On(%x, nothing) = %x; want %x", sum, got, sum%(1<<24))
		}
		for _, s := range texts() {
			got := On(sum, s)
			if want := plainOn(sum, s); got != want {
				t.Fatalf("On(%x, %x) = %x; want %x", sum, s, got, want)
			}
			if got >= 1<<24 {
				t.Fatalf("On(%x, %x) = %x has more than 24 digits", sum, s, got)
			}
		}
	}
}

// P3.1: digits beyond 24 change nothing.
func TestOnModulo(t *testing.T) {
	for _, low := range []uint32{0, 1, 0x800000, 0xb704ce, 1<<24 - 1} {
		for high := range uint32(256) {
			for _, s := range []string{"", "\x00", "\xff", "123456789"} {
				if On(high<<24|low, s) != On(low, s) {
					t.Errorf("On(%x, %x) is not On(%x, ..)", high<<24|low, s, low)
				}
			}
		}
	}
	if On(0, "") != 0 || On(0, "\x00\x00") != 0 || On(1<<24, "") != 0 || On(1<<24-1, "") != 1<<24-1 || On(math.MaxUint32, "") != 1<<24-1 {
		t.Error("On at its edges")
	}
	if On(0x5ab704ce, "123456789") != 0x21cf02 {
		t.Error("On from the first sum with more digits")
	}
}

// P3.2, by bytes that are written out.
func TestSealByHand(t *testing.T) {
	for _, c := range []struct{ s, want string }{
		{"", "\xb7\x04\xce"},
		{"123456789", "123456789\x21\xcf\x02"},
		{"\xb7", "\xb7\x04\xce\x00"},
		{"\xb7\x04\xce", "\xb7\x04\xce\x00\x00\x00"},
		{"\xb7\x04\xce\x01", "\xb7\x04\xce\x01\x86\x4c\xfb"},
	} {
		if got := Seal(c.s); got != c.want {
			t.Errorf("Seal(%x) = %x; want %x", c.s, got, c.want)
		}
		wantOpen(t, c.want, c.s, api.OK)
	}
}

// P3.2, against the plain way.
func TestSealPlain(t *testing.T) {
	for _, s := range texts() {
		if got, want := Seal(s), plainSeal(s); got != want {
			t.Errorf("Seal(%x) = %x; want %x", s, got, want)
		}
		wantOpen(t, plainSeal(s), s, api.OK)
	}
}

// P3.2: 0 to 2 bytes are too short, whatever they are, also where they are the beginning of a sum.
func TestOpenShort(t *testing.T) {
	for _, s := range []string{"", "\xb7", "\xb7\x04", "\x00", "\x00\x00", "\xff\xff", "\x04\xce", "ab"} {
		wantOpen(t, s, "", api.ErrShort)
	}
	for c := range 256 {
		wantOpen(t, oneByte(c), "", api.ErrShort)
	}
}

// P3.2: three bytes are the sum of nothing, or another one's.
func TestOpenOfThree(t *testing.T) {
	wantOpen(t, "\xb7\x04\xce", "", api.OK)
	for _, s := range []string{"\x00\x00\x00", "\xff\xff\xff", "abc", "\xce\x04\xb7", "\xb7\x04\xcf", "\xb7\x05\xce", "\x37\x04\xce"} {
		wantOpen(t, s, "", api.ErrSum)
	}
}

// P3.2: the last three are another sum: of other bytes, the least first, one too many or too few behind.
func TestOpenOtherSum(t *testing.T) {
	for _, s := range []string{"123456789\x02\xcf\x21", "123456789\xb7\x04\xce", "123456789\x00\x00\x00", "12345678\x21\xcf\x02", "0123456789\x21\xcf\x02", "123456789\x21\xcf", "123456789\x21\xcf\x02\x01", "\x00123456789\x21\xcf\x02", "123456789", "\x21\xcf\x02123456789", "213456789\x21\xcf\x02"} {
		wantOpen(t, s, "", api.ErrSum)
	}
	for _, s := range texts() {
		whole := plainSeal(s)
		end := len(whole) - 1
		for digit := range 24 {
			b := []byte(whole)
			b[end-digit/8] ^= 1 << (digit % 8)
			wantOpen(t, string(b), "", api.ErrSum)
		}
	}
}

// P3.2 asks no more than the sum: behind a first byte of it the sum is its other two and 0, so a 0 behind what is sealed is no wrong sum.
func TestOpenWithNoughtBehind(t *testing.T) {
	wantOpen(t, "123456789\x21\xcf\x02\x00", "123456789\x21", api.OK)
}

// P3.2: the sum is of bytes, not of runes: what is no UTF-8 comes out as it went in.
func TestSealOfAnyBytes(t *testing.T) {
	for first := range 256 {
		for _, more := range []string{"", "\x80", "\xff", "\x00"} {
			s := oneByte(first) + more
			wantOpen(t, Seal(s), s, api.OK)
		}
	}
}

// What is opened shares no memory with what was sealed.
func TestOpenIsNewMemory(t *testing.T) {
	whole := Seal("123456789")
	got, _ := Open(whole)
	if unsafe.StringData(got) == unsafe.StringData(whole) {
		t.Error("what is opened is a piece of what was handed in")
	}
}

// P3.3: in which two, and three, parts bytes come changes nothing.
func TestParts(t *testing.T) {
	for _, s := range []string{"", "1", "12", "123456789", "\x00\xff\x00", eachByte()[200:230]} {
		for _, sum := range []uint32{0, 0xb704ce, 1<<24 - 1, math.MaxUint32} {
			want := On(sum, s)
			for i := range len(s) + 1 {
				for j := i; j <= len(s); j++ {
					if got := On(On(On(sum, s[:i]), s[i:j]), s[j:]); got != want {
						t.Errorf("On(%x, %x) by parts %d, %d is %x; want %x", sum, s, i, j, got, want)
					}
				}
			}
		}
	}
}

// P3.3: byte by byte, and from Of on, at each place.
func TestPartsOfOf(t *testing.T) {
	for _, s := range texts()[:11] {
		sum := Of("")
		for i := range len(s) {
			if On(Of(s[:i]), s[i:]) != Of(s) {
				t.Errorf("Of(%x) by two parts at %d", s, i)
			}
			sum = On(sum, s[i:i+1])
		}
		if sum != Of(s) {
			t.Errorf("Of(%x) byte by byte is %x", s, sum)
		}
	}
}

// P3.3: what comes in every way of parts that there is.
func TestAllParts(t *testing.T) {
	s := "123456789"
	for cuts := range 1 << (len(s) - 1) {
		sum, from := Of(""), 0
		for to := 1; to <= len(s); to++ {
			if to == len(s) || cuts>>(to-1)&1 == 1 {
				sum, from = On(sum, s[from:to]), to
			}
		}
		if sum != 0x21cf02 {
			t.Errorf("Of(%s) by the parts %b is %x", s, cuts, sum)
		}
	}
}

// P3.3: what is sealed is opened.
func TestSealedIsOpened(t *testing.T) {
	for _, s := range texts() {
		wantOpen(t, Seal(s), s, api.OK)
		wantOpen(t, Seal(Seal(s)), Seal(s), api.OK)
	}
}

// P3.3: with one byte another one it is not opened: each place, each other byte.
func TestOneByteChanged(t *testing.T) {
	for _, s := range []string{"", "1", "\x00", "\x00\x00\x00\x00", "123456789", "\xb7\x04\xce", eachByte()[:40]} {
		whole := Seal(s)
		for at := range len(whole) {
			for c := range 256 {
				if whole[at] != byte(c) {
					wantOpen(t, whole[:at]+oneByte(c)+whole[at+1:], "", api.ErrSum)
				}
			}
		}
	}
}

// P3.3: the same of many bytes, at each place.
func TestOneByteOfManyChanged(t *testing.T) {
	whole := Seal(strings.Repeat("clew", 250))
	for at := range len(whole) {
		for _, over := range []byte{1, 0x80, 0xff, 0x5a} {
			b := []byte(whole)
			b[at] ^= over
			wantOpen(t, string(b), "", api.ErrSum)
		}
	}
}

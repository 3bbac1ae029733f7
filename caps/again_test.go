package caps

import (
	"strings"
	"testing"
)

func wantAgain(t *testing.T, c Caps, s string, g, at int, fold bool, want int, wantIs bool) {
	t.Helper()
	if got, is := c.Again(s, g, at, fold); got != want || is != wantIs {
		t.Errorf("Again of the group %d of %v in %.20q, %d bytes, at %d, %v = %d, %v; want %d, %v", g, c, s, len(s), at, fold, got, is, want, wantIs)
	}
}

// wantBoth is wantAgain, with fold and without.
func wantBoth(t *testing.T, c Caps, s string, g, at int, want int, wantIs bool) {
	t.Helper()
	wantAgain(t, c, s, g, at, false, want, wantIs)
	wantAgain(t, c, s, g, at, true, want, wantIs)
}

// sameByte tells whether two bytes are the same, if fold, but for the case of letters, by a list of these.
func sameByte(x, y byte, fold bool) bool {
	if x == y || !fold {
		return x == y
	}
	small := strings.IndexByte("abcdefghijklmnopqrstuvwxyz", x)
	great := strings.IndexByte("ABCDEFGHIJKLMNOPQRSTUVWXYZ", y)
	if small < 0 {
		small = strings.IndexByte("abcdefghijklmnopqrstuvwxyz", y)
		great = strings.IndexByte("ABCDEFGHIJKLMNOPQRSTUVWXYZ", x)
	}
	return small >= 0 && small == great
}

// againByWords is what the words say of a group that matched from from to to.
func againByWords(from, to int, s string, at int, fold bool) (int, bool) {
	if from < 0 || from > to || to > 10000 || to > len(s) || at < 0 || at > len(s) || to-from > len(s)-at {
		return 0, false
	}
	for i := from; i < to; i++ {
		if !sameByte(s[i], s[at+i-from], fold) {
			return 0, false
		}
	}
	return to - from, true
}

// P10.2: the places by hand: below 0, at 0, in the middle, where the piece just fits, where it does not, at the end and above it.
func TestAgain(t *testing.T) {
	s := "abcabxab"
	c := made(t, map[int][2]int{1: {0, 2}, 2: {3, 3}, 3: {0, 8}, 4: {6, 8}, 5: {7, 9}, 6: {9, 9}, 7: {0, 3}})
	for at, want := range []bool{true, false, false, true, false, false, true, false, false} {
		for _, g := range []int{1, 4} {
			if want {
				wantBoth(t, c, s, g, at, 2, true)
			} else {
				wantBoth(t, c, s, g, at, 0, false)
			}
		}
		// The empty piece stands everywhere, also at the end.
		wantBoth(t, c, s, 2, at, 0, true)
		// The whole text stands at 0 alone.
		if at > 0 {
			wantBoth(t, c, s, 3, at, 0, false)
		}
		for _, g := range append([]int{5, 6, 8, 9}, noGroups...) {
			wantBoth(t, c, s, g, at, 0, false)
		}
	}
	wantBoth(t, c, s, 3, 0, 8, true)
	wantBoth(t, c, s, 7, 0, 3, true)
	wantBoth(t, c, s, 7, 3, 0, false)
	for _, at := range edges {
		if at < 0 || at > len(s) {
			for g := 1; g <= 9; g++ {
				wantBoth(t, c, s, g, at, 0, false)
			}
		}
	}
	wantBoth(t, c, "", 1, 0, 0, false)
	wantBoth(t, raw(1, 0, 0), "", 1, 0, 0, true)
	wantBoth(t, raw(1, 0, 0), "", 1, 1, 0, false)
	wantBoth(t, raw(1, 0, 0), "", 1, -1, 0, false)
}

// P10.2: with fold each byte stands for itself and, a letter a to z or A to Z, for that of the other case; without, for itself alone. All bytes beside all bytes.
func TestAgainOfAllBytes(t *testing.T) {
	c := raw(1, 0, 1)
	pairs := 0
	for x := range 256 {
		for y := range 256 {
			s := string([]byte{byte(x), byte(y)})
			for _, fold := range []bool{false, true} {
				want, is := 0, sameByte(byte(x), byte(y), fold)
				if is {
					want = 1
					pairs++
				}
				wantAgain(t, c, s, 1, 1, fold, want, is)
			}
		}
	}
	if pairs != 256+256+52 {
		t.Error(pairs)
	}
}

// P10.2: by hand, the letters at both ends of the alphabet in both cases, the bytes next to them, digits, and bytes above 127.
func TestAgainByFold(t *testing.T) {
	for _, x := range []struct {
		piece, other string
		plain, fold  bool
	}{
		{"a", "A", false, true}, {"A", "a", false, true}, {"z", "Z", false, true}, {"Z", "z", false, true}, {"a", "a", true, true}, {"Z", "Z", true, true},
		{"m", "M", false, true}, {"a", "B", false, false}, {"A", "b", false, false}, {"z", "A", false, false},
		{"@", "`", false, false}, {"`", "@", false, false}, {"[", "{", false, false}, {"{", "[", false, false}, {"`", "`", true, true}, {"@", "@", true, true}, {"[", "[", true, true}, {"{", "{", true, true},
		{"0", "0", true, true}, {"9", "9", true, true}, {"0", "P", false, false}, {"9", "Y", false, false}, {"0", "\x10", false, false}, {"P", "0", false, false}, {"P", "\x10", false, false},
		{"\xe4", "\xc4", false, false}, {"\xc4", "\xe4", false, false}, {"\xff", "\xdf", false, false}, {"\xff", "\xff", true, true}, {"\x80", "\xa0", false, false}, {"\xe1", "\xc1", false, false}, {"\xfa", "\xda", false, false}, {"\xe1", "a", false, false}, {"\xc1", "A", false, false},
		// Letters beyond the bytes: that for long s, and for kelvin, a and o with dots.
		{"\u017f\u017f", "ssss", false, false}, {"\u212a", "kkk", false, false}, {"\u00e4", "\u00c4", false, false}, {"\u00f6", "\u00f6", true, true},
		{"aZ09_", "Az09_", false, true}, {"aZ09_", "Az09-", false, false}, {"hello", "HELLO", false, true}, {"hello", "HELLo", false, true}, {"hello", "HELLA", false, false}, {"hello", "xELLO", false, false}, {"heLlo", "heLlo", true, true},
	} {
		s := x.piece + x.other
		c := raw(1, 0, len(x.piece))
		for fold, is := range map[bool]bool{false: x.plain, true: x.fold} {
			want := 0
			if is {
				want = len(x.piece)
			}
			wantAgain(t, c, s, 1, len(x.piece), fold, want, is)
			// The same, the other one being the piece.
			if len(x.piece) == len(x.other) {
				wantAgain(t, raw(9, len(x.piece), len(s)), s, 9, 0, fold, want, is)
			}
		}
	}
}

// P10.2: all pieces at all places of all short texts, also where there are none, with fold and without.
func TestAgainAtAllPlaces(t *testing.T) {
	texts, last := []string{""}, []string{""}
	for range 4 {
		var next []string
		for _, s := range last {
			for _, c := range "aAb@`" {
				next = append(next, s+string(c))
			}
		}
		texts, last = append(texts, next...), next
	}
	for _, s := range texts {
		for from := -1; from <= len(s)+1; from++ {
			for to := -1; to <= len(s)+1; to++ {
				c := raw(1, from, to)
				for at := -1; at <= len(s)+1; at++ {
					for _, fold := range []bool{false, true} {
						want, is := againByWords(from, to, s, at, fold)
						wantAgain(t, c, s, 1, at, fold, want, is)
					}
				}
			}
		}
	}
}

// P10.2: pieces and places at all edges, in texts that end around the last place that may be.
func TestAgainAtTheEdges(t *testing.T) {
	long := strings.Repeat("a", 20001)
	for _, size := range []int{0, 1, 9999, 10000, 10001, 20000, 20001} {
		s := long[:size]
		for _, from := range edges {
			for _, to := range edges {
				for _, at := range edges {
					is := mayStand(from, to) && to <= size && at >= 0 && at <= size && to-from <= size-at
					want := 0
					if is {
						want = to - from
					}
					wantAgain(t, raw(2, from, to), s, 2, at, false, want, is)
				}
			}
		}
	}
	// Behind 10000 bytes no group matches, but what one matched may stand there.
	wantBoth(t, raw(1, 0, 10000), long, 1, 10001, 10000, true)
	wantBoth(t, raw(1, 0, 10000), long, 1, 10002, 0, false)
	wantBoth(t, raw(1, 0, 10001), long, 1, 0, 0, false)
	wantBoth(t, raw(1, 0, 10000), long[:20000]+"A", 1, 10000, 10000, true)
	wantAgain(t, raw(1, 0, 10000), long[:20000]+"A", 1, 10001, true, 10000, true)
	wantAgain(t, raw(1, 0, 10000), long[:20000]+"A", 1, 10001, false, 0, false)
	wantBoth(t, raw(1, 0, 10000), long[:20000]+"b", 1, 10001, 0, false)
}

// P10.2: of Caps that With has not made: only the group that matched as it may stands again.
func TestAgainOfStray(t *testing.T) {
	s := strings.Repeat("yY", 6000)
	for g := 1; g <= 9; g++ {
		for at := range 4 {
			for _, fold := range []bool{false, true} {
				want, is := 0, g == 8 && (fold || at%2 == 1)
				if is {
					want = 1
				}
				wantAgain(t, stray(), s, g, at, fold, want, is)
			}
		}
	}
}

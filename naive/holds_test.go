package naive

import (
	"math"
	"slices"
	"strings"
	"testing"

	"clew/ast"
)

// ofWords are the bytes of words, as a list.
const ofWords = "abcdefghijklmnopqrstuvwxyzABCDEFGHIJKLMNOPQRSTUVWXYZ0123456789_"

// noPlaces are numbers of no place in short texts, among them such as would be one if they were cut to fewer digits.
var noPlaces = []int{math.MinInt, math.MinInt + 1, -1 << 32, -1<<32 + 1, -1 << 16, -256, -2, -1, 1 << 16, 1<<16 + 1, 1 << 31, 1 << 32, 1<<32 + 1, math.MaxInt - 1, math.MaxInt}

// noAsserts are numbers of kinds that assert nothing, and of no kinds, among them such as would assert if they were cut to fewer digits.
var noAsserts = []int{
	ast.Empty, ast.Bytes, ast.Cat, ast.Alt, ast.Repeat, ast.Group, ast.Back, ast.Ahead, ast.NotAhead, ast.Behind, ast.NotBehind, ast.Atomic, ast.Kinds,
	math.MinInt, -1, ast.Kinds + 1, 256 + ast.Begin, 256 + ast.NotWord, 1<<16 + ast.End, 1<<32 + ast.Word, math.MaxInt,
}

// wantHolds holds what asserts at a place against a text of those that do: ^ $ m M b B.
func wantHolds(t *testing.T, s string, at int, want string) {
	t.Helper()
	for i, kind := range []int{ast.Begin, ast.End, ast.LineBegin, ast.LineEnd, ast.Word, ast.NotWord} {
		mark := "^$mMbB"[i : i+1]
		if got := Holds(kind, s, at); got != strings.Contains(want, mark) {
			t.Errorf("Holds of %s in %.20q, %d bytes, at %d = %v", mark, s, len(s), at, got)
		}
	}
	for _, kind := range noAsserts {
		if Holds(kind, s, at) {
			t.Errorf("Holds of the kind %d in %.20q at %d", kind, s, at)
		}
	}
}

// P11.1: each kind that asserts, and those that do not, by hand: ^ stands for Begin, $ for End, m and M for LineBegin and LineEnd, b and B for Word and NotWord.
func TestHolds(t *testing.T) {
	for _, x := range []struct {
		s    string
		want []string // at 0, 1, and so on
	}{
		{"", []string{"^$mMB"}},
		{"a", []string{"^mb", "$Mb"}},
		{"ab", []string{"^mb", "B", "$Mb"}},
		{" ", []string{"^mB", "$MB"}},
		{"\n", []string{"^mMB", "$mMB"}},
		{"\n\n", []string{"^mMB", "mMB", "$mMB"}},
		{"\na\n", []string{"^mMB", "mb", "Mb", "$mMB"}},
		{"a\nb", []string{"^mb", "Mb", "mb", "$Mb"}},
		{"\r\v\f", []string{"^mB", "B", "B", "$MB"}},
		{"a-b", []string{"^mb", "b", "b", "$Mb"}},
		{"_9Z", []string{"^mb", "B", "B", "$Mb"}},
		{"\xe9a\xff", []string{"^mB", "b", "b", "$MB"}},
		{"\x00", []string{"^mB", "$MB"}},
	} {
		for at, want := range x.want {
			wantHolds(t, x.s, at, want)
		}
		for _, at := range append(noPlaces, len(x.s)+1, len(x.s)+2, len(x.s)+256) {
			wantHolds(t, x.s, at, "")
		}
	}
}

// assertsAt are the kinds that assert and hold at a place, by the words.
func assertsAt(s string, at int) []int {
	var l []int
	if at == 0 {
		l = append(l, ast.Begin)
	}
	if at == len(s) {
		l = append(l, ast.End)
	}
	if strings.HasSuffix("\n"+s[:at], "\n") {
		l = append(l, ast.LineBegin)
	}
	if strings.HasPrefix(s[at:]+"\n", "\n") {
		l = append(l, ast.LineEnd)
	}
	beside := 0
	if at > 0 && strings.IndexByte(ofWords, s[at-1]) >= 0 {
		beside++
	}
	if at < len(s) && strings.IndexByte(ofWords, s[at]) >= 0 {
		beside++
	}
	if beside == 1 {
		return append(l, ast.Word)
	}
	return append(l, ast.NotWord)
}

// P11.1: all pairs of bytes, each at all of its places.
func TestHoldsBesideAllBytes(t *testing.T) {
	for pair := range 1 << 16 {
		s := string([]byte{byte(pair >> 8), byte(pair)})
		for at := range 3 {
			want := assertsAt(s, at)
			for kind := range ast.Kinds {
				if Holds(kind, s, at) != slices.Contains(want, kind) {
					t.Fatalf("Holds of the kind %d in %q at %d; want those that do: %d", kind, s, at, want)
				}
			}
		}
	}
}

// P11.1: Holds is asked of texts of any length.
func TestHoldsOfLongTexts(t *testing.T) {
	for _, length := range []int{9999, 10000, 10001, 20000, 1 << 17} {
		s := strings.Repeat("a", length)
		wantHolds(t, s, 0, "^mb")
		wantHolds(t, s, length-1, "B")
		wantHolds(t, s, length, "$Mb")
		wantHolds(t, s, length+1, "")
		wantHolds(t, s[:length-1]+"\n", length, "$mMB")
		wantHolds(t, s[:length-1]+"\n", length-1, "Mb")
	}
}

package facts

import (
	"math"
	"strings"
	"testing"

	"clew/class"
)

func wantOut(t *testing.T, f Facts, s string, at int, want bool) {
	t.Helper()
	if got := Out(f, s, at); got != want {
		t.Errorf("Out(%s, %q, %d) = %v; want %v", factsText(f), s, at, got, want)
	}
}

// all are facts that rule nothing out.
var all = Facts{Open: true}

// P9.2: places that are none are not ruled out, whatever the facts are.
func TestNoPlaces(t *testing.T) {
	for _, f := range []Facts{{}, all, {Fast: true}, {Open: true, Fast: true, Prefix: "x"}, {First: firstA, Prefix: "a"}} {
		for _, s := range []string{"", "a", "abc"} {
			for _, at := range []int{math.MinInt, -1 << 32, -2, -1, len(s) + 1, len(s) + 2, 1 << 32, math.MaxInt} {
				wantOut(t, f, s, at, false)
			}
		}
	}
}

// P9.2: what begins with a byte is ruled out at the end, and where another one stands; what is Open is not.
func TestOutByFirst(t *testing.T) {
	first, open := Facts{First: firstAB}, Facts{First: firstAB, Open: true}
	for at, want := range []bool{false, true, false, true, true} {
		wantOut(t, first, "axb\x00", at, want)
		wantOut(t, open, "axb\x00", at, false)
	}
	wantOut(t, first, "", 0, true)
	wantOut(t, open, "", 0, false)
	for at := range 4 {
		wantOut(t, Facts{}, "abc", at, true)
		wantOut(t, all, "abc", at, false)
		wantOut(t, Facts{First: class.All()}, "abc", at, at == 3)
		wantOut(t, Facts{First: class.All(), Open: true}, "abc", at, false)
	}
	for i := range 256 {
		s := "a" + string([]byte{byte(i)}) + "a"
		wantOut(t, Facts{First: class.One(byte(i))}, s, 1, false)
		wantOut(t, Facts{First: class.One(byte(i)).Not()}, s, 1, true)
		wantOut(t, Facts{First: class.One(byte(i)).Not(), Open: true}, s, 1, false)
	}
}

// P9.2: what is Fast is ruled out above the place 0.
func TestOutByFast(t *testing.T) {
	for at := range 4 {
		wantOut(t, Facts{Open: true, Fast: true}, "abc", at, at > 0)
		wantOut(t, Facts{First: class.All(), Fast: true}, "abc", at, at > 0)
		wantOut(t, Facts{First: firstA, Fast: true, Prefix: "a"}, "aaa", at, at > 0)
	}
	wantOut(t, Facts{Open: true, Fast: true}, "", 0, false)
	wantOut(t, Facts{Fast: true}, "", 0, true)
	wantOut(t, Facts{Open: true, Fast: true, Prefix: "b"}, "abc", 0, true)
	wantOut(t, Facts{Open: true, Fast: true, Prefix: "b"}, "abc", 1, true)
}

// P9.2: where the Prefix does not stand there is no match, of what is Open too.
func TestOutByPrefix(t *testing.T) {
	for _, open := range []bool{false, true} {
		f := Facts{First: firstA, Open: open, Prefix: "abc"}
		for s, ats := range map[string][]bool{
			"abcabc":  {false, true, true, false, true, true, true},
			"abcab":   {false, true, true, true, true, true},
			"abdabcx": {true, true, true, false, true, true, true, true},
			"xbcabd":  {true, true, true, true, true, true, true},
			"ab":      {true, true, true},
			"abc":     {false, true, true, true},
			"":        {true},
		} {
			for at, want := range ats {
				wantOut(t, f, s, at, want)
			}
		}
	}
	// The facts need not be those of a tree.
	wantOut(t, Facts{First: firstB, Prefix: "a"}, "a", 0, true)
	wantOut(t, Facts{First: firstB, Prefix: "a"}, "b", 0, true)
	wantOut(t, Facts{First: firstB, Open: true, Prefix: "a"}, "a", 0, false)
	long := strings.Repeat("ab", 3000)
	wantOut(t, Facts{Open: true, Prefix: long}, long, 0, false)
	wantOut(t, Facts{Open: true, Prefix: long}, long+"a", 0, false)
	wantOut(t, Facts{Open: true, Prefix: long}, long[1:]+"a", 0, true)
	wantOut(t, Facts{Open: true, Prefix: long}, "ab"+long, 2, false)
	wantOut(t, Facts{Open: true, Prefix: long}, long, 1, true)
	wantOut(t, Facts{Open: true, Prefix: long + "a"}, long, 0, true)
	wantOut(t, Facts{Open: true, Prefix: long + "a"}, long+"b", 0, true)
}

// P9.2: all facts over two letters, with a Prefix of at most two bytes, at all places of all short texts, by the words one by one.
func TestOutOfAll(t *testing.T) {
	sets := []class.Set{{}, firstA, firstB, firstAB}
	texts := shortTexts("ab", 4)
	for _, first := range sets {
		for flags := range 4 {
			for _, prefix := range shortTexts("ab", 2) {
				f := Facts{First: first, Open: flags&1 != 0, Fast: flags&2 != 0, Prefix: prefix}
				for _, s := range texts {
					for at := -1; at <= len(s)+1; at++ {
						wantOut(t, f, s, at, outByWords(f, s, at))
					}
				}
			}
		}
	}
}

func outByWords(f Facts, s string, at int) bool {
	if at < 0 || at > len(s) {
		return false
	}
	out := f.Fast && at > 0
	if !f.Open && at == len(s) {
		out = true
	}
	if !f.Open && at < len(s) && !f.First.Has(s[at]) {
		out = true
	}
	for i := range len(f.Prefix) {
		if at+i >= len(s) || s[at+i] != f.Prefix[i] {
			out = true
		}
	}
	return out
}

// shortTexts are all texts of these letters of at most so many bytes.
func shortTexts(letters string, most int) []string {
	texts, last := []string{""}, []string{""}
	for range most {
		var next []string
		for _, s := range last {
			for _, c := range letters {
				next = append(next, s+string(c))
			}
		}
		texts, last = append(texts, next...), next
	}
	return texts
}

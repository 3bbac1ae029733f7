package caps

import (
	"strings"
	"testing"
	"unsafe"

	"clew/api"
)

func wantText(t *testing.T, c Caps, s string, g int, want string, wantIs bool) {
	t.Helper()
	if got, is := c.Text(s, g); got != want || is != wantIs {
		t.Errorf("Text of the group %d of %v in %d bytes = %.20q, %v; want %.20q, %v", g, c, len(s), got, is, want, wantIs)
	}
}

// allBytes are all bytes, rising.
func allBytes() string {
	l := make([]byte, 256)
	for i := range l {
		l[i] = byte(i)
	}
	return string(l)
}

// P10.2: Text by hand.
func TestText(t *testing.T) {
	c := made(t, map[int][2]int{1: {0, 0}, 2: {0, 2}, 3: {1, 4}, 4: {5, 6}, 5: {6, 6}, 6: {0, 6}, 7: {6, 7}, 8: {7, 7}})
	for g, want := range map[int]string{1: "", 2: "ab", 3: "b\x00\xff", 4: "c", 5: "", 6: "ab\x00\xff\nc"} {
		wantText(t, c, "ab\x00\xff\nc", g, want, true)
	}
	// One byte beyond the end; empty beyond the end; a group that did not match; none.
	for _, g := range append([]int{7, 8, 9}, noGroups...) {
		wantText(t, c, "ab\x00\xff\nc", g, "", false)
	}
	for g := 1; g <= 9; g++ {
		wantText(t, c, "", g, "", g == 1)
		wantText(t, Caps{}, "abc", g, "", false)
	}
}

// P10.2: all places in short texts, also those that are none, of each group.
func TestTextAtAllPlaces(t *testing.T) {
	whole := "abcdef"
	for size := range len(whole) + 1 {
		s := whole[:size]
		for from := -3; from <= size+3; from++ {
			for to := -3; to <= size+3; to++ {
				want, is := "", mayStand(from, to) && to <= size
				if is {
					want = s[from:to]
				}
				for g := 1; g <= 9; g++ {
					c := raw(g, from, to)
					wantText(t, c, s, g, want, is)
					wantText(t, c, s, g%9+1, "", false)
					c.Is[g-1] = false
					wantText(t, c, s, g, "", false)
				}
			}
		}
	}
}

// P10.2: numbers at all edges, in texts that end around the last place that may be; a text may have more bytes, a group not.
func TestTextAtTheEdges(t *testing.T) {
	long := strings.Repeat("0123456789", 1<<12)
	for _, size := range []int{0, 1, 9, 10, 9999, 10000, 10001, 10002, 20000, len(long)} {
		s := long[:size]
		for _, from := range edges {
			for _, to := range edges {
				want, is := "", mayStand(from, to) && to <= size
				if is {
					want = s[from:to]
				}
				wantText(t, raw(3, from, to), s, 3, want, is)
			}
		}
	}
	wantText(t, raw(1, 9998, 10000), long, 1, "89", true)
	wantText(t, raw(1, 9998, 10001), long, 1, "", false)
	wantText(t, raw(1, 10001, 10001), long, 1, "", false)
	wantText(t, raw(1, 10000, 10000), long[:10000], 1, "", true)
	wantText(t, raw(1, 10000, 10000), long[:9999], 1, "", false)
}

// P10.2: of Caps that With has not made: only the group that matched as it may has a text.
func TestTextOfStray(t *testing.T) {
	s := strings.Repeat("xyz", 5000)
	c := stray()
	for g := 1; g <= 9; g++ {
		if g == 8 {
			wantText(t, c, s, g, "y", true)
		} else {
			wantText(t, c, s, g, "", false)
		}
		// Set as it may be, it has one.
		set, wrong := c.With(g, 2, 4)
		if wrong != api.OK {
			t.Error(g, wrong)
		}
		wantText(t, set, s, g, "zx", true)
	}
}

// P10.2: a piece is bytes, whatever they are.
func TestTextOfAllBytes(t *testing.T) {
	s := allBytes()
	for i := range 256 {
		wantText(t, raw(1, i, i+1), s, 1, string([]byte{byte(i)}), true)
		wantText(t, raw(1, i, 256), s, 1, s[i:], true)
	}
}

// R4: what is answered is new memory.
func TestTextIsNew(t *testing.T) {
	s := strings.Repeat("ab", 100)
	first, _ := raw(1, 0, 200).Text(s, 1)
	second, _ := raw(1, 0, 200).Text(s, 1)
	if first != s || second != s {
		t.Fatal(first, second)
	}
	if p, q := unsafe.StringData(first), unsafe.StringData(second); p == unsafe.StringData(s) || q == unsafe.StringData(s) || p == q {
		t.Error("answers share memory")
	}
}

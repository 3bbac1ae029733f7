package caps

import (
	"math"
	"slices"
	"testing"

	"clew/api"
)

// edges are numbers at and beside the edges of places, and such as would be among them if they were cut to fewer digits.
var edges = []int{math.MinInt, math.MinInt + 1, -1 << 32, -10001, -10000, -10, -2, -1, 0, 1, 2, 9, 10, 11, 255, 256, 5000, 9999, 10000, 10001, 10002, 20000, 1 << 16, 1<<31 + 1, 1 << 32, 1<<32 + 5, math.MaxInt - 1, math.MaxInt}

// noGroups are numbers of no group, among them such as would be one if they were cut to fewer digits.
var noGroups = []int{math.MinInt, math.MinInt + 1, -1<<32 + 1, -255, -10, -9, -8, -2, -1, 0, 10, 11, 17, 256 + 1, 1<<16 + 3, 1<<32 + 1, 1<<32 + 9, math.MaxInt - 1, math.MaxInt}

// made is Caps that With made, of the groups' places by their numbers.
func made(t *testing.T, places map[int][2]int) Caps {
	t.Helper()
	var c Caps
	for g, place := range places {
		next, wrong := c.With(g, place[0], place[1])
		if wrong != api.OK {
			t.Fatal(g, place, wrong)
		}
		c = next
	}
	return c
}

// raw is Caps of one group that matched, whether With could have made it or not.
func raw(g, from, to int) Caps {
	var c Caps
	c.Is[g-1], c.At[g-1] = true, [2]int{from, to}
	return c
}

// stray are Caps that With has not made: groups that did not match with numbers of all kinds, and one each of such as matched with what can't be.
func stray() Caps {
	return Caps{
		Is: [9]bool{2: true, 4: true, 5: true, 7: true},
		At: [9][2]int{{3, 5}, {5, 3}, {9, 2}, {-1, 4}, {-7, -7}, {0, 10001}, {math.MaxInt, math.MinInt}, {1, 2}, {0, 0}},
	}
}

func bases(t *testing.T) []Caps {
	full := Caps{}
	for i := range 9 {
		full.Is[i], full.At[i] = true, [2]int{i * 1000, i*1000 + 7}
	}
	return []Caps{{}, made(t, map[int][2]int{2: {0, 5}}), made(t, map[int][2]int{1: {4, 4}, 5: {0, 10000}, 9: {10000, 10000}}), full, stray()}
}

func mayStand(from, to int) bool {
	return from >= 0 && to >= from && to <= 10000
}

// P10.1: With of all groups and of none, at all edges, on Caps of all kinds.
func TestWith(t *testing.T) {
	for i, base := range bases(t) {
		for g := 1; g <= 9; g++ {
			for _, from := range edges {
				for _, to := range edges {
					before := base
					got, wrong := base.With(g, from, to)
					want, wantWrong := Caps{}, api.ErrArg
					if mayStand(from, to) {
						want, wantWrong = before, api.OK
						want.Is[g-1], want.At[g-1] = true, [2]int{from, to}
					}
					if got != want || wrong != wantWrong {
						t.Fatal(i, g, from, to, got, wrong)
					}
					if base != before {
						t.Fatal("With changed what it was called on:", i, g, from, to, base)
					}
				}
			}
		}
	}
}

// P10.1: a group that is none is ErrArg, whatever the places are.
func TestWithOfNoGroup(t *testing.T) {
	for i, base := range bases(t) {
		for _, g := range noGroups {
			for _, from := range edges {
				for _, to := range edges {
					if got, wrong := base.With(g, from, to); got != (Caps{}) || wrong != api.ErrArg {
						t.Fatal(i, g, from, to, got, wrong)
					}
				}
			}
		}
	}
}

// P10.1: by hand, the last places that may be and the first ones that may not.
func TestWithAtTheEdges(t *testing.T) {
	for _, x := range []struct {
		g, from, to int
		want        api.Errno
	}{
		{1, 0, 0, api.OK}, {9, 0, 0, api.OK}, {0, 0, 0, api.ErrArg}, {10, 0, 0, api.ErrArg}, {-1, 0, 0, api.ErrArg},
		{1, 0, 1, api.OK}, {1, 3, 3, api.OK}, {1, 3, 7, api.OK}, {1, 7, 3, api.ErrArg}, {1, 1, 0, api.ErrArg},
		{1, -1, 0, api.ErrArg}, {1, -1, -1, api.ErrArg}, {1, -3, -3, api.ErrArg}, {1, -5, -2, api.ErrArg}, {1, 0, -1, api.ErrArg}, {1, -1, 10000, api.ErrArg},
		{1, 0, 10000, api.OK}, {1, 9999, 10000, api.OK}, {1, 10000, 10000, api.OK}, {9, 10000, 10000, api.OK},
		{1, 0, 10001, api.ErrArg}, {1, 10000, 10001, api.ErrArg}, {1, 10001, 10001, api.ErrArg}, {1, 10001, 10000, api.ErrArg}, {1, 10001, 10002, api.ErrArg},
		{1, -1, 10001, api.ErrArg},
	} {
		want := Caps{}
		if x.want == api.OK {
			want = raw(x.g, x.from, x.to)
		}
		if got, wrong := (Caps{}).With(x.g, x.from, x.to); got != want || wrong != x.want {
			t.Error(x, got, wrong)
		}
	}
}

// P10.1, P10.4: what is set is got, and set anew is got anew; all other groups stay, also those that did not match.
func TestWhatIsSetIsGot(t *testing.T) {
	for i, base := range bases(t) {
		for g := 1; g <= 9; g++ {
			for _, place := range [][2]int{{0, 0}, {0, 10000}, {17, 23}, {10000, 10000}, {1, 1}} {
				c, wrong := base.With(g, place[0], place[1])
				if from, to, is := c.Get(g); wrong != api.OK || from != place[0] || to != place[1] || !is {
					t.Error(i, g, place, from, to, is, wrong)
				}
				for other := 1; other <= 9; other++ {
					if other != g {
						sameGroup(t, c, base, other)
					}
				}
				base = c
			}
		}
	}
}

// sameGroup holds all that is told of a group of c against what is told of it of d.
func sameGroup(t *testing.T, c, d Caps, g int) {
	t.Helper()
	from, to, is := c.Get(g)
	fromD, toD, isD := d.Get(g)
	if from != fromD || to != toD || is != isD || c.Is[g-1] != d.Is[g-1] || c.At[g-1] != d.At[g-1] {
		t.Error("the group went another way:", g, c, d)
	}
}

// P10.4: in which order groups are set changes nothing of what stands in the end, and they are held against each other whole.
func TestAnyOrder(t *testing.T) {
	order := []int{1, 2, 3, 4, 5, 6, 7, 8, 9}
	set := func(order []int) Caps {
		var c Caps
		for _, g := range order {
			c, _ = c.With(g, 10*g, 11*g)
		}
		return c
	}
	first := set(order)
	for turn := range 9 {
		turned := slices.Concat(order[turn:], order[:turn])
		if set(turned) != first {
			t.Error(turned)
		}
		slices.Reverse(turned)
		if set(turned) != first {
			t.Error(turned)
		}
		if set(order[:turn]) == first {
			t.Error("the same with fewer groups:", turn)
		}
	}
}

// P10.1: Get tells what stands there of groups that matched, whatever that is, and 0, 0, no of all others.
func TestGet(t *testing.T) {
	for _, from := range edges {
		for _, to := range edges {
			for g := 1; g <= 9; g++ {
				c := raw(g, from, to)
				for other := 1; other <= 9; other++ {
					gotFrom, gotTo, is := c.Get(other)
					if other == g && (gotFrom != from || gotTo != to || !is) || other != g && (gotFrom != 0 || gotTo != 0 || is) {
						t.Fatal(g, other, from, to, gotFrom, gotTo, is)
					}
				}
				c.Is[g-1] = false
				if gotFrom, gotTo, is := c.Get(g); gotFrom != 0 || gotTo != 0 || is {
					t.Fatal("told of a group that did not match:", g, from, to, gotFrom, gotTo, is)
				}
			}
		}
	}
	for i, base := range bases(t) {
		for _, g := range noGroups {
			if from, to, is := base.Get(g); from != 0 || to != 0 || is {
				t.Error(i, g, from, to, is)
			}
		}
	}
}

// P10.1: by hand, of Caps that With has not made.
func TestGetOfStray(t *testing.T) {
	want := [9]struct {
		from, to int
		is       bool
	}{2: {9, 2, true}, 4: {-7, -7, true}, 5: {0, 10001, true}, 7: {1, 2, true}}
	c := stray()
	for i, x := range want {
		if from, to, is := c.Get(i + 1); from != x.from || to != x.to || is != x.is {
			t.Error(i+1, from, to, is)
		}
	}
}

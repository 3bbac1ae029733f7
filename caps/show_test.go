package caps

import (
	"math"
	"strconv"
	"strings"
	"sync"
	"testing"

	"clew/api"
)

func wantShow(t *testing.T, c Caps, groups int, want string) {
	t.Helper()
	if got := c.Show(groups); got != want {
		t.Errorf("Show(%d) of %v = %q; want %q", groups, c, got, want)
	}
}

// P10.3: the document's example, and others by hand.
func TestShow(t *testing.T) {
	c, wrong := Caps{}.With(2, 0, 5)
	if wrong != api.OK {
		t.Fatal(wrong)
	}
	wantShow(t, c, 3, "?,0-5,?")
	wantShow(t, c, 2, "?,0-5")
	wantShow(t, c, 1, "?")
	wantShow(t, Caps{}, 9, "?,?,?,?,?,?,?,?,?")
	wantShow(t, raw(1, 0, 0), 1, "0-0")
	full := made(t, map[int][2]int{1: {0, 9}, 2: {9, 10}, 3: {10, 11}, 4: {99, 100}, 5: {100, 999}, 6: {1000, 1000}, 7: {1234, 5678}, 8: {9999, 10000}, 9: {10000, 10000}})
	words := []string{"0-9", "9-10", "10-11", "99-100", "100-999", "1000-1000", "1234-5678", "9999-10000", "10000-10000"}
	for groups := range 10 {
		wantShow(t, full, groups, strings.Join(words[:groups], ","))
	}
}

// P10.3: fewer groups than none are none, and more than nine are nine.
func TestShowOfAnyNumber(t *testing.T) {
	for i, base := range append(bases(t), raw(9, 1, 2), raw(1, 3, 4)) {
		nine := base.Show(9)
		for _, groups := range []int{10, 11, 100, 256 + 2, 1 << 32, 1<<32 + 1, math.MaxInt - 1, math.MaxInt} {
			if got := base.Show(groups); got != nine {
				t.Error(i, groups, got)
			}
		}
		for _, groups := range []int{0, -1, -2, -9, -10, -256 + 2, -1 << 32, math.MinInt + 1, math.MinInt} {
			wantShow(t, base, groups, "")
		}
	}
}

// P10.3: of Caps that With has not made: what matched is shown as it stands, what did not counts for nothing.
func TestShowOfStray(t *testing.T) {
	wantShow(t, stray(), 9, "?,?,9-2,?,-7--7,0-10001,?,1-2,?")
	wantShow(t, raw(1, -1, -10), 1, "-1--10")
	wantShow(t, raw(3, -20, 3), 3, "?,?,-20-3")
	wantShow(t, raw(1, math.MinInt, math.MaxInt), 2, "-9223372036854775808-9223372036854775807,?")
}

// P10.3: all edges in each group, alone and beside one.
func TestShowAtTheEdges(t *testing.T) {
	for _, from := range edges {
		for _, to := range edges {
			word := strconv.FormatInt(int64(from), 10) + "-" + strconv.FormatInt(int64(to), 10)
			for g := 1; g <= 9; g++ {
				c := raw(g, from, to)
				want := strings.Repeat("?,", g-1) + word + strings.Repeat(",?", 9-g)
				wantShow(t, c, 9, want)
				c.Is[g-1] = false
				wantShow(t, c, 9, "?,?,?,?,?,?,?,?,?")
			}
		}
	}
}

// answers are what all calls tell of one question.
type answers struct {
	c            Caps
	wrong        api.Errno
	from, to     int
	is, has, two bool
	text, shown  string
	again        int
}

// question is Caps, and what is asked of them.
type question struct {
	c           Caps
	s           string
	g, from, to int
	fold        bool
}

func (q question) ask() answers {
	var a answers
	a.c, a.wrong = q.c.With(q.g, q.from, q.to)
	a.from, a.to, a.is = q.c.Get(q.g)
	a.text, a.has = q.c.Text(q.s, q.g)
	a.again, a.two = q.c.Again(q.s, q.g, q.from, q.fold)
	a.shown = q.c.Show(q.g)
	return a
}

// R4, R5: no call leaves anything behind that another one sees, and none changes what it is called on.
func TestNothingIsLeftBehind(t *testing.T) {
	var questions []question
	for i, base := range bases(t) {
		for _, g := range []int{-1, 0, 1, 2, 5, 8, 9, 10} {
			questions = append(questions, question{base, strings.Repeat("ab", 50*i), g, 2 * i, 3 * i, i%2 == 0}, question{base, strings.Repeat("aA", 5500), g, i, i - 2, g%2 == 0})
		}
	}
	var first []answers
	for _, q := range questions {
		first = append(first, q.ask())
	}
	for i, q := range questions {
		for _, other := range questions {
			other.ask()
			before := q
			if got := q.ask(); got != first[i] || q != before {
				t.Fatal("told otherwise:", i, got)
			}
		}
	}
	var waiting sync.WaitGroup
	for i, q := range questions {
		waiting.Go(func() {
			for range 20 {
				if got := q.ask(); got != first[i] {
					t.Error("told otherwise at once:", i)
				}
			}
		})
	}
	waiting.Wait()
}

// R7: what With answers, and what it was called on, go their own ways.
func TestCopiesGoTheirOwnWays(t *testing.T) {
	base := made(t, map[int][2]int{1: {1, 2}})
	left, _ := base.With(2, 3, 4)
	right, _ := base.With(2, 5, 6)
	again, _ := left.With(1, 7, 8)
	for _, x := range []struct {
		c    Caps
		want string
	}{{base, "1-2,?"}, {left, "1-2,3-4"}, {right, "1-2,5-6"}, {again, "7-8,3-4"}} {
		wantShow(t, x.c, 2, x.want)
	}
}

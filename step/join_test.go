package step

import (
	"testing"

	"clew/caps"
)

// P13.4: of each how, with an outcome and without.
func TestJoin(t *testing.T) {
	one, other := capsOf(t, 1, 0, 2), odd()
	for _, b := range []Config{{}, {3, 4, one}, {3, 4, other}, {-3, 1 << 40, caps.Caps{}}} {
		for _, x := range []Config{{}, {0, 7, other}, {9, 7, one}, {1 << 50, -2, one}} {
			for _, r := range []struct {
				how  int
				is   bool
				want Config
				yes  bool
			}{
				{Keep, true, Config{b.Frame, x.Pos, x.Caps}, true}, {Keep, false, Config{}, false},
				{See, true, Config{b.Frame, b.Pos, x.Caps}, true}, {See, false, Config{}, false},
				{Miss, true, Config{}, false}, {Miss, false, b, true},
				{-1, true, Config{}, false}, {-1, false, Config{}, false}, {3, true, Config{}, false}, {3, false, Config{}, false},
				{1<<63 - 1, true, Config{}, false}, {1<<63 - 1, false, Config{}, false}, {-1 << 63, true, Config{}, false}, {-1 << 63, false, Config{}, false},
			} {
				if got, yes := Join(r.how, b, x, r.is); got != r.want || yes != r.yes {
					t.Errorf("Join(%d, %v, %v, %v) = %v, %v instead of %v, %v", r.how, b, x, r.is, got, yes, r.want, r.yes)
				}
			}
		}
	}
}

// The numbers of kinds and hows are those that other layers write into programs.
func TestNumbers(t *testing.T) {
	if [...]int{Fail, Done, Go, Choice, Sub} != [...]int{0, 1, 2, 3, 4} || [...]int{Keep, See, Miss} != [...]int{0, 1, 2} {
		t.Error("they are others")
	}
}

package show

import (
	"fmt"
	"testing"

	"clew/ast"
)

// modes are the modes, and what each adds.
func modes() map[int]string {
	return map[int]string{ast.Greedy: "", ast.Lazy: "?", ast.Possessive: "+"}
}

// P8.2: each way of writing how often at its edges, with each mode.
func TestHowOften(t *testing.T) {
	for want, n := range map[string][2]int{
		"*": {0, -1}, "+": {1, -1}, "?": {0, 1},
		"{0}": {0, 0}, "{1}": {1, 1}, "{2}": {2, 2}, "{10}": {10, 10}, "{99}": {99, 99}, "{100}": {100, 100},
		"{2,}": {2, -1}, "{9,}": {9, -1}, "{99,}": {99, -1}, "{100,}": {100, -1},
		"{0,2}": {0, 2}, "{0,100}": {0, 100}, "{1,2}": {1, 2}, "{1,100}": {1, 100}, "{2,3}": {2, 3}, "{9,10}": {9, 10}, "{99,100}": {99, 100},
	} {
		for mode, adds := range modes() {
			wantTree(t, repeatOf(a, n[0], n[1], mode), "a"+want+adds)
			wantTree(t, repeatOf(catOf(a, b), n[0], n[1], mode), "(?:ab)"+want+adds)
			wantTree(t, catOf(repeatOf(a, n[0], n[1], mode), b), "a"+want+adds+"b")
			wantTree(t, catOf(b, repeatOf(a, n[0], n[1], mode)), "ba"+want+adds)
			wantTree(t, group(repeatOf(a, n[0], n[1], mode)), "(a"+want+adds+")")
			wantTree(t, many(repeatOf(a, n[0], n[1], mode)), "(?:a"+want+adds+")*")
			wantTree(t, repeatOf(many(a), n[0], n[1], mode), "(?:a*)"+want+adds)
		}
	}
}

// P8.2, P8.3: all pairs of Min and Max, each with all modes.
func TestAllCounts(t *testing.T) {
	for mode, adds := range modes() {
		for least := range 101 {
			for most := -1; most <= 100; most++ {
				if most >= 0 && most < least {
					continue
				}
				want := fmt.Sprintf("{%d,%d}", least, most)
				switch {
				case least == most:
					want = fmt.Sprintf("{%d}", least)
				case least == 0 && most == 1:
					want = "?"
				case least == 0 && most < 0:
					want = "*"
				case least == 1 && most < 0:
					want = "+"
				case most < 0:
					want = fmt.Sprintf("{%d,}", least)
				}
				p := repeatOf(a, least, most, mode)
				wantTree(t, p, "a"+want+adds)
				wantAgain(t, p.tree())
			}
		}
	}
}

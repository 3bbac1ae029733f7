package parse

import (
	"strings"
	"testing"

	"clew/api"
	"clew/ast"
)

// P7.1: a group's number is how many Open tokens there are up to it, also within other openings.
func TestGroupsNumbers(t *testing.T) {
	for text, want := range map[string]plant{
		"(a)(b)":               cat(group(1, a), group(2, b)),
		"(a)|(b)":              alt(group(1, a), group(2, b)),
		"(a)(b)(c)":            cat(group(1, a), group(2, b), group(3, c)),
		"((a)b)":               group(1, cat(group(2, a), b)),
		"(a(b))":               group(1, cat(a, group(2, b))),
		"((a))":                group(1, group(2, a)),
		"(((a)))":              group(1, group(2, group(3, a))),
		"((a)(b))(c)":          cat(group(1, cat(group(2, a), group(3, b))), group(4, c)),
		"((a)|(b(c)))(d)":      cat(group(1, alt(group(2, a), group(3, cat(b, group(4, c))))), group(5, d)),
		"()()":                 cat(group(1, empty), group(2, empty)),
		"(())":                 group(1, group(2, empty)),
		"(|)":                  group(1, alt(empty, empty)),
		"(?:(a))(b)":           cat(group(1, a), group(2, b)),
		"(?:a)(b)":             cat(a, group(1, b)),
		"(?=(a))(b)":           cat(around(ast.Ahead, group(1, a)), group(2, b)),
		"(?!(a))(b)":           cat(around(ast.NotAhead, group(1, a)), group(2, b)),
		"(?<=(a))(b)":          cat(around(ast.Behind, group(1, a)), group(2, b)),
		"(?<!(a))(b)":          cat(around(ast.NotBehind, group(1, a)), group(2, b)),
		"(?>(a))(b)":           cat(around(ast.Atomic, group(1, a)), group(2, b)),
		"(?s:(a))(b)":          cat(group(1, a), group(2, b)),
		"(?=(?!(?>((a)))))(b)": cat(around(ast.Ahead, around(ast.NotAhead, around(ast.Atomic, group(1, group(2, a))))), group(3, b)),
		"(a)*(b)+":             cat(repeat(group(1, a), 0, -1, ast.Greedy), repeat(group(2, b), 1, -1, ast.Greedy)),
		"((a)*)*(b)":           cat(repeat(group(1, repeat(group(2, a), 0, -1, ast.Greedy)), 0, -1, ast.Greedy), group(3, b)),
		`\((a)[(](b)\)`:        cat(bytes("("), group(1, a), bytes("("), group(2, b), bytes(")")),
	} {
		wantTree(t, text, want)
	}
}

// P7.1: what asks for a group, ahead of it, around and behind; and for one of several.
func TestBacks(t *testing.T) {
	one, two := back(1, false), back(2, false)
	for text, want := range map[string]plant{
		`(a)\1`:           cat(group(1, a), one),
		`\1(a)`:           cat(one, group(1, a)),
		`(\1a)`:           group(1, cat(one, a)),
		`(\1)`:            group(1, one),
		`(a)|\1`:          alt(group(1, a), one),
		`\1|(a)`:          alt(one, group(1, a)),
		`(a)(b)\2\1`:      cat(group(1, a), group(2, b), two, one),
		`((a)\2)\1`:       cat(group(1, cat(group(2, a), two)), one),
		`((a)\1)\2`:       cat(group(1, cat(group(2, a), one)), two),
		`(?=(a))\1`:       cat(around(ast.Ahead, group(1, a)), one),
		`(?:\1)(?:(a))`:   cat(one, group(1, a)),
		`(a)\10`:          cat(group(1, a), one, bytes("0")),
		`(a)\1{2}`:        cat(group(1, a), repeat(one, 2, 2, ast.Greedy)),
		`(a)(?:\1b)`:      cat(group(1, a), cat(one, b)),
		`(a)(?=\1)(?!\1)`: cat(group(1, a), around(ast.Ahead, one), around(ast.NotAhead, one)),
	} {
		wantTree(t, text, want)
	}
	for n := 1; n <= api.MaxGroups; n++ {
		var row []plant
		for i := range api.MaxGroups {
			row = append(row, group(i+1, a))
		}
		wantTree(t, strings.Repeat("(a)", api.MaxGroups)+`\`+string(rune('0'+n)), cat(append(row, back(n, false))...))
	}
}

// P7.1: ErrGroup of more than 9 groups, and of what asks for a group that there is none of.
func TestGroupsThatAreNone(t *testing.T) {
	for n := 1; n <= api.MaxGroups; n++ {
		asks := `\` + string(rune('0'+n))
		wantWrong(t, asks, api.ErrGroup)
		wantWrong(t, strings.Repeat("(a)", n-1)+asks, api.ErrGroup)
		wantOK(t, strings.Repeat("(a)", n)+asks)
		wantOK(t, asks+strings.Repeat("(a)", n))
		wantWrong(t, asks+strings.Repeat("(a)", n-1), api.ErrGroup)
		// What looks like a group, or keeps none, is none.
		for _, none := range []string{`\(a\)`, "[(]a[)]", "(?:a)", "(?i:a)", "(?=a)", "(?!a)", "(?<=a)", "(?<!a)", "(?>a)"} {
			wantWrong(t, strings.Repeat("(a)", n-1)+none+asks, api.ErrGroup)
			wantOK(t, strings.Repeat("(a)", n-1)+none)
		}
	}
	for _, text := range []string{"(a)", "()", "(a)*", "|(a)", "(?=(a))", "(?:(a))", "(?i:(a))"} {
		wantOK(t, strings.Repeat(text, api.MaxGroups))
		wantWrong(t, strings.Repeat(text, api.MaxGroups+1), api.ErrGroup)
	}
	wantOK(t, strings.Repeat("(", api.MaxGroups)+strings.Repeat(")", api.MaxGroups))
	wantWrong(t, strings.Repeat("(", api.MaxGroups+1)+strings.Repeat(")", api.MaxGroups+1), api.ErrGroup)
	wantWrong(t, `(a)|\2`, api.ErrGroup)
	wantWrong(t, `(a\2)`, api.ErrGroup)
	wantWrong(t, `(?i:\1)`, api.ErrGroup)
	wantWrong(t, `\1*`, api.ErrGroup)
}

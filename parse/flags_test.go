package parse

import (
	"testing"

	"clew/ast"
	"clew/class"
)

// P7.1: each flag alone, several, and none: what they change, and what they leave alone.
func TestWhatFlagsChange(t *testing.T) {
	all := class.All()
	for flags, holds := range map[string]struct{ i, m, s bool }{
		"i": {i: true}, "m": {m: true}, "s": {s: true},
		"im": {i: true, m: true}, "mi": {i: true, m: true}, "is": {i: true, s: true}, "si": {i: true, s: true}, "ms": {m: true, s: true}, "sm": {m: true, s: true},
		"ims": {true, true, true}, "ism": {true, true, true}, "mis": {true, true, true}, "msi": {true, true, true}, "sim": {true, true, true}, "smi": {true, true, true},
	} {
		pick := func(yes bool, with, without plant) plant {
			if yes {
				return with
			}
			return without
		}
		for text, want := range map[string]plant{
			// i: bytes and classes are folded, whichever case they are in; what has no other case is left alone.
			"a": pick(holds.i, bytes("aA"), a), "Z": pick(holds.i, bytes("zZ"), bytes("Z")), "[a-cX1]": pick(holds.i, bytes("abcxABCX1"), bytes("abcX1")),
			"[^a]": pick(holds.i, set(all), set(class.One('a').Not())), "[^aA]": set(class.Of("aA").Not()), `\x41`: pick(holds.i, bytes("aA"), bytes("A")),
			`\w`: set(class.Range('a', 'z').Or(class.Range('A', 'Z')).Or(class.Range('0', '9')).Or(class.One('_'))),
			"1":  bytes("1"), "@": bytes("@"), `\[`: bytes("["), "`": bytes("`"), `\{`: bytes("{"), "\xe4": bytes("\xe4"), `\xc4`: bytes("\xc4"), `\d`: bytes("0123456789"),
			// s: the dot; neither a line's end by its own name, nor all others of one.
			".": pick(holds.s, set(all), dot), `\n`: bytes("\n"), `[^\n]`: dot, `\.`: bytes("."), "[.]": bytes("."),
			// m: the beginning and the end, and nothing that only looks like these.
			"^": pick(holds.m, leaf(ast.LineBegin), leaf(ast.Begin)), "$": pick(holds.m, leaf(ast.LineEnd), leaf(ast.End)), `\^`: bytes("^"), `\$`: bytes("$"), "[$]": bytes("$"), "[^^]": set(class.One('^').Not()),
			// None of them.
			`\b`: leaf(ast.Word), `\B`: leaf(ast.NotWord), "": empty, "|": alt(empty, empty), "(?=1)": around(ast.Ahead, bytes("1")), "1*?": repeat(bytes("1"), 0, -1, ast.Lazy),
			`(1)\1`: cat(group(1, bytes("1")), back(1, holds.i)),
		} {
			wantTree(t, "(?"+flags+":"+text+")", want)
		}
	}
}

// P7.1: a Back is folded as it is asked for, whatever holds where its group stands.
func TestBacksAreFolded(t *testing.T) {
	for text, want := range map[string]plant{
		`(a)\1`:               cat(group(1, a), back(1, false)),
		`(?i:(a))\1`:          cat(group(1, bytes("aA")), back(1, false)),
		`(a)(?i:\1)`:          cat(group(1, a), back(1, true)),
		`(?i:(a)\1)`:          cat(group(1, bytes("aA")), back(1, true)),
		`(?ms:(a)\1)`:         cat(group(1, a), back(1, false)),
		`(a)\1(?ims:\1)\1`:    cat(group(1, a), back(1, false), back(1, true), back(1, false)),
		`(a)(?i:\1(?s:\1))\1`: cat(group(1, a), cat(back(1, true), back(1, true)), back(1, false)),
	} {
		wantTree(t, text, want)
	}
}

// P7.1: flags hold within flags, and end with their Close; other openings keep those that hold around them.
func TestWhereFlagsHold(t *testing.T) {
	aA, all := bytes("aA"), set(class.All())
	lineBegin, begin, lineEnd, end := leaf(ast.LineBegin), leaf(ast.Begin), leaf(ast.LineEnd), leaf(ast.End)
	for text, want := range map[string]plant{
		"a(?i:a)a":                     cat(a, aA, a),
		"a|(?i:a)|a":                   alt(a, aA, a),
		"(?i:a|a)|a":                   alt(aA, aA, a),
		"(?i:a)(?i:a)a":                cat(aA, aA, a),
		"(?i:a)(?s:a)":                 cat(aA, a),
		"(?i:a(?s:a.)a.)a.":            cat(cat(aA, cat(aA, all), aA, dot), a, dot),
		"(?s:a.(?i:a.)a.)a.":           cat(cat(a, all, cat(aA, all), a, all), a, dot),
		"(?m:^(?i:^a$)$)^a$":           cat(cat(lineBegin, cat(lineBegin, aA, lineEnd), lineEnd), begin, a, end),
		"(?i:a(?m:a(?s:a.^)a.^)a.^)a":  cat(cat(aA, cat(aA, cat(aA, all, lineBegin), aA, dot, lineBegin), aA, dot, begin), a),
		"(?im:(?s:a.^$))a.^$":          cat(cat(aA, all, lineBegin, lineEnd), a, dot, begin, end),
		"(?i:(?i:a)a)a":                cat(cat(aA, aA), a),
		"(?ims:(?i:a.^)a.^)":           cat(cat(aA, all, lineBegin), aA, all, lineBegin),
		"(?i:)a":                       cat(empty, a),
		"(?i:a)*a":                     cat(repeat(aA, 0, -1, ast.Greedy), a),
		"(?i:(?:a)a)a":                 cat(cat(aA, aA), a),
		"(?i:(a)a)a":                   cat(cat(group(1, aA), aA), a),
		"(?i:(?=a)a)a":                 cat(cat(around(ast.Ahead, aA), aA), a),
		"(?i:(?!a)a)a":                 cat(cat(around(ast.NotAhead, aA), aA), a),
		"(?i:(?<=a)a)a":                cat(cat(around(ast.Behind, aA), aA), a),
		"(?i:(?<!a)a)a":                cat(cat(around(ast.NotBehind, aA), aA), a),
		"(?i:(?>a)a)a":                 cat(cat(around(ast.Atomic, aA), aA), a),
		"(?:a(?i:a)a)a":                cat(cat(a, aA, a), a),
		"((?i:a)a)a":                   cat(group(1, cat(aA, a)), a),
		"(?=(?i:a)a)a":                 cat(around(ast.Ahead, cat(aA, a)), a),
		"(?!(?i:a)a)a":                 cat(around(ast.NotAhead, cat(aA, a)), a),
		"(?<=(?i:a)a)a":                cat(around(ast.Behind, cat(aA, a)), a),
		"(?<!(?i:a)a)a":                cat(around(ast.NotBehind, cat(aA, a)), a),
		"(?>(?i:a)a)a":                 cat(around(ast.Atomic, cat(aA, a)), a),
		"(?s:(?:(?=(?>(.)).).).)":      cat(cat(around(ast.Ahead, cat(around(ast.Atomic, group(1, all)), all)), all), all),
		"(?m:(?:(?=(?>(^))^)^)^)^":     cat(cat(cat(around(ast.Ahead, cat(around(ast.Atomic, group(1, lineBegin)), lineBegin)), lineBegin), lineBegin), begin),
		"(?:(?i:(?:a))(?m:(?:^a)))^a.": cat(cat(aA, cat(lineBegin, a)), begin, a, dot),
	} {
		wantTree(t, text, want)
	}
}

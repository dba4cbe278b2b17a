package lex_test

import (
	"math"
	"math/rand"
	"strings"
	"testing"

	"tidewrack/api"
	"tidewrack/lex"
)

func word(s string) api.Token  { return api.Token{Kind: api.TokWord, Text: s} }
func text(s string) api.Token  { return api.Token{Kind: api.TokText, Text: s} }
func mark(s string) api.Token  { return api.Token{Kind: api.TokMark, Text: s} }
func number(n int64) api.Token { return api.Token{Kind: api.TokNumber, Num: n} }

func long(n int) string { return strings.Repeat("w", n) }

func TestMay(t *testing.T) {
	for _, x := range []api.Token{word("a"), word("_"), word("Z9_-"), word("a.b"), word("a.9._x-.z"), word("a-"), word("a-.b"), word(long(64)), text(""), text(" ~\"\\"), text(long(64)),
		number(0), number(math.MinInt64), number(math.MaxInt64), mark("{"), mark("}"), mark("("), mark(")"), mark(";"), mark("="), mark("<"), mark("!="), {Kind: api.TokWord, Text: "a", At: 9999}} {
		if !lex.May(x) {
			t.Errorf("%v: not valid", x)
		}
	}
	for _, x := range []api.Token{{}, {Kind: 5}, {Kind: -1, Text: "a"}, word(""), word("9a"), word("-a"), word(".a"), word("a."), word("a..b"), word("a.-b"), word("a b"), word("a\""), word("é"), word(long(65)),
		{Kind: api.TokWord, Text: "a", Num: 1}, {Kind: api.TokText, Text: "a", Num: 1}, {Kind: api.TokMark, Text: "=", Num: 1}, {Kind: api.TokNumber, Text: "1"}, {Kind: api.TokNumber, Text: "1", Num: 1},
		text("\n"), text("\x7f"), text("\x1f"), text(long(65)), mark(""), mark("!"), mark(">"), mark("=="), mark("{ }"), mark(" "), mark("a"), {Kind: api.TokWord, Text: "a", At: -1}, {Kind: api.TokNumber, At: -1}} {
		if lex.May(x) {
			t.Errorf("%v: valid", x)
		}
		if s, e := lex.Print(word("a"), x); e != api.ErrArg || s != "" {
			t.Errorf("%v: %q, %v", x, s, e)
		}
	}
}

func TestSame(t *testing.T) {
	a := []api.Token{word("a"), number(1)}
	if !lex.Same(a, []api.Token{{Kind: api.TokWord, Text: "a", At: 7}, {Kind: api.TokNumber, Num: 1, At: 3}}) || !lex.Same(nil, []api.Token{}) {
		t.Error("not the same")
	}
	for _, b := range [][]api.Token{nil, a[:1], {word("a"), number(2)}, {word("b"), number(1)}, {text("a"), number(1)}, {number(1), word("a")}, {word("a"), number(1), number(1)}} {
		if lex.Same(a, b) {
			t.Errorf("%v: the same", b)
		}
	}
}

func TestAll(t *testing.T) {
	l, at, e := lex.All(`when a.b = "x\"y" { channel id; } # c`)
	want := []api.Token{word("when"), word("a.b"), mark("="), text(`x"y`), mark("{"), word("channel"), word("id"), mark(";"), mark("}")}
	if e != api.OK || at != 0 || !lex.Same(l, want) {
		t.Fatalf("%v, %d, %v", l, at, e)
	}
	for i, want := range []int{0, 5, 9, 11, 18, 20, 28, 30, 32} {
		if l[i].At != want {
			t.Errorf("token %d at %d", i, l[i].At)
		}
	}
	for s, want := range map[string][]api.Token{
		"": nil, " \t\r\n": nil, "#": nil, "# all \x00 of it \xff": nil, "#a\nb": {word("b")}, "#a\rb\nc#d": {word("c")},
		"-12 != 0;": {number(-12), mark("!="), number(0), mark(";")}, "9223372036854775807": {number(math.MaxInt64)}, "-9223372036854775808": {number(math.MinInt64)},
		"a(b)<c={": {word("a"), mark("("), word("b"), mark(")"), mark("<"), word("c"), mark("="), mark("{")}, "a!=b": {word("a"), mark("!="), word("b")},
		`"a""b"c"\\"1`: {text("a"), text("b"), word("c"), text(`\`), number(1)}, `"#"`: {text("#")}, "1;2": {number(1), mark(";"), number(2)}, "a#b\n": {word("a")}, "1#": {number(1)},
		long(64): {word(long(64))}, `"` + strings.Repeat(`\"`, 64) + `"`: {text(strings.Repeat(`"`, 64))}, "a.b.c-d_e.0": {word("a.b.c-d_e.0")}, "1\"x\"": {number(1), text("x")},
		"A z Z a Aaz.ZA_ q0.9": {word("A"), word("z"), word("Z"), word("a"), word("Aaz.ZA_"), word("q0.9")}, "9 0": {number(9), number(0)}, "old.a": {word("old.a")}, "a\tb\rc": {word("a"), word("b"), word("c")},
	} {
		if l, at, e := lex.All(s); e != api.OK || at != 0 || !lex.Same(l, want) {
			t.Errorf("%q: %v, %d, %v", s, l, at, e)
		}
	}
	if l, at, e := lex.All(strings.Repeat(" ", api.MaxRules-1) + "a"); e != api.OK || at != 0 || len(l) != 1 || l[0].At != api.MaxRules-1 {
		t.Errorf("the longest: %v, %v", l, e)
	}
	if l, at, e := lex.All("@" + strings.Repeat(" ", api.MaxRules)); e != api.ErrLong || at != 0 || len(l) != 0 {
		t.Errorf("too long: %v, %d, %v", l, at, e)
	}
}

func TestAllFails(t *testing.T) {
	for s, want := range map[string]int{"01": 0, "-0": 0, "-01": 0, "00": 0, "-": 0, "--1": 0, "1a": 0, "1_": 0, "1-": 0, "1-2": 0, "1.": 0, "1.2": 0, "9223372036854775808": 0, "-9223372036854775809": 0,
		"a.": 0, "a..b": 0, "a.-": 0, "a. b": 0, "x a.;": 2, `"x`: 0, `"x\"`: 0, `"\`: 0, `"\n"`: 0, "\"\n\"": 0, "\"\x7f\"": 0, "a \"\xc3\xa9\"": 2, "!": 0, "! =": 0, "a !b": 2, ">": 0, "a > b": 2, ".": 0, ".a": 0,
		"\v": 0, "a\x00": 1, "é": 0, "aé": 1, "+1": 0, "'a'": 0, "a,b": 1, "[": 0, "  " + long(65): 2, `b "` + long(65) + `"`: 2, "# c\n @": 5, "/": 0, "*": 0, "a b \"c": 4} {
		if l, at, e := lex.All(s); e != api.ErrForm || at != want || len(l) != 0 {
			t.Errorf("%q: %v, %d, %v", s, l, at, e)
		}
	}
}

func TestPrint(t *testing.T) {
	if s, e := lex.Print(); s != "" || e != api.OK {
		t.Errorf("%q, %v", s, e)
	}
	l := []api.Token{{Kind: api.TokWord, Text: "a.b", At: 40}, text(`x"\y`), number(-3), mark("!="), mark("{"), text("")}
	if s, e := lex.Print(l...); s != `a.b "x\"\\y" -3 != { ""` || e != api.OK {
		t.Errorf("%q, %v", s, e)
	}
}

func random(r *rand.Rand) api.Token {
	switch r.Intn(4) {
	case 0:
		return word([]string{"a", "when", "old.x", "_9", "a-.b", "Q.0.z-", long(64)}[r.Intn(7)])
	case 1:
		return text([]string{"", " ", "\\", "\"", "a b", "\\\"#;", "~!", long(64)}[r.Intn(8)])
	case 2:
		return number([]int64{0, -1, 7, 10, math.MaxInt64, math.MinInt64}[r.Intn(6)])
	}
	return mark(strings.Fields("{ } ( ) ; = < !=")[r.Intn(8)])
}

func TestRoundTripAndWhiteSpace(t *testing.T) {
	r := rand.New(rand.NewSource(1))
	for range 500 {
		var l []api.Token
		for range r.Intn(12) {
			l = append(l, random(r))
		}
		s, e := lex.Print(l...)
		if e != api.OK {
			t.Fatal(e)
		}
		got, _, e := lex.All(s)
		if e != api.OK || !lex.Same(got, l) {
			t.Fatalf("%q: %v, %v", s, got, e)
		}
		wide := ""
		var at []int
		for _, x := range l {
			wide += strings.Repeat([]string{" ", "\t", "\r\n", "# x\" {\n"}[r.Intn(4)], 1+r.Intn(3))
			at = append(at, len(wide))
			one, _ := lex.Print(x)
			wide += one
		}
		got, _, e = lex.All(wide)
		if e != api.OK || !lex.Same(got, l) {
			t.Fatalf("%q: %v, %v", wide, got, e)
		}
		for i := range got {
			if got[i].At != at[i] {
				t.Fatalf("%q: token %d at %d", wide, i, got[i].At)
			}
		}
		k := r.Intn(len(l) + 1)
		one, _ := lex.Print(l[:k]...)
		two, _ := lex.Print(l[k:]...)
		if got, _, e = lex.All(one + "\n" + two); e != api.OK || !lex.Same(got, l) {
			t.Fatalf("%q and %q: %v", one, two, e)
		}
		b := []byte(s)
		if len(b) > 0 {
			b[r.Intn(len(b))] = byte(r.Intn(256))
			if got, at, e := lex.All(string(b)); e == api.OK {
				p, _ := lex.Print(got...)
				if again, _, e := lex.All(p); e != api.OK || !lex.Same(got, again) {
					t.Fatalf("%q", b)
				}
			} else if e != api.ErrForm || at < 0 || at >= len(b) {
				t.Fatalf("%q: %d, %v", b, at, e)
			}
		}
	}
}

package rule_test

import (
	"math/rand"
	"reflect"
	"strings"
	"testing"

	"tidewrack/api"
	"tidewrack/rule"
	"tidewrack/value"
)

func field(s string) api.Term    { return api.Term{Kind: api.TermField, Text: s} }
func old(s string) api.Term      { return api.Term{Kind: api.TermField, Text: s, Old: 1} }
func val(v api.Value) api.Term   { return api.Term{Kind: api.TermValue, Value: v} }
func num(n int64) api.Term       { return val(value.Number(n)) }
func text(s string) api.Term     { return val(value.Text(s)) }
func id() api.Term               { return api.Term{Kind: api.TermId} }
func channel(a api.Term) api.Act { return api.Act{Kind: api.ActChannel, A: a} }
func grant(a, b api.Term) api.Act {
	return api.Act{Kind: api.ActGrant, A: a, B: b}
}
func reject() api.Act { return api.Act{Kind: api.ActReject} }
func cond(kind int, kids ...api.Cond) api.Cond {
	return api.Cond{Kind: kind, Kids: kids}
}
func eq(a, b api.Term) api.Cond { return api.Cond{Kind: api.CondEq, A: a, B: b} }
func has(a api.Term) api.Cond   { return api.Cond{Kind: api.CondHas, A: a} }
func del() api.Cond             { return api.Cond{Kind: api.CondDel} }
func always(a api.Act) api.Clause {
	return api.Clause{Acts: []api.Act{a}}
}
func when(c api.Cond, acts ...api.Act) api.Clause {
	return api.Clause{When: 1, Cond: c, Acts: acts}
}
func rules(l ...api.Clause) api.Program { return api.Program{Clauses: l} }

func repeat[T any](x T, n int) (l []T) {
	for range n {
		l = append(l, x)
	}
	return l
}

func negated(depth int) api.Cond {
	c := del()
	for range depth - 1 {
		c = cond(api.CondNot, c)
	}
	return c
}

func TestMay(t *testing.T) {
	w64 := strings.Repeat("w", 64)
	valid := map[string]api.Program{
		"none": {}, "channel": rules(always(channel(id()))), "grant": rules(always(grant(field("a.b"), text("all")))), "reject": rules(always(reject())),
		"no acts": rules(when(del())), "eight acts": rules(when(del(), repeat(reject(), 8)...)), "32 clauses": rules(repeat(always(reject()), 32)...),
		"values":      rules(always(channel(val(api.Value{}))), always(channel(val(api.Value{Kind: api.False}))), always(channel(val(api.Value{Kind: api.True}))), always(channel(num(-5))), always(channel(text(strings.Repeat("x", 64))))),
		"fields":      rules(always(channel(field(w64))), always(channel(old(w64[:60]))), always(channel(old("9-"))), always(channel(old("when"))), always(channel(field("when.x"))), always(channel(field("olds"))), always(channel(old("old.x")))),
		"comparisons": rules(when(eq(id(), num(1))), when(api.Cond{Kind: api.CondNe, A: num(1), B: old("a")}), when(api.Cond{Kind: api.CondLt, A: field("a"), B: id()}), when(has(old("x"))), when(has(field("x")))),
		"kids":        rules(when(cond(api.CondOr, repeat(del(), 8)...)), when(cond(api.CondAnd, del(), del()))), "8 deep": rules(when(negated(8))),
	}
	for name, p := range valid {
		if !rule.May(p) {
			t.Errorf("%s: not valid", name)
		}
	}
	bad := map[string]api.Program{
		"33 clauses": rules(repeat(always(reject()), 33)...), "nine acts": rules(when(del(), repeat(reject(), 9)...)), "two acts always": rules(api.Clause{Acts: repeat(reject(), 2)}), "no act always": rules(api.Clause{}),
		"a condition always": rules(api.Clause{Cond: del(), Acts: repeat(reject(), 1)}), "a term of a condition always": rules(api.Clause{Cond: api.Cond{A: id()}, Acts: repeat(reject(), 1)}), "when 2": rules(api.Clause{When: 2, Cond: del()}), "when -1": rules(api.Clause{When: -1, Cond: del(), Acts: repeat(reject(), 1)}),
		"no condition": rules(when(api.Cond{})), "condition 9": rules(when(cond(9))), "no act": rules(always(api.Act{})), "act 4": rules(always(api.Act{Kind: 4})),
		"channel without a term": rules(always(api.Act{Kind: api.ActChannel})), "channel of two terms": rules(always(api.Act{Kind: api.ActChannel, A: id(), B: id()})), "grant of one": rules(always(grant(id(), api.Term{}))), "grant of the other": rules(always(grant(api.Term{}, id()))),
		"reject of a term": rules(always(api.Act{Kind: api.ActReject, A: id()})), "reject of another": rules(always(api.Act{Kind: api.ActReject, B: id()})),
		"or of one": rules(when(cond(api.CondOr, del()))), "and of one": rules(when(cond(api.CondAnd, del()))), "or of nine": rules(when(cond(api.CondOr, repeat(del(), 9)...))), "not of none": rules(when(cond(api.CondNot))), "not of two": rules(when(cond(api.CondNot, del(), del()))),
		"deleted with a kid": rules(when(cond(api.CondDel, del()))), "has with a kid": rules(when(api.Cond{Kind: api.CondHas, A: field("a"), Kids: []api.Cond{del()}})), "= with a kid": rules(when(api.Cond{Kind: api.CondEq, A: id(), B: id(), Kids: []api.Cond{del()}})),
		"or with a term": rules(when(api.Cond{Kind: api.CondOr, Kids: repeat(del(), 2), A: id()})), "deleted with a term": rules(when(api.Cond{Kind: api.CondDel, B: id()})), "has of two": rules(when(api.Cond{Kind: api.CondHas, A: field("a"), B: field("b")})),
		"has id": rules(when(has(id()))), "has a value": rules(when(has(num(1)))), "= of one": rules(when(eq(id(), api.Term{}))), "= of the other": rules(when(eq(api.Term{}, id()))), "has a bad field": rules(when(has(field("or")))), "9 deep": rules(when(negated(9))), "a bad kid": rules(when(cond(api.CondNot, api.Cond{}))),
		"term 4": rules(always(channel(api.Term{Kind: 4}))), "id with a text": rules(always(channel(api.Term{Kind: api.TermId, Text: "x"}))), "id that is old": rules(always(channel(api.Term{Kind: api.TermId, Old: 1}))), "id with a value": rules(always(channel(api.Term{Kind: api.TermId, Value: value.Number(1)}))),
		"value with a text": rules(always(channel(api.Term{Kind: api.TermValue, Text: "x"}))), "value that is old": rules(always(channel(api.Term{Kind: api.TermValue, Old: 1}))), "a list": rules(always(channel(val(value.List())))), "an object": rules(always(channel(val(api.Value{Kind: api.Object})))),
		"a long text": rules(always(channel(text(strings.Repeat("x", 65))))), "a bad text": rules(always(channel(text("\n")))), "a value of no kind": rules(always(channel(val(api.Value{Kind: -1})))), "null with a text": rules(always(channel(val(api.Value{Text: "x"})))),
		"field with a value": rules(always(channel(api.Term{Kind: api.TermField, Text: "a", Value: value.Number(1)}))), "old 2": rules(always(channel(api.Term{Kind: api.TermField, Text: "a", Old: 2}))), "a field of 65": rules(always(channel(field(w64 + "w")))),
		"an old field of 61": rules(always(channel(old(w64[:61])))), "no field": rules(always(channel(field("")))), "no old field": rules(always(channel(old("")))), "old.-": rules(always(channel(old("-")))), "field with a digit first": rules(always(channel(field("9")))), "field old.x": rules(always(channel(field("old.x")))),
		"too long": rules(repeat(when(del(), repeat(channel(field(w64)), 2)...), 32)...),
	}
	for _, w := range strings.Fields("when channel grant reject or and not has deleted true false null id old") {
		bad["the field "+w] = rules(always(channel(field(w))))
	}
	for name, p := range bad {
		if rule.May(p) {
			t.Errorf("%s: valid", name)
		}
		if s, e := rule.Print(p); e != api.ErrArg || s != "" {
			t.Errorf("%s: %q, %v", name, s, e)
		}
	}
	wide := del()
	for range 7 {
		wide = cond(api.CondOr, repeat(wide, 8)...)
	}
	if rule.May(rules(repeat(when(wide), 32)...)) {
		t.Error("rules of millions of conditions are valid")
	}
}

// sized makes rules whose text has so many bytes, of 3600 or more.
func sized(t *testing.T, size int) api.Program {
	x := text(strings.Repeat("x", 64))
	p := rules(repeat(when(del(), repeat(grant(x, x), 8)...), 3)...)
	s, e := rule.Print(p)
	if e != api.OK {
		t.Fatal(e)
	}
	for left := size - len(s); left > 0; {
		k := min(left, 77)
		if left-k > 0 && left-k < 13 {
			k -= 13
		}
		p.Clauses = append(p.Clauses, always(channel(text(strings.Repeat("y", k-13)))))
		left -= k
	}
	return p
}

func TestLength(t *testing.T) {
	for size := api.MaxRules - 20; size <= api.MaxRules; size++ {
		p := sized(t, size)
		if s, e := rule.Print(p); e != api.OK || len(s) != size || !rule.May(p) {
			t.Errorf("%d bytes: %d, %v", size, len(s), e)
		}
		if q, _, e := rule.Parse(func() string { s, _ := rule.Print(p); return s }()); e != api.OK || !rule.Same(p, q) {
			t.Errorf("%d bytes: %v", size, e)
		}
	}
	for size := api.MaxRules + 1; size < api.MaxRules+5; size++ {
		if s, e := rule.Print(sized(t, size)); e != api.ErrArg || s != "" {
			t.Errorf("%d bytes: %v", size, e)
		}
	}
}

func TestSameAndOwn(t *testing.T) {
	p, _, _ := rule.Parse(`when a = 1 or not ( b < "x" and has c ) { channel id ; grant old.u "g" ; } reject ;`)
	changes := []func(p *api.Program){
		func(p *api.Program) { p.Clauses = p.Clauses[:1] }, func(p *api.Program) { p.Clauses[1].When = 1 }, func(p *api.Program) { p.Clauses[0].Acts = p.Clauses[0].Acts[:1] },
		func(p *api.Program) { p.Clauses[1].Acts[0].Kind = 9 }, func(p *api.Program) { p.Clauses[0].Acts[0].A.Kind = 9 }, func(p *api.Program) { p.Clauses[0].Acts[1].B.Value.Text = "h" },
		func(p *api.Program) { p.Clauses[0].Acts[1].A.Old = 0 }, func(p *api.Program) { p.Clauses[0].Cond.Kind = 9 }, func(p *api.Program) { p.Clauses[0].Cond.Kids[0].A.Text = "z" },
		func(p *api.Program) { p.Clauses[0].Cond.Kids[0].B.Value.Num = 2 }, func(p *api.Program) { p.Clauses[0].Cond.Kids[1].Kids[0].Kids[0].A.Text = "z" }, func(p *api.Program) { p.Clauses[0].Cond.Kids = p.Clauses[0].Cond.Kids[:1] },
		func(p *api.Program) { p.Clauses[0].Acts[1].A.Value = value.List(value.Number(1)) }, func(p *api.Program) { p.Clauses[0].Cond.Kids[1].Kids[0].Kids[1].B.Value = value.List() }}
	before := rule.Own(p)
	for i, change := range changes {
		q := rule.Own(p)
		if !rule.Same(p, q) {
			t.Fatal("Own differs")
		}
		if change(&q); rule.Same(p, q) || rule.Same(q, p) {
			t.Errorf("change %d: the same", i)
		}
		if !rule.Same(p, before) {
			t.Fatalf("change %d: Own shares", i)
		}
	}
	l := rules(always(channel(val(value.List(value.Number(1))))))
	q := rule.Own(l)
	q.Clauses[0].Acts[0].A.Value.List[0].Num = 2
	if l.Clauses[0].Acts[0].A.Value.List[0].Num != 1 {
		t.Error("Own shares a value")
	}
	if !rule.Same(api.Program{}, rules()) || !rule.Same(api.Program{}, api.Program{Clauses: []api.Clause{}}) {
		t.Error("nil and empty differ")
	}
}

func TestPrint(t *testing.T) {
	a, b, c := has(field("a")), has(field("b")), has(field("c"))
	or, and := cond(api.CondOr, a, b), cond(api.CondAnd, a, b)
	for want, x := range map[string]api.Cond{
		"has a": a, "has old.a": has(old("a")), "deleted": del(), "has a or has b": or, "has a and has b": and, "not has a": cond(api.CondNot, a), "not not has a": cond(api.CondNot, cond(api.CondNot, a)),
		"not ( has a or has b )": cond(api.CondNot, or), "not ( has a and has b )": cond(api.CondNot, and), "( has a or has b ) and has c": cond(api.CondAnd, or, c), "has c and ( has a and has b )": cond(api.CondAnd, c, and),
		"( has a or has b ) or has c": cond(api.CondOr, or, c), "has a and has b or has c": cond(api.CondOr, and, c), "not has a or not has b": cond(api.CondOr, cond(api.CondNot, a), cond(api.CondNot, b)), "not has a and has b": cond(api.CondAnd, cond(api.CondNot, a), b),
		`id = "x\"y"`: eq(id(), text(`x"y`)), "-1 != null": {Kind: api.CondNe, A: num(-1), B: val(api.Value{})}, "true < false": {Kind: api.CondLt, A: val(api.Value{Kind: api.True}), B: val(api.Value{Kind: api.False})},
	} {
		if s, e := rule.Print(rules(when(x))); e != api.OK || s != "when "+want+" { }" {
			t.Errorf("%s: %s, %v", want, s, e)
		}
		if p, _, e := rule.Parse("when " + want + " { }"); e != api.OK || !rule.Same(p, rules(when(x))) {
			t.Errorf("%s: %v, %v", want, p, e)
		}
	}
	p := rules(always(channel(old("9"))), when(del(), reject(), grant(field("u"), num(7))), always(reject()))
	if s, e := rule.Print(p); e != api.OK || s != "channel old.9 ; when deleted { reject ; grant u 7 ; } reject ;" {
		t.Errorf("%s, %v", s, e)
	}
	if s, e := rule.Print(rules()); e != api.OK || s != "" {
		t.Errorf("%q, %v", s, e)
	}
}

func TestParse(t *testing.T) {
	bc := cond(api.CondNot, cond(api.CondAnd, api.Cond{Kind: api.CondLt, A: field("b"), B: text("x")}, has(field("c"))))
	for s, want := range map[string]api.Program{
		"": rules(), " # nothing\n": rules(), `channel "all" ;`: rules(always(channel(text("all")))),
		`when a = 1 or not ( b < "x" and has c ) { reject ; }`: rules(when(cond(api.CondOr, eq(field("a"), num(1)), bc), reject())),
		"when((deleted)){}": rules(when(del())), "when deleted{reject;reject;}reject;": rules(when(del(), reject(), reject()), always(reject())),
		"when (deleted or deleted) or deleted {}":                rules(when(cond(api.CondOr, cond(api.CondOr, del(), del()), del()))),
		"when deleted or deleted or deleted {}":                  rules(when(cond(api.CondOr, del(), del(), del()))),
		"when deleted and deleted and (deleted and deleted) {}":  rules(when(cond(api.CondAnd, del(), del(), cond(api.CondAnd, del(), del())))),
		"when deleted or deleted and not deleted {}":             rules(when(cond(api.CondOr, del(), cond(api.CondAnd, del(), cond(api.CondNot, del()))))),
		"grant old.when.x ors ;":                                 rules(always(grant(old("when.x"), field("ors")))),
		"channel null; channel true; channel false; channel -3;": rules(always(channel(val(api.Value{}))), always(channel(val(api.Value{Kind: api.True}))), always(channel(val(api.Value{Kind: api.False}))), always(channel(num(-3)))),
	} {
		p, at, e := rule.Parse(s)
		if e != api.OK || at != 0 || !rule.Same(p, want) || !rule.May(p) {
			t.Errorf("%q: %v, %d, %v", s, p, at, e)
		}
	}
}

func TestParseFails(t *testing.T) {
	for s, want := range map[string]int{
		"when a { }": 7, "channel ;": 8, "grant id ;": 9, "reject": 6, "reject  ": 8, "reject # c": 10, "when": 4, "when deleted": 12, "when deleted {": 14, "when deleted { reject": 21, "when deleted { reject ;": 23,
		"x": 0, ";": 0, "{": 0, "id ;": 0, "1": 0, `"when" deleted { }`: 0, `"reject" ;`: 0, "reject ; }": 9, "reject reject ;": 7, "when deleted ; { }": 13, "when deleted reject ;": 13, "when deleted { when deleted { } }": 15, "when deleted { x }": 15,
		"channel or ;": 8, "channel old ;": 8, "channel when ;": 8, "channel ( a ) ;": 8, "channel a b ;": 10, "grant a b c ;": 10, "channel = ;": 8, "when has { }": 9, "when has id { }": 9, "when has 1 { }": 9, "when has deleted { }": 9, "when has \"x\" { }": 9,
		"when not { }": 9, "when ( deleted { }": 15, "when ( ) { }": 7, "when deleted ) { }": 13, "when deleted or { }": 16, "when or deleted { }": 5, "when deleted deleted { }": 13, "when a = { }": 9, "when = a { }": 5, "when a ! = b { }": 7, "when a = b = c { }": 11, "when a < b < c { }": 11,
		"when a and b = 1 { }": 7, "when not a { }": 11, "when id { }": 8, "when a = not b { }": 9, "when a == b { }": 8, "channel 01 ;": 8, "when deleted { reject ; } }": 26, "reject ; @": 9, "when { }": 5, "grant grant a ;": 6, "deleted": 0, "or": 0, "when a = 1": 10, "when a": 6, "when (": 6,
	} {
		if p, at, e := rule.Parse(s); e != api.ErrForm || at != want || len(p.Clauses) != 0 {
			t.Errorf("%q: %v, %d, %v, not at %d", s, p, at, e, want)
		}
	}
	for name, s := range map[string]string{"33 clauses": strings.Repeat("reject;", 33), "nine acts": "when deleted {" + strings.Repeat("reject;", 9) + "}", "nine kids": "when deleted" + strings.Repeat(" or deleted", 8) + "{}",
		"nine deep":             "when " + strings.Repeat("not ", 8) + "deleted {}",
		"too long when printed": strings.Repeat("when deleted{"+strings.Repeat("grant\"\"\"\";", 8)+"}", 32)} {
		p, at, e := rule.Parse(s)
		if e != api.ErrLong || at != 0 || len(p.Clauses) != 0 {
			t.Errorf("%s: %d, %v", name, at, e)
		}
	}
	if _, at, e := rule.Parse("x " + strings.Repeat(" ", api.MaxRules)); e != api.ErrLong || at != 0 {
		t.Errorf("a long source: %d, %v", at, e)
	}
	if p, _, e := rule.Parse("when " + strings.Repeat("(", 1000) + "deleted" + strings.Repeat(")", 1000) + "{}"); e != api.OK || !rule.Same(p, rules(when(del()))) {
		t.Errorf("many parentheses: %v", e)
	}
	if _, _, e := rule.Parse("when " + strings.Repeat("not ", 7) + "deleted {}"); e != api.OK {
		t.Errorf("eight deep: %v", e)
	}
}

func randomTerm(r *rand.Rand) api.Term {
	return []api.Term{field("a"), field("b.c-"), old("x"), old("old.9"), id(), num(-1), text(""), text("\"\\ #"), val(api.Value{}), val(api.Value{Kind: api.True})}[r.Intn(10)]
}

func randomCond(r *rand.Rand, depth int) api.Cond {
	k := 1 + r.Intn(8)
	if depth == 1 {
		k = 4 + r.Intn(5)
	}
	c := api.Cond{Kind: k}
	switch k {
	case api.CondOr, api.CondAnd:
		for range 2 + r.Intn(3) {
			c.Kids = append(c.Kids, randomCond(r, depth-1))
		}
	case api.CondNot:
		c.Kids = []api.Cond{randomCond(r, depth-1)}
	case api.CondEq, api.CondNe, api.CondLt:
		c.A, c.B = randomTerm(r), randomTerm(r)
	case api.CondHas:
		c.A = []api.Term{field("q"), old("when")}[r.Intn(2)]
	}
	return c
}

func randomRules(r *rand.Rand, most int) api.Program {
	var p api.Program
	for range r.Intn(most) {
		act := []api.Act{channel(randomTerm(r)), grant(randomTerm(r), randomTerm(r)), reject()}[r.Intn(3)]
		if r.Intn(2) == 0 {
			p.Clauses = append(p.Clauses, always(act))
		} else {
			p.Clauses = append(p.Clauses, when(randomCond(r, 3), repeat(act, r.Intn(3))...))
		}
	}
	return p
}

func TestRoundTripAndConcatenation(t *testing.T) {
	r := rand.New(rand.NewSource(1))
	for range 500 {
		p, q := randomRules(r, 5), randomRules(r, 5)
		s, e := rule.Print(p)
		u, f := rule.Print(q)
		if e != api.OK || f != api.OK {
			continue
		}
		got, at, e := rule.Parse(s)
		if e != api.OK || at != 0 || !rule.Same(got, p) {
			t.Fatalf("%s: %v, %v", s, got, e)
		}
		both := api.Program{Clauses: append(append([]api.Clause{}, p.Clauses...), q.Clauses...)}
		got, _, e = rule.Parse(s + "\n" + u)
		if rule.May(both) && (e != api.OK || !rule.Same(got, both)) {
			t.Fatalf("%s and %s: %v", s, u, e)
		}
		words := strings.Fields(s)
		if len(words) > 0 {
			words[r.Intn(len(words))] = strings.Fields("when ( ) { } ; not or = a 1 has")[r.Intn(12)]
			s = strings.Join(words, " ")
			if got, at, e := rule.Parse(s); e == api.OK {
				p, _ := rule.Print(got)
				if again, _, e := rule.Parse(p); !rule.May(got) || e != api.OK || !reflect.DeepEqual(rule.Own(got), rule.Own(again)) {
					t.Fatalf("%s is printed as %s", s, p)
				}
			} else if at < 0 || at > len(s) {
				t.Fatalf("%s: %d", s, at)
			}
		}
	}
}

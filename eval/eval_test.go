package eval_test

import (
	"fmt"
	"math/rand"
	"reflect"
	"slices"
	"strings"
	"testing"

	"tidewrack/api"
	"tidewrack/eval"
	"tidewrack/rule"
	"tidewrack/value"
)

func parse(t *testing.T, s string) api.Value {
	t.Helper()
	v, e := value.Parse(s)
	if e != api.OK {
		t.Fatalf("%s: %v", s, e)
	}
	return v
}

func rules(t *testing.T, s string) api.Program {
	t.Helper()
	p, at, e := rule.Parse(s)
	if e != api.OK {
		t.Fatalf("%s: %v at %d", s, e, at)
	}
	return p
}

// told is a ruling as a text.
func told(r api.Ruling, e api.Errno) string {
	if e != api.OK {
		if len(r.Channels) > 0 || len(r.Grants) > 0 || r.Spent != 0 {
			return "an error, and more"
		}
		return fmt.Sprint("error ", int(e))
	}
	s := strings.Join(r.Channels, ",") + ";"
	for _, g := range r.Grants {
		s += g.User + ":" + g.Channel + ","
	}
	return fmt.Sprint(s, r.Spent)
}

func run(t *testing.T, source, old, new string, deleted int) string {
	t.Helper()
	return told(eval.Run(rules(t, source), "doc", parse(t, old), parse(t, new), deleted, api.MaxFuel))
}

func TestName(t *testing.T) {
	for _, s := range []string{"a", "!", "~", "a-b_c,{}\\#", strings.Repeat("n", 24)} {
		if !eval.Name(s) {
			t.Errorf("%q: no name", s)
		}
	}
	for _, s := range []string{"", " ", "a b", "a.b", ".", "\"", "a\"", "\x7f", "\x1f", "é", "a\n", strings.Repeat("n", 25)} {
		if eval.Name(s) {
			t.Errorf("%q: a name", s)
		}
	}
}

func TestNames(t *testing.T) {
	for s, want := range map[string][]string{"null": nil, "1": nil, `"a"`: {"a"}, `"a b"`: nil, `""`: nil, `["b","a","b",1,"a.b",["c"],null,"c"]`: {"b", "a", "c"}, "[]": nil, `{"a":"b"}`: nil, "true": nil, `[{"a":"b"}]`: nil} {
		if l := eval.Names(parse(t, s)); !slices.Equal(l, want) {
			t.Errorf("%s: %v", s, l)
		}
	}
	if l := eval.Names(api.Value{Kind: 9, Text: "a", List: []api.Value{value.Text("b")}}); len(l) != 0 {
		t.Errorf("%v", l)
	}
	if l := eval.Names(value.List(value.Text("a"), value.Text("\n"), value.Text(strings.Repeat("x", 600)))); !slices.Equal(l, []string{"a"}) {
		t.Errorf("%v", l)
	}
}

func TestTerm(t *testing.T) {
	old, body := parse(t, `{"a":"old","o":[1]}`), parse(t, `{"a":"new","l":[5,{"x":6}]}`)
	for s, want := range map[string]string{"a": `"new"`, "old.a": `"old"`, "l.1.x": "6", "l.1": `{"x":6}`, "o": "null", "old.o": "[1]", "old.l": "null", "l.9": "null", "a.b": "null", "id": `"me"`, "null": "null", "true": "true", "false": "false", "-7": "-7", `"q"`: `"q"`} {
		p := rules(t, "channel "+s+" ;")
		if got, _ := value.Print(eval.Term(p.Clauses[0].Acts[0].A, "me", old, body)); got != want {
			t.Errorf("%s: %s", s, got)
		}
	}
	for _, x := range []api.Term{{}, {Kind: 4, Value: value.Number(1)}, {Kind: -1, Text: "a"}, {Kind: api.TermField}, {Kind: api.TermField, Text: ".."}} {
		if v := eval.Term(x, "me", old, body); !value.Same(v, api.Value{}) {
			t.Errorf("%v: %v", x, v)
		}
	}
	bad := api.Value{Kind: api.Object, Keys: []string{"a"}}
	if v := eval.Term(api.Term{Kind: api.TermField, Text: "a"}, "me", old, bad); !value.Same(v, api.Value{}) {
		t.Errorf("in a bad body: %v", v)
	}
	x := api.Term{Kind: api.TermValue, Value: value.List(value.Number(1))}
	eval.Term(x, "", old, body).List[0].Num = 2
	eval.Term(api.Term{Kind: api.TermField, Text: "l"}, "", old, body).List[0].Num = 2
	if x.Value.List[0].Num != 1 || body.List[1].List[0].Num != 5 {
		t.Error("Term shares")
	}
}

func TestRun(t *testing.T) {
	example := `when type = "post" { channel tags ; grant owner "posts" ; }  when deleted { channel "bin" ; }`
	post := `{"owner":"u1","tags":["a","b","a"],"type":"post"}`
	for _, c := range []struct {
		source, old, new string
		deleted          int
		want             string
	}{
		{example, "null", post, 0, "a,b;u1:posts,11"}, {example, "null", "null", 1, "bin;8"}, {example, "null", post, 1, "a,b,bin;u1:posts,13"},
		{"reject ; " + example, "null", post, 0, "error 9"}, {"", "null", "1", 0, ";0"}, {"channel \"c\" ; reject ;", "null", "null", 0, "error 9"},
		{"channel id ;", "null", "null", 0, "doc;3"}, {"channel \"z\" ; channel \"a\" ; channel \"z\" ;", "null", "null", 0, "a,z;9"}, {"channel a ;", "null", `{"a":"x y"}`, 0, ";3"}, {"channel a ;", "null", `{"a":7}`, 0, ";3"},
		{"grant u c ;", "null", `{"c":["d","c"],"u":["v","u","v"]}`, 0, ";u:c,u:d,v:c,v:d,4"}, {"grant u c ;", "null", `{"c":[],"u":["v"]}`, 0, ";4"},
		{"channel old.c ; grant old.u c ;", `{"c":"o","u":"w"}`, `{"c":"n","u":"x"}`, 0, "o;w:n,7"},
		{`when a = 1 { channel "y" ; }`, "null", `{"a":1}`, 0, "y;6"}, {`when a = 1 { channel "y" ; }`, "null", `{"a":2}`, 0, ";4"}, {`when a = b { channel "y" ; }`, "null", `{"a":[1,{}],"b":[1,{}]}`, 0, "y;6"}, {`when a = b { channel "y" ; }`, "null", "null", 0, "y;6"},
		{`when a != 1 { channel "y" ; }`, "null", `{"a":1}`, 0, ";4"}, {`when a != 1 { channel "y" ; }`, "null", `{"a":"1"}`, 0, "y;6"},
		{`when a < 2 { channel "y" ; }`, "null", `{"a":1}`, 0, "y;6"}, {`when a < 2 { channel "y" ; }`, "null", `{"a":2}`, 0, ";4"}, {`when a < 2 { channel "y" ; }`, "null", `{"a":"1"}`, 0, ";4"}, {`when a < 2 { channel "y" ; }`, "null", "null", 0, "y;6"}, {`when id < "dod" { channel "y" ; }`, "null", "null", 0, "y;6"},
		{`when has a { channel "y" ; }`, "null", `{"a":null}`, 0, "y;4"}, {`when has a.0 { channel "y" ; }`, "null", `{"a":[]}`, 0, ";2"}, {`when has old.a { channel "y" ; }`, `{"a":1}`, "null", 0, "y;4"}, {`when has a { channel "y" ; }`, `{"a":1}`, "null", 0, ";2"},
		{`when deleted { channel "y" ; }`, "null", "null", 0, ";2"}, {`when not deleted { channel "y" ; }`, "null", "null", 0, "y;5"}, {`when not deleted { channel "y" ; }`, "null", "null", 1, ";3"},
		{`when deleted or has a or has b { channel "y" ; }`, "null", `{"a":1}`, 0, "y;6"}, {`when deleted or has a { channel "y" ; }`, "null", `{"a":1}`, 1, "y;5"}, {`when deleted or has a { channel "y" ; }`, "null", "1", 0, ";4"},
		{`when deleted and has a { channel "y" ; }`, "null", `{"a":1}`, 0, ";3"}, {`when deleted and has a { channel "y" ; }`, "null", `{"a":1}`, 1, "y;6"}, {`when deleted and has a and has b { channel "y" ; }`, "null", "1", 1, ";4"},
		{"when deleted { reject ; }", "null", "null", 0, ";2"}, {"when deleted { reject ; }", "null", "null", 1, "error 9"}, {"when deleted { }", "null", "null", 1, ";2"},
		{"channel a ;", "null", `{"a":["1","2","3","4","5","6","7","8","1"]}`, 0, "1,2,3,4,5,6,7,8;3"}, {"channel a ;", "null", `{"a":["1","2","3","4","5","6","7","8","9"]}`, 0, "error 6"}, {`channel a ; channel "9" ;`, "null", `{"a":["1","2","3","4","5","6","7","8"]}`, 0, "error 6"},
		{`channel a ; channel "8" ;`, "null", `{"a":["1","2","3","4","5","6","7","8"]}`, 0, "1,2,3,4,5,6,7,8;6"}, {"channel a ; reject ;", "null", `{"a":["1","2","3","4","5","6","7","8","9"]}`, 0, "error 6"}, {"reject ; channel a ;", "null", `{"a":["1","2","3","4","5","6","7","8","9"]}`, 0, "error 9"},
		{"grant a a ;", "null", `{"a":["1","2","3","4"]}`, 0, ";1:1,1:2,1:3,1:4,2:1,2:2,2:3,2:4,3:1,3:2,3:3,3:4,4:1,4:2,4:3,4:4,4"}, {`grant a a ; grant "1" "4" ;`, "null", `{"a":["1","2","3","4"]}`, 0, ";1:1,1:2,1:3,1:4,2:1,2:2,2:3,2:4,3:1,3:2,3:3,3:4,4:1,4:2,4:3,4:4,8"},
		{`grant a a ; grant "1" "5" ;`, "null", `{"a":["1","2","3","4"]}`, 0, "error 6"}, {"grant a a ;", "null", `{"a":["1","2","3","4","5"]}`, 0, "error 6"},
	} {
		if got := run(t, c.source, c.old, c.new, c.deleted); got != c.want {
			t.Errorf("%s of %s, %s, %d: %s, not %s", c.source, c.old, c.new, c.deleted, got, c.want)
		}
	}
}

func TestRunArguments(t *testing.T) {
	p := rules(t, "channel id ;")
	bad := value.Text("\n")
	for name, c := range map[string]struct {
		p             api.Program
		id            string
		old, new      api.Value
		deleted, fuel int
	}{"bad rules": {api.Program{Clauses: []api.Clause{{}}}, "a", api.Value{}, api.Value{}, 0, 9}, "no id": {p, "", api.Value{}, api.Value{}, 0, 9}, "id with a dot": {p, "a.b", api.Value{}, api.Value{}, 0, 9}, "id with a quote": {p, "a\"", api.Value{}, api.Value{}, 0, 9},
		"bad old": {p, "a", bad, api.Value{}, 0, 9}, "bad new": {p, "a", api.Value{}, bad, 0, 9}, "deleted 2": {p, "a", api.Value{}, api.Value{}, 2, 9}, "deleted -1": {p, "a", api.Value{}, api.Value{}, -1, 9},
		"fuel -1": {p, "a", api.Value{}, api.Value{}, 0, -1}, "fuel 1001": {p, "a", api.Value{}, api.Value{}, 0, 1001}} {
		if got := told(eval.Run(c.p, c.id, c.old, c.new, c.deleted, c.fuel)); got != "error 1" {
			t.Errorf("%s: %s", name, got)
		}
	}
	if got := told(eval.Run(p, "a", api.Value{}, api.Value{}, 0, 2)); got != "error 10" {
		t.Errorf("%s", got)
	}
	if got := told(eval.Run(api.Program{}, "a", api.Value{}, api.Value{}, 1, 0)); got != ";0" {
		t.Errorf("%s", got)
	}
	many := rules(t, "when "+strings.Repeat("(has a or has a or has a or has a or has a or has a or has a or has a) and ", 7)+"has a { }"+strings.Repeat(" when not not deleted { }", 31))
	if got := told(eval.Run(many, "a", api.Value{}, api.Value{}, 0, api.MaxFuel)); got != fmt.Sprint(";", 1+1+1+8+31*4) {
		t.Errorf("%s", got)
	}
}

func random(r *rand.Rand, depth int) string {
	k := r.Intn(6)
	if depth == 0 {
		k = 3 + r.Intn(3)
	}
	a, b := []string{"a", "b", "old.a", "id", "1", `"x"`, "null"}[r.Intn(7)], []string{"a", "b.0", "old.b", "2"}[r.Intn(4)]
	switch k {
	case 0:
		return "( " + random(r, depth-1) + " or " + random(r, depth-1) + " )"
	case 1:
		return "( " + random(r, depth-1) + " and " + random(r, depth-1) + " )"
	case 2:
		return "not " + random(r, depth-1)
	case 3:
		return "has " + []string{"a", "old.b", "b.0"}[r.Intn(3)]
	case 4:
		return "deleted"
	}
	return a + []string{" = ", " != ", " < "}[r.Intn(3)] + b
}

func source(r *rand.Rand) string {
	s := ""
	for range 1 + r.Intn(3) {
		act := []string{"channel a ;", "channel old.b ;", "grant a b ;", `grant "u" id ;`}[r.Intn(4)]
		if r.Intn(3) > 0 {
			act = "when " + random(r, 2) + " { " + act + " }"
		}
		s += act + "\n"
	}
	return s
}

func TestFuelOldBodyAndConcatenation(t *testing.T) {
	r := rand.New(rand.NewSource(1))
	bodies := []api.Value{{}, parse(t, `{"a":1,"b":["x","y"]}`), parse(t, `{"a":["p","q"],"b":"x"}`), parse(t, `{"b":[2]}`), parse(t, "2")}
	for range 1000 {
		one, two := source(r), source(r)
		p, q := rules(t, one), rules(t, two)
		old, new, deleted := bodies[r.Intn(5)], bodies[r.Intn(5)], r.Intn(2)
		a, e := eval.Run(p, "d", old, new, deleted, api.MaxFuel)
		b, f := eval.Run(q, "d", old, new, deleted, api.MaxFuel)
		if e != api.OK || f != api.OK {
			t.Fatalf("%s: %v, %v", one, e, f)
		}
		if got := told(eval.Run(p, "d", old, new, deleted, a.Spent)); got != told(a, api.OK) {
			t.Fatalf("%s with just that fuel: %s", one, got)
		}
		if got := told(eval.Run(p, "d", old, new, deleted, a.Spent-1)); got != "error 10" {
			t.Fatalf("%s with too little: %s", one, got)
		}
		if !strings.Contains(one, "old") {
			if got := told(eval.Run(p, "d", bodies[r.Intn(5)], new, deleted, 999)); got != told(a, api.OK) {
				t.Fatalf("%s by the old body: %s", one, got)
			}
		}
		c, e := eval.Run(rules(t, one+two), "d", old, new, deleted, api.MaxFuel)
		channels := append(slices.Clone(a.Channels), b.Channels...)
		slices.Sort(channels)
		grants := append(slices.Clone(a.Grants), b.Grants...)
		slices.SortFunc(grants, func(x, y api.Grant) int { return strings.Compare(x.User+" "+x.Channel, y.User+" "+y.Channel) })
		want := api.Ruling{Channels: slices.Compact(channels), Grants: slices.Compact(grants), Spent: a.Spent + b.Spent}
		if told(c, e) != told(want, api.OK) {
			t.Fatalf("%s: %s, not %s", one+two, told(c, e), told(want, api.OK))
		}
	}
}

func TestArgumentsAreKept(t *testing.T) {
	p, v := rules(t, `channel a ; grant a old.a ;`), parse(t, `{"a":["y","x"]}`)
	p2, v2 := rule.Own(p), value.Own(v)
	r, _ := eval.Run(p, "d", v, v, 0, 99)
	r.Channels[0], r.Grants[0].User = "z", "z"
	eval.Names(v.List[0])[0] = "z"
	if !rule.Same(p, p2) || !reflect.DeepEqual(v, v2) {
		t.Error("an argument is modified")
	}
}

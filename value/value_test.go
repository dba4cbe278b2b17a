package value_test

import (
	"math"
	"math/rand"
	"reflect"
	"slices"
	"strings"
	"testing"

	"tidewrack/api"
	"tidewrack/value"
)

func object(l ...any) api.Value {
	v := api.Value{Kind: api.Object}
	for i := 0; i < len(l); i += 2 {
		v.Keys = append(v.Keys, l[i].(string))
		v.List = append(v.List, l[i+1].(api.Value))
	}
	return v
}

func nested(depth int) api.Value {
	v := value.List()
	for range depth - 1 {
		v = value.List(v)
	}
	return v
}

func parse(t *testing.T, s string) api.Value {
	t.Helper()
	v, e := value.Parse(s)
	if e != api.OK {
		t.Fatalf("Parse(%q): %v", s, e)
	}
	return v
}

// random makes a valid value, mostly.
func random(r *rand.Rand, depth int) api.Value {
	kind := r.Intn(7)
	if depth <= 1 && kind > api.Text {
		kind = api.Number
	}
	v := api.Value{Kind: kind}
	switch kind {
	case api.Number:
		v.Num = []int64{0, -1, 1, 9, 10, math.MaxInt64, math.MinInt64, int64(r.Intn(7)) - 3}[r.Intn(8)]
	case api.Text:
		for range r.Intn(4) {
			v.Text += string([]byte(" \"\\az~{[,:")[r.Intn(10)])
		}
	case api.List:
		for range r.Intn(3) {
			v.List = append(v.List, random(r, depth-1))
		}
	case api.Object:
		for _, k := range []string{"!", "A", "\\", "a", "aa", "b,", "~"} {
			if r.Intn(3) == 0 {
				v.Keys = append(v.Keys, k)
				v.List = append(v.List, random(r, depth-1))
			}
		}
	}
	return v
}

func TestMay(t *testing.T) {
	k24, k25 := strings.Repeat("k", 24), strings.Repeat("k", 25)
	n := value.Number(1)
	fits := api.Value{Kind: api.Text, Text: strings.Repeat("x", 510)}
	long := value.List()
	for range 255 {
		long.List = append(long.List, n)
	}
	good := map[string]api.Value{
		"null": {}, "false": {Kind: api.False}, "true": {Kind: api.True}, "number": value.Number(math.MinInt64),
		"text": value.Text(" ~"), "no text": value.Text(""), "list": value.List(n, n), "no list": value.List(),
		"empty slices": {Kind: api.Null, List: []api.Value{}, Keys: []string{}},
		"object":       object("a", n, "b", api.Value{}), "no object": object(), "key of 24": object(k24, n),
		"odd keys": object("!", n, "\\", n, "~", n), "8 deep": nested(8), "512 bytes": fits, "511 bytes of list": long,
	}
	for name, v := range good {
		if !value.May(v) {
			t.Errorf("%s: not valid", name)
		}
	}
	bad := map[string]api.Value{
		"kind -1": {Kind: -1}, "kind 7": {Kind: 7},
		"null with num": {Num: 1}, "null with text": {Text: "x"}, "null with list": {List: []api.Value{n}}, "null with keys": {Keys: []string{"a"}},
		"false with num": {Kind: api.False, Num: 1}, "true with text": {Kind: api.True, Text: "x"}, "true with list": {Kind: api.True, List: []api.Value{n}},
		"number with text": {Kind: api.Number, Text: "x"}, "number with list": {Kind: api.Number, List: []api.Value{n}}, "number with keys": {Kind: api.Number, Keys: []string{"a"}},
		"text with num": {Kind: api.Text, Num: 1}, "text with list": {Kind: api.Text, List: []api.Value{n}}, "text with keys": {Kind: api.Text, Keys: []string{"a"}},
		"list with num": {Kind: api.List, Num: 1}, "list with text": {Kind: api.List, Text: "x"}, "list with keys": {Kind: api.List, List: []api.Value{n}, Keys: []string{"a"}},
		"object with num": {Kind: api.Object, Num: 1}, "object with text": {Kind: api.Object, Text: "x"},
		"more keys": {Kind: api.Object, Keys: []string{"a"}}, "fewer keys": {Kind: api.Object, List: []api.Value{n}},
		"byte 31": value.Text("\x1f"), "byte 127": value.Text("\x7f"), "byte 200": value.Text("\xc8"),
		"falling keys": object("b", n, "a", n), "equal keys": object("a", n, "a", n), "empty key": object("", n), "key of 25": object(k25, n),
		"key with blank": object("a b", n), "key with dot": object("a.b", n), "key with quote": object("a\"", n), "key with 127": object("\x7f", n),
		"bad element": value.List(n, api.Value{Kind: 9}), "bad element of object": object("a", value.Text("\n")),
		"9 deep": nested(9), "513 bytes": value.Text(strings.Repeat("x", 511)), "513 bytes by escapes": value.Text(strings.Repeat("x", 509) + "\""),
		"513 bytes of list": value.List(append(long.List, value.Number(12))...),
	}
	for name, v := range bad {
		if value.May(v) {
			t.Errorf("%s: valid", name)
		}
		if s, e := value.Print(v); e != api.ErrArg || s != "" {
			t.Errorf("%s: Print: %q, %v", name, s, e)
		}
	}
	wide := nested(8)
	for range 8 {
		wide = api.Value{Kind: api.List, List: []api.Value{wide, wide, wide, wide, wide, wide, wide, wide}}
	}
	if value.May(wide) {
		t.Error("a value of 8^8 parts is valid")
	}
}

// filled is a list, or an object, whose text has so many bytes.
func filled(t *testing.T, key string, size int) api.Value {
	t.Helper()
	v := value.List(value.Number(1), value.Number(2), value.Text(""))
	if key != "" {
		v = object("#", value.Number(1), key, value.Text(""))
	}
	s, e := value.Print(v)
	if e != api.OK {
		t.Fatal(e)
	}
	v.List[len(v.List)-1].Text = strings.Repeat("x", size-len(s))
	return v
}

func TestLength(t *testing.T) {
	for _, key := range []string{"", "k", "\\\\"} {
		for size, want := range map[int]bool{500: true, 511: true, 512: true, 513: false, 514: false} {
			if v := filled(t, key, size); value.May(v) != want {
				t.Errorf("key %q, %d bytes: %v", key, size, !want)
			}
		}
	}
	for s, want := range map[string]bool{strings.Repeat("\\", 255): true, strings.Repeat("\\", 256): false, strings.Repeat("\"", 255): true, strings.Repeat("\"", 255) + "x": false, strings.Repeat("\\\"", 127) + "xx": true, strings.Repeat("\\\"", 127) + "xxx": false} {
		if value.May(value.Text(s)) != want {
			t.Errorf("%d bytes to be escaped: %v", len(s), !want)
		}
	}
	for n := range 4 {
		// Lists of no element and of one have no comma.
		v := value.List(slices.Repeat([]api.Value{value.List()}, n)...)
		s, _ := value.Print(v)
		v = value.List(v, value.Text(strings.Repeat("x", 512-5-len(s))))
		if s, e := value.Print(v); e != api.OK || len(s) != 512 {
			t.Errorf("%d elements: %d, %v", n, len(s), e)
		}
		v.List[1].Text += "x"
		if value.May(v) {
			t.Errorf("%d elements: 513 bytes are valid", n)
		}
	}
}

func TestSameAndOwn(t *testing.T) {
	v := parse(t, `{"a":[1,"x",{"b":null}],"c":true}`)
	other := []api.Value{{}, {Kind: 9}, {Num: 1}, {Text: "x"}, {Keys: []string{"a"}}, {List: []api.Value{{}}}, {List: []api.Value{{}, {}}},
		parse(t, `{"a":[1,"x",{"b":null}],"c":false}`), parse(t, `{"a":[1,"x",{"d":null}],"c":true}`), v}
	for i, a := range other {
		for k, b := range other {
			if value.Same(a, b) != (i == k) {
				t.Errorf("Same of %d, %d", i, k)
			}
		}
		if !value.Same(value.Own(a), a) {
			t.Errorf("Own of %d differs", i)
		}
	}
	if !value.Same(api.Value{}, api.Value{List: []api.Value{}, Keys: []string{}}) {
		t.Error("nil and empty differ")
	}
	c := value.Own(v)
	c.Keys[0], c.List[0].List[1].Text, c.List[0].List[2].Keys[0], c.List[1].Kind = "z", "z", "z", api.Null
	if s, _ := value.Print(v); s != `{"a":[1,"x",{"b":null}],"c":true}` {
		t.Errorf("Own shares: %s", s)
	}
}

func TestCmp(t *testing.T) {
	texts := []string{"null", "false", "true", "-9223372036854775808", "-2", "0", "9", "10", `""`, `"Z"`, `"a"`, `"aa"`, `"b"`,
		"[]", "[null]", "[null,null]", "[1]", "[1,0]", "[2]", "[[]]", "{}", `{"a":1}`, `{"a":1,"b":0}`, `{"a":1,"c":0}`, `{"a":2}`, `{"aa":0}`, `{"b":0}`, `{"b":[]}`}
	for i, a := range texts {
		for k, b := range texts {
			want := 0
			if i < k {
				want = -1
			} else if i > k {
				want = 1
			}
			if c := value.Cmp(parse(t, a), parse(t, b)); c != want {
				t.Errorf("Cmp(%s, %s) = %d", a, b, c)
			}
		}
	}
	value.Cmp(api.Value{Kind: api.Object, List: []api.Value{{}, {}}}, api.Value{Kind: api.Object, Keys: []string{"a", "b", "c"}, List: []api.Value{{}, {}}})
	value.Cmp(api.Value{Kind: -3}, api.Value{Kind: -3, Keys: []string{"x"}})
}

func TestCmpIsATotalOrder(t *testing.T) {
	r := rand.New(rand.NewSource(1))
	var l []api.Value
	for len(l) < 60 {
		if v := random(r, 3); value.May(v) {
			l = append(l, v)
		}
	}
	for _, a := range l {
		for _, b := range l {
			c := value.Cmp(a, b)
			if c != -value.Cmp(b, a) || (c == 0) != value.Same(a, b) {
				t.Fatalf("%v, %v: %d", a, b, c)
			}
			s, _ := value.Print(a)
			u, _ := value.Print(b)
			if (s == u) != (c == 0) {
				t.Fatalf("%q, %q: %d", s, u, c)
			}
			for _, d := range l {
				if c <= 0 && value.Cmp(b, d) <= 0 && value.Cmp(a, d) > 0 {
					t.Fatalf("not transitive: %v, %v, %v", a, b, d)
				}
			}
		}
	}
}

func TestPrintParse(t *testing.T) {
	for _, s := range []string{"null", "false", "true", "0", "-1", "9223372036854775807", "-9223372036854775808", `""`, `"a b"`, `"\"\\"`,
		"[]", "[1]", "[[],{}]", "{}", `{"a":[1,-2],"b":"x"}`, `{"\\":1}`, `{"!":{"~":null}}`, `"` + strings.Repeat("y", 510) + `"`} {
		v := parse(t, s)
		if p, e := value.Print(v); e != api.OK || p != s || !value.May(v) {
			t.Errorf("%q: %q, %v", s, p, e)
		}
	}
	if v := parse(t, `{"a":[1,-2],"b":"x"}`); !reflect.DeepEqual(v, object("a", value.List(value.Number(1), value.Number(-2)), "b", value.Text("x"))) {
		t.Errorf("%v", v)
	}
	if v := parse(t, `"\"\\"`); v.Text != `"\` {
		t.Errorf("%v", v)
	}
	for _, s := range []string{"", " ", "nul", "nulll", "NULL", "tru", "01", "-0", "00", "+1", "1.0", "1e3", "--1", "-", "9223372036854775808", "-9223372036854775809",
		`"`, `"a`, `a"`, `"\"`, `"\n"`, `"\u0041"`, "\"\x7f\"", "\"\n\"", `"a""`, "[", "]", "[,]", "[1,]", "[,1]", "[1 ]", "[1, 2]", "[1", "[1}", "{", "}", "{]",
		`{"a"}`, `{"a":}`, `{"a":1,}`, `{,"a":1}`, `{a:1}`, `{"a" :1}`, `{"a": 1}`, `{"b":1,"a":2}`, `{"a":1,"a":2}`, `{"":1}`, `{"a.b":1}`, `{"a b":1}`, `{"\"":1}`, `{"\a":1}`, `{"a":1`,
		`{"` + strings.Repeat("k", 25) + `":1}`, "[[[[[[[[[]]]]]]]]]", "1 ", " 1", "1\n", "null,", `"` + strings.Repeat("y", 511) + `"`, strings.Repeat("[", 100000)} {
		if v, e := value.Parse(s); e != api.ErrForm || !value.Same(v, api.Value{}) {
			t.Errorf("Parse(%q): %v, %v", s, v, e)
		}
	}
}

func TestRoundTrip(t *testing.T) {
	r := rand.New(rand.NewSource(2))
	for range 3000 {
		v := random(r, 4)
		s, e := value.Print(v)
		if (e == api.OK) != value.May(v) {
			t.Fatalf("%v: %v", v, e)
		}
		if e != api.OK {
			continue
		}
		w, e := value.Parse(s)
		if e != api.OK || !value.Same(v, w) {
			t.Fatalf("%q: %v, %v", s, w, e)
		}
		b := []byte(s)
		b[r.Intn(len(b))] = []byte("\"\\[]{}:,0a ")[r.Intn(11)]
		if w, e = value.Parse(string(b)); e == api.OK {
			if p, _ := value.Print(w); p != string(b) {
				t.Fatalf("%q is read, and printed as %q", b, p)
			}
		}
	}
}

func TestAt(t *testing.T) {
	v := parse(t, `{"0":"zero","a":[1,-2,{"b":[[7]]}],"b":"x"}`)
	for path, want := range map[string]string{"a.0": "1", "a.1": "-2", "a.2.b.0.0": "7", "a.2": `{"b":[[7]]}`, "b": `"x"`, "0": `"zero"`} {
		x, e := value.At(v, path)
		if s, _ := value.Print(x); e != api.OK || s != want {
			t.Errorf("%s: %s, %v", path, s, e)
		}
	}
	for _, path := range []string{"c", "b.c", "b.0", "a.3", "a.-1", "a.+1", "a.01", "a.00", "a.", ".a", ".", "a..1", "a.x", "a.99999999999999999999", "a.18446744073709551616", "0.0", "A"} {
		if x, e := value.At(v, path); e != api.ErrNone || !value.Same(x, api.Value{}) {
			t.Errorf("%s: %v, %v", path, x, e)
		}
	}
	if _, e := value.At(v, ""); e != api.ErrArg {
		t.Errorf("no path: %v", e)
	}
	if x, e := value.At(api.Value{Kind: api.Object, List: []api.Value{value.Number(1)}}, "a"); e != api.ErrArg || !value.Same(x, api.Value{}) {
		t.Errorf("not valid: %v, %v", x, e)
	}
	if x, e := value.At(parse(t, "[[4]]"), "0.0"); e != api.OK || x.Num != 4 {
		t.Errorf("%v, %v", x, e)
	}
	x, _ := value.At(v, "a")
	x.List[0].Num, x.List[2].Keys[0] = 99, "q"
	if s, _ := value.Print(v); s != `{"0":"zero","a":[1,-2,{"b":[[7]]}],"b":"x"}` {
		t.Errorf("At shares: %s", s)
	}
}

func TestPut(t *testing.T) {
	v := parse(t, `{"b":1,"d":[2]}`)
	for key, want := range map[string]string{"a": `{"a":[9],"b":1,"d":[2]}`, "b": `{"b":[9],"d":[2]}`, "c": `{"b":1,"c":[9],"d":[2]}`, "d": `{"b":1,"d":[9]}`, "e": `{"b":1,"d":[2],"e":[9]}`} {
		x := value.List(value.Number(9))
		w, e := value.Put(v, key, x)
		if s, _ := value.Print(w); e != api.OK || s != want {
			t.Errorf("%s: %s, %v", key, s, e)
		}
		for i := range w.List {
			w.Keys[i] = "z"
			for k := range w.List[i].List {
				w.List[i].List[k].Num = 77
			}
		}
		if s, _ := value.Print(v); s != `{"b":1,"d":[2]}` || x.List[0].Num != 9 {
			t.Errorf("%s: Put changes or shares its arguments: %s, %v", key, s, x)
		}
	}
	roomy := api.Value{Kind: api.Object, Keys: append(make([]string, 0, 9), "a"), List: append(make([]api.Value, 0, 9), value.Number(1))}
	value.Put(roomy, "b", value.Number(2))
	if roomy.Keys[:2][1] != "" || roomy.List[:2][1].Num != 0 {
		t.Error("Put writes to spare capacity")
	}
	big := object("a", value.Text(strings.Repeat("x", 500)))
	for name, c := range map[string]struct {
		v   api.Value
		key string
		x   api.Value
	}{"null": {api.Value{}, "a", value.Number(1)}, "list": {value.List(), "a", value.Number(1)}, "bad object": {api.Value{Kind: api.Object, Num: 1}, "a", value.Number(1)},
		"bad value": {v, "a", value.Text("\n")}, "key with blank": {v, "a b", value.Number(1)}, "no key": {v, "", value.Number(1)}, "key with dot": {v, "a.b", value.Number(1)},
		"long key": {v, strings.Repeat("k", 25), value.Number(1)}, "bad object made good": {object("a", value.Text("\n")), "a", value.Number(1)}, "too long": {big, "b", value.Number(1)}, "too deep": {object(), "a", nested(8)}} {
		if w, e := value.Put(c.v, c.key, c.x); e != api.ErrArg || !value.Same(w, api.Value{}) {
			t.Errorf("%s: %v, %v", name, w, e)
		}
	}
	if _, e := value.Put(object(), "a", nested(7)); e != api.OK {
		t.Errorf("8 deep: %v", e)
	}
	if w, e := value.Put(big, "a", value.Number(1)); e != api.OK || w.List[0].Num != 1 {
		t.Errorf("a long value replaced: %v", e)
	}
}

func TestMade(t *testing.T) {
	if v := value.Number(-7); !reflect.DeepEqual(v, api.Value{Kind: api.Number, Num: -7}) {
		t.Errorf("%v", v)
	}
	if v := value.Text("a"); !reflect.DeepEqual(v, api.Value{Kind: api.Text, Text: "a"}) {
		t.Errorf("%v", v)
	}
	if v := value.List(); v.Kind != api.List || len(v.List) != 0 {
		t.Errorf("%v", v)
	}
	l := []api.Value{value.List(value.Number(1)), value.Text("x")}
	v := value.List(l...)
	v.List[1].Text, v.List[0].List[0].Num = "y", 2
	if l[1].Text != "x" || l[0].List[0].Num != 1 {
		t.Error("List shares")
	}
}

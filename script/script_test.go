package script_test

import (
	"fmt"
	"math/rand"
	"reflect"
	"slices"
	"strings"
	"testing"

	"tidewrack/api"
	"tidewrack/script"
)

const example = `rules "channel c ; grant who c ;"
user u
spoke u 60000
edit 1 g "{\"c\":\"a\",\"who\":\"u\"}"
pull 2
carry
show 2
settle 9
judge
`

const exampleOut = `edit ok 1
pull ok
carry 10
g 1 1 1 {"c":"a","who":"u"}
settle 1 2 0 0 1
judge -1 0
`

// args are the words and their arguments, in the order of the chapter's table.
var args = [][2]string{{"rules", "t"}, {"user", "i"}, {"room", "d"}, {"spoke", "id"}, {"edit", "nit"}, {"delete", "ni"}, {"purge", "ni"}, {"sync", "n"}, {"compact", "n"}, {"pull", "n"}, {"push", "n"}, {"tick", "d"}, {"deliver", "d"}, {"drop", "d"}, {"double", "d"},
	{"crash", "ndd"}, {"fuse", "nddd"}, {"start", "n"}, {"carry", ""}, {"settle", "d"}, {"show", "n"}, {"letters", ""}, {"judge", ""}}

// sample is a valid line of a word.
func sample(word, args string) api.Line {
	l := api.Line{Word: word}
	for _, c := range args {
		switch c {
		case 'n':
			l.Node = 2
		case 'i':
			l.Id = "a"
		case 't':
			l.Text = "1"
		case 'd':
			l.Numbers = append(l.Numbers, int64(len(l.Numbers)+1))
		}
	}
	return l
}

func TestWords(t *testing.T) {
	var want []string
	for _, a := range args {
		want = append(want, a[0])
	}
	l := script.Words()
	if !slices.Equal(l, want) {
		t.Errorf("%v", l)
	}
	l[0] = "x"
	if script.Words()[0] != "rules" {
		t.Error("Words shares")
	}
}

func TestMay(t *testing.T) {
	for _, a := range args {
		l := sample(a[0], a[1])
		if !script.May(l) {
			t.Errorf("%s: not valid", a[0])
		}
		bad := map[string]func(l *api.Line){"another number": func(l *api.Line) { l.Numbers = append(l.Numbers, 1) }, "the word in capitals": func(l *api.Line) { l.Word = strings.ToUpper(l.Word) }, "no word": func(l *api.Line) { l.Word = "" }}
		good := map[string]func(l *api.Line){}
		if strings.Contains(a[1], "n") {
			for _, n := range []int{0, -1, 5} {
				bad[fmt.Sprint("node ", n)] = func(l *api.Line) { l.Node = n }
			}
			good["node 4"] = func(l *api.Line) { l.Node = 4 }
		} else {
			bad["a node"] = func(l *api.Line) { l.Node = 1 }
		}
		if strings.Contains(a[1], "i") {
			for _, s := range []string{"", "a b", "\x7f", strings.Repeat("i", 25)} {
				bad["id "+s] = func(l *api.Line) { l.Id = s }
			}
			for _, s := range []string{"9", "a.b", "\"", "!~", strings.Repeat("i", 24)} {
				good["id "+s] = func(l *api.Line) { l.Id = s }
			}
		} else {
			bad["an id"] = func(l *api.Line) { l.Id = "a" }
		}
		if strings.Contains(a[1], "t") {
			for _, s := range []string{"\n", "\x7f", strings.Repeat("t", 65)} {
				bad["text "+s] = func(l *api.Line) { l.Text = s }
			}
			for _, s := range []string{"", " ", "\"\\", strings.Repeat("t", 64)} {
				good["text "+s] = func(l *api.Line) { l.Text = s }
			}
		} else {
			bad["a text"] = func(l *api.Line) { l.Text = "a" }
		}
		if strings.Contains(a[1], "d") {
			bad["a number less"] = func(l *api.Line) { l.Numbers = l.Numbers[1:] }
			last := len(l.Numbers) - 1
			for _, n := range []int64{1_000_001, -1_000_001, 1 << 62} {
				bad[fmt.Sprint("number ", n)] = func(l *api.Line) { l.Numbers[last] = n }
			}
			for _, n := range []int64{1_000_000, -1_000_000, 0} {
				good[fmt.Sprint("number ", n)] = func(l *api.Line) { l.Numbers[last] = n }
			}
		}
		for what, change := range bad {
			x := sample(a[0], a[1])
			if change(&x); script.May(x) {
				t.Errorf("%s with %q: valid", a[0], what)
			}
			if s, e := script.Print(l, x); e != api.ErrArg || s != "" {
				t.Errorf("%s with %q: %q, %v", a[0], what, s, e)
			}
		}
		for what, change := range good {
			x := sample(a[0], a[1])
			if change(&x); !script.May(x) {
				t.Errorf("%s with %q: not valid", a[0], what)
			}
			s, e := script.Print(x)
			if y, _, f := script.Parse(s); e != api.OK || f != api.OK || len(y) != 1 || !reflect.DeepEqual(y[0], x) {
				t.Errorf("%s with %q: %q, %v", a[0], what, s, f)
			}
		}
	}
}

func TestPrint(t *testing.T) {
	l := []api.Line{{Word: "rules", Text: `say "x\"`}, {Word: "spoke", Id: "u.v-", Numbers: []int64{-5}}, {Word: "edit", Node: 3, Id: "9", Text: ""}, {Word: "delete", Node: 1, Id: "a."}, {Word: "fuse", Node: 4, Numbers: []int64{1, -2, 1000000}}, {Word: "carry"}}
	want := "rules \"say \\\"x\\\\\\\"\"\nspoke u.v- -5\nedit 3 \"9\" \"\"\ndelete 1 \"a.\"\nfuse 4 1 -2 1000000\ncarry\n"
	if s, e := script.Print(l...); e != api.OK || s != want {
		t.Errorf("%q, %v", s, e)
	}
	if s, e := script.Print(); e != api.OK || s != "" {
		t.Errorf("%q, %v", s, e)
	}
}

func TestParse(t *testing.T) {
	l, at, e := script.Parse("# a script\n\n  user\tu # one\r\nspoke \"u\" -3\n \nedit 1 \"when\" \"{}\"\nshow 4")
	want := []api.Line{{Word: "user", Id: "u"}, {Word: "spoke", Id: "u", Numbers: []int64{-3}}, {Word: "edit", Node: 1, Id: "when", Text: "{}"}, {Word: "show", Node: 4}}
	if e != api.OK || at != 0 || !reflect.DeepEqual(l, want) {
		t.Errorf("%v, %d, %v", l, at, e)
	}
	for s, want := range map[string]int{"x": 1, "carry\nx\ny": 2, "carry 1": 1, "carry\n\n#\nshow": 4, "show 0": 1, "show 5": 1, "show a": 1, "show \"1\"": 1, "show 1 1": 1, "user 1": 1, "user ;": 1, "user \"a b\"": 1, "user": 1, "rules x": 1, "rules 1": 1, "tick x": 1, "tick \"1\"": 1, "tick 1000001": 1, "tick -1000001": 1,
		"\"carry\"": 1, "1": 1, ";": 1, "carry @": 1, "carry\n\"": 2, "tick 01": 1, "edit 1 a": 1, "edit a 1 \"\"": 1, "crash 1 2": 1, "show 4294967297": 1, "show -1": 1, "carry ;": 1, "user aaaaaaaaaaaaaaaaaaaaaaaaa": 1, "Carry": 1, "show 1 # ok\nshow 1 ; # no": 2} {
		if l, at, e := script.Parse(s); e != api.ErrForm || at != want || len(l) != 0 {
			t.Errorf("%q: %v, %d, %v", s, l, at, e)
		}
	}
	for _, s := range []string{"", "\n", "\n\n#\n  ", "carry", "carry\n", strings.Repeat("#", api.MaxScript), strings.Repeat("carry\n", 200)} {
		if l, at, e := script.Parse(s); e != api.OK || at != 0 || len(l) != strings.Count(s+"\n", "carry") {
			t.Errorf("%.20q: %d, %v", s, at, e)
		}
	}
	if l, at, e := script.Parse("x" + strings.Repeat("#", api.MaxScript)); e != api.ErrLong || at != 0 || len(l) != 0 {
		t.Errorf("%d, %v", at, e)
	}
	if l, at, e := script.Parse(strings.Repeat("carry\n", 201)); e != api.ErrLong || at != 0 || len(l) != 0 {
		t.Errorf("%d, %v", at, e)
	}
	if _, at, e := script.Parse(strings.Repeat("carry\n", 201) + "x"); e != api.ErrForm || at != 202 {
		t.Errorf("%d, %v", at, e)
	}
}

func runs(t *testing.T, what, s, want string) {
	t.Helper()
	if out, at, e := script.Run(s); e != api.OK || at != 0 || out != want {
		t.Errorf("%s: %s, at %d, %v, not %s", what, out, at, e, want)
	}
}

func fails(t *testing.T, what, s string, at int, want api.Errno) {
	t.Helper()
	if out, n, e := script.Run(s); e != want || n != at || out != "" {
		t.Errorf("%s: %q, at %d, %v", what, out, n, e)
	}
}

const head = "rules \"channel chan ; grant who chan ;\"\nuser u\nspoke u 60000\n"

func TestRun(t *testing.T) {
	runs(t, "the example", example, exampleOut)
	runs(t, "nothing", head, "")
	runs(t, "operations", head+"edit 2 a \"1\"\nedit 2 a \"[2]\"\nshow 2\ndelete 2 a\nshow 2\nedit 2 a \"3\"\npurge 2 q\nsync 2\ncompact 2\npurge 2 a\nshow 2\n",
		"edit ok 1\nedit ok 2\na 2 1 2 [2]\ndelete ok 3\na 3 1 3 deleted\nedit ok 4\npurge 4\nsync ok\ncompact ok\npurge ok\nempty\n")
	runs(t, "values", head+"edit 2 a \"x\"\nedit 3 a \"1\"\nedit 3 a \"x\"\nedit 1 a \"01\"\nshow 3\nshow 2\ndelete 2 a\n", "edit 2\nedit 1\nedit 2\nedit 2\ndown\nempty\ndelete ok 1\n")
	runs(t, "crashes", head+"edit 2 a \"1\"\nsync 2\nedit 2 b \"2\"\ncrash 2 0 0\nshow 2\nedit 2 c \"1\"\ncrash 2 0 0\nstart 2\nstart 2\nshow 2\nfuse 2 -1 0 0\nfuse 2 1 9 0\nedit 2 c \"3\"\nshow 2\nstart 2\nshow 2\njudge\n",
		"edit ok 1\nsync ok\nedit ok 1\ncrash ok\ndown\nedit 12\ncrash 12\nstart ok\nstart 5\na 1 1 1 1\nfuse 1\nfuse ok\nedit 12\ndown\nstart ok\na 1 1 1 1\nc 2 1 1 3\njudge -1 0\n")
	runs(t, "messages", head+"letters\npull 2\npush 2\npull 2\nletters\ndouble 1\ndrop 2\nletters\ndrop 2\ndeliver 3\nletters\ndeliver -1\ntick 2\ntick 0\ntick 101\ntick 1\ncarry\ncarry\n",
		"pull ok\npush ok\npull 5\n1 2 1 14\n2 2 1 14\ndouble ok\ndrop ok\n1 2 1 14\n3 2 1 14\ndrop 4\ndeliver ok\n1 2 1 14\n4 1 2 8\ndeliver 4\ntick ok 3\ntick 1\ntick 1\ntick ok 4\ncarry 9\ncarry 0\n")
	runs(t, "gone", head+"edit 1 g \"{\\\"chan\\\":\\\"c\\\",\\\"who\\\":\\\"u\\\"}\"\nsettle 9\nshow 2\nedit 1 g \"{}\"\nsettle 9\nshow 2\nshow 1\nsettle 0\n",
		"edit ok 1\nsettle 2 2 0 0 1\ng 1 1 1 {\"chan\":\"c\",\"who\":\"u\"}\nedit ok 2\nsettle 2 2 0 0 1\ng 1 gone 1 {\"chan\":\"c\",\"who\":\"u\"}\ng 2 1 2 {}\nsettle 0 0 0 0 0\n")
}

func TestNumbers(t *testing.T) {
	runs(t, "crash", head+"edit 2 a \"1\"\nedit 2 b \"1\"\ncrash 2 1 0\nstart 2\nshow 2\nedit 2 b \"1\"\nedit 2 c \"1\"\ncrash 2 0 9999\nstart 2\nshow 2\n", "edit ok 1\nedit ok 1\ncrash ok\nstart ok\na 1 1 1 1\nedit ok 1\nedit ok 1\ncrash ok\nstart ok\na 1 1 1 1\nb 2 1 1 1\n")
	runs(t, "fuse", head+"fuse 2 2 1 0\nedit 2 a \"1\"\nedit 2 b \"1\"\nstart 2\nshow 2\nfuse 2 1 0 9999\nedit 2 b \"1\"\nstart 2\nfuse 2 1 0 3\nedit 2 c \"1\"\nstart 2\nshow 2\n", "fuse ok\nedit ok 1\nedit 12\nstart ok\na 1 1 1 1\nfuse ok\nedit 12\nstart ok\nfuse ok\nedit 12\nstart ok\na 1 1 1 1\nb 2 1 1 1\n")
	lines, want := "tick 100\npull 2\n", "tick ok 101\npull ok\n"
	for i := 1; i <= 12; i++ {
		lines += fmt.Sprintf("edit 2 a \"%d\"\ndouble 1\n", i)
		want += fmt.Sprintf("edit ok %d\ndouble ok\n", i)
	}
	want += "a 12 1 12 12\n"
	for id := 1; id <= 13; id++ {
		want += fmt.Sprintf("%d 2 1 14\n", id)
	}
	runs(t, "numbers of two digits", head+lines+"show 2\nletters\n", want)
}

func TestConfiguration(t *testing.T) {
	runs(t, "users twice", "user v\nuser u\nuser v\nspoke v 9000\nspoke x 9000\nspoke u 9000\nshow 4\nshow 1", "empty\nempty\n")
	runs(t, "a room", "room 10\nspoke u 10\nedit 1 a \"1\"\nedit 2 a \"1\"\n", "edit 3\nedit 3\n")
	runs(t, "the last room", "room 10\nroom 9000\nspoke u 10\nedit 1 a \"1\"\n", "edit ok 1\n")
	runs(t, "rules of two lines", "rules \"when a = 1 {\"\nrules \"reject ; }\"\nspoke u 9\nedit 1 a \"{\\\"a\\\":1}\"\n", "edit 9\n")
	runs(t, "a comment in rules", "rules \"# reject ;\"\nrules \"channel id ;\"\nspoke u 9\nedit 1 a \"1\"\n", "edit ok 1\n")
	fails(t, "no spoke", "user u\ncarry\n", 2, api.ErrArg)
	fails(t, "nothing", "", 1, api.ErrArg)
	fails(t, "nothing but leading lines", "user u\nroom 9\n", 3, api.ErrArg)
	fails(t, "bad rules", "rules \"x\"\nspoke u 9\n\ncarry\n", 3, api.ErrForm)
	fails(t, "rules that are too long", strings.Repeat("rules \"reject ;\"\n", 33)+"spoke u 9\n", 35, api.ErrForm)
	fails(t, "a bad room", "spoke u 65537\ncarry\n", 2, api.ErrArg)
	fails(t, "five users", "user a\nuser b\nuser c\nuser d\nuser e\nspoke a 9\ncarry\n", 7, api.ErrArg)
	fails(t, "four spokes", strings.Repeat("spoke a 9\n", 4), 5, api.ErrArg)
	fails(t, "a leading line behind", "spoke u 9\ncarry\n\nuser u\n", 3, api.ErrArg)
	fails(t, "no line", "spoke u 9\nx\n", 2, api.ErrForm)
	fails(t, "a long script", strings.Repeat("#", 4097), 0, api.ErrLong)
}

func TestTell(t *testing.T) {
	l, _, _ := script.Parse(example)
	if out, at, e := script.Tell(l...); e != api.OK || at != 0 || out != exampleOut {
		t.Errorf("%s, %d, %v", out, at, e)
	}
	old := fmt.Sprint(l)
	bad := slices.Clone(l)
	bad[4].Node = 9
	bad[6].Node = 9
	if out, at, e := script.Tell(bad...); e != api.ErrArg || at != 5 || out != "" {
		t.Errorf("%q, %d, %v", out, at, e)
	}
	bad = append(slices.Clone(l), l[1], api.Line{})
	if _, at, e := script.Tell(bad...); e != api.ErrArg || at != 10 {
		t.Errorf("%d, %v", at, e)
	}
	many := slices.Repeat([]api.Line{{Word: "x"}}, 201)
	if out, at, e := script.Tell(many...); e != api.ErrLong || at != 0 || out != "" {
		t.Errorf("%d, %v", at, e)
	}
	if _, at, e := script.Tell(many[1:]...); e != api.ErrArg || at != 1 {
		t.Errorf("%d, %v", at, e)
	}
	script.Print(l...)
	room := append(make([]int64, 0, 9), 2)[:1]
	room[:2][1] = 7
	script.Tell(append(slices.Clone(l), api.Line{Word: "tick", Numbers: room})...)
	if room[:2][1] != 7 {
		t.Error("spare capacity is modified")
	}
	if fmt.Sprint(l) != old {
		t.Error("an argument is modified")
	}
}

// random is a script of lines that can be executed.
func random(r *rand.Rand) []api.Line {
	l, _, _ := script.Parse(head + "spoke u 1500\n")
	for range 25 {
		a := args[4+r.Intn(len(args)-4)]
		x := sample(a[0], a[1])
		if x.Node > 0 {
			x.Node = 1 + r.Intn(3)
		}
		if x.Id != "" {
			x.Id = string("abc"[r.Intn(3)])
		}
		if x.Text != "" {
			x.Text = []string{"1", `{"chan":"c","who":"u"}`, "x"}[r.Intn(3)]
		}
		for i := range x.Numbers {
			x.Numbers[i] = int64(r.Intn(5))
		}
		l = append(l, x)
	}
	return l
}

func TestProperties(t *testing.T) {
	r := rand.New(rand.NewSource(1))
	for range 40 {
		l := random(r)
		s, e := script.Print(l...)
		parsed, _, f := script.Parse(s)
		if e != api.OK || f != api.OK || !reflect.DeepEqual(parsed, l) {
			t.Fatalf("round trip: %v, %v", e, f)
		}
		whole, _, e := script.Tell(l...)
		again, _, f := script.Run(s)
		if e != api.OK || f != api.OK || whole != again {
			t.Fatalf("%v, %v", e, f)
		}
		k := 5 + r.Intn(len(l)-4)
		part, _, e := script.Tell(l[:k]...)
		if e != api.OK || !strings.HasPrefix(whole, part) {
			t.Fatalf("the output of %d lines is no prefix", k)
		}
		// Queries may be repeated anywhere.
		for _, q := range []api.Line{{Word: "show", Node: 2}, {Word: "letters"}, {Word: "judge"}} {
			out, _, _ := script.Tell(append(slices.Clone(l[:k]), append([]api.Line{q, q}, l[k:]...)...)...)
			rest := strings.TrimPrefix(whole, part)
			middle, ok := strings.CutSuffix(strings.TrimPrefix(out, part), rest)
			if !ok || middle[:len(middle)/2] != middle[len(middle)/2:] {
				t.Fatalf("%s, asked twice: %q", q.Word, middle)
			}
		}
	}
}

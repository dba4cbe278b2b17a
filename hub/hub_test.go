package hub_test

import (
	"fmt"
	"math/rand"
	"reflect"
	"slices"
	"strings"
	"testing"

	"tidewrack/api"
	"tidewrack/batch"
	"tidewrack/disk"
	"tidewrack/doc"
	"tidewrack/feed"
	"tidewrack/frame"
	"tidewrack/grants"
	"tidewrack/hub"
	"tidewrack/rev"
	"tidewrack/rule"
	"tidewrack/tree"
	"tidewrack/value"
	"tidewrack/views"
)

var none api.Rev

const plain = `channel chan ; grant user see ; when bad = true { reject ; }`

func rules(t *testing.T, s string) api.Program {
	t.Helper()
	p, at, e := rule.Parse(s)
	if e != api.OK {
		t.Fatalf("%s: %v at %d", s, e, at)
	}
	return p
}

func body(t *testing.T, s string) api.Value {
	t.Helper()
	v, e := value.Parse(s)
	if e != api.OK {
		t.Fatalf("%s: %v", s, e)
	}
	return v
}

func made(t *testing.T, capacity int) *disk.Disk {
	t.Helper()
	d, e := disk.New(capacity)
	if e != api.OK {
		t.Fatal(e)
	}
	return d
}

func open(t *testing.T, d *disk.Disk, source string, life uint64, users ...string) *hub.Hub {
	t.Helper()
	h, e := hub.Open(d, api.Hubbing{Rules: rules(t, source), Users: users, Life: life})
	if e != api.OK || h == nil {
		t.Fatalf("Open: %v", e)
	}
	return h
}

func want(t *testing.T, what string, got, want api.Errno) {
	t.Helper()
	if got != want {
		t.Errorf("%s: %v, not %v", what, got, want)
	}
}

// edit writes the document with its winner as the parent.
func edit(t *testing.T, h *hub.Hub, id, text string) api.Rev {
	t.Helper()
	n, _ := doc.Get(h.State(), id, none)
	r, e := h.Edit(id, n.Rev, 0, body(t, text))
	if e != api.OK || r.Gen != n.Rev.Gen+1 {
		t.Fatalf("Edit %s: %v, %v", id, r, e)
	}
	return r
}

func copyOf(t *testing.T, id string, parents []api.Rev, deleted int, text string) api.Copy {
	t.Helper()
	parent := none
	if len(parents) > 0 {
		parent = parents[0]
	}
	r, e := rev.Make(parent, deleted, body(t, text))
	if e != api.OK {
		t.Fatal(e)
	}
	return api.Copy{Id: id, Path: append([]api.Rev{r}, parents...), Deleted: deleted, Body: body(t, text)}
}

func force(t *testing.T, h *hub.Hub, user string, c api.Copy, count int, want api.Errno) {
	t.Helper()
	before, size := h.State(), h.Size()
	n, e := h.Force(user, c)
	if n != count || e != want {
		t.Errorf("Force: %d, %v, not %d, %v", n, e, count, want)
	}
	if e != api.OK && (!batch.SameState(before, h.State()) || h.Size() != size) {
		t.Error("an error changes the hub")
	}
}

// has tells the channels and the grants of a document.
func has(h *hub.Hub, id string) string {
	d, ok := batch.Find(h.State(), id)
	if !ok {
		return "none"
	}
	s := strings.Join(d.Channels, ",") + ";"
	for _, g := range d.Grants {
		s += g.User + ":" + g.Channel + ","
	}
	return s
}

func told(h *hub.Hub, user string) string {
	s := ""
	for _, c := range feed.Changes(h.State(), user, 0, 99) {
		s += fmt.Sprint(c.Id, c.Seq)
		if c.Gone == 1 {
			s += "-" + c.Channel
		}
		s += " "
	}
	return strings.TrimSpace(s)
}

func TestExamples(t *testing.T) {
	h := open(t, made(t, 60000), plain, 1, "u", "v")
	edit(t, h, "g", `{"see":"c","user":"u"}`)
	r := edit(t, h, "a", `{"chan":"c"}`)
	got := h.Told(api.Ask{User: "u", Kind: api.AskChanges, Most: 9, Inc: 3, N: 4})
	if w := (api.Told{Inc: 3, N: 4, Kind: api.AskChanges, Life: 1, Seq: 2, Changes: []api.Change{{Id: "a", Seq: 2, Leaves: []api.Rev{r}}}}); !reflect.DeepEqual(got, w) {
		t.Errorf("%v", got)
	}
	if got := h.Told(api.Ask{User: "w", Kind: api.AskChanges, Most: 9}); got.Why != api.ErrForbidden || got.Kind != api.AskChanges || len(got.Changes) != 0 {
		t.Errorf("%v", got)
	}
	if got := h.Told(api.Ask{User: "u", Kind: api.AskSet, Session: "s", Life: 2}); got.Why != api.ErrState {
		t.Errorf("%v", got)
	}
	edit(t, h, "g", "{}")
	if s := told(h, "u"); s != "a3-c" {
		t.Errorf("%s", s)
	}
}

func TestOpen(t *testing.T) {
	good := api.Hubbing{Rules: rules(t, plain), Users: []string{"a", "b", "c", "d"}, Life: 1}
	for what, change := range map[string]func(h *api.Hubbing){
		"bad rules": func(h *api.Hubbing) { h.Rules = api.Program{Clauses: []api.Clause{{}}} }, "five users": func(h *api.Hubbing) { h.Users = []string{"a", "b", "c", "d", "e"} }, "equal users": func(h *api.Hubbing) { h.Users = []string{"a", "a"} }, "falling users": func(h *api.Hubbing) { h.Users = []string{"b", "a"} },
		"a bad user": func(h *api.Hubbing) { h.Users = []string{""} }, "no life": func(h *api.Hubbing) { h.Life = 0 }, "a life too great": func(h *api.Hubbing) { h.Life = api.MaxCount + 1 }} {
		made := good
		change(&made)
		if h, e := hub.Open(nil, made); h != nil || e != api.ErrArg {
			t.Errorf("%s: %v", what, e)
		}
	}
	if h, e := hub.Open(nil, good); h != nil || e != api.ErrDown {
		t.Errorf("no disk: %v", e)
	}
	good.Life = api.MaxCount
	d := made(t, 1000)
	h, e := hub.Open(d, good)
	if e != api.OK || h.Life() != api.MaxCount || !slices.Equal(h.Users(), good.Users) || h.Size() != 0 || !batch.SameState(h.State(), api.State{}) {
		t.Errorf("%v", e)
	}
	good.Users[0] = "x"
	h.Users()[1] = "x"
	good.Rules.Clauses[0].Acts[0].Kind = api.ActReject
	if h.Users()[0] != "a" || h.Users()[1] != "b" {
		t.Error("the users are shared")
	}
	if _, e := h.Edit("a", none, 0, api.Value{}); e != api.OK {
		t.Errorf("the rules are shared: %v", e)
	}
	if h := open(t, made(t, 100), "", 1); len(h.Users()) != 0 {
		t.Error("no users")
	}
	other := made(t, 100)
	other.Put("log", nil)
	bad, _ := hub.Open(other, api.Hubbing{Life: 1})
	if bad == nil {
		t.Error("an empty log")
	}
}

func TestEdit(t *testing.T) {
	d := made(t, 60000)
	h := open(t, d, `channel chan ; channel old.chan ; when deleted { channel "bin" ; } when n = 9 { reject ; }`, 1, "u")
	r := edit(t, h, "a", `{"chan":"c"}`)
	if has(h, "a") != "c;" {
		t.Error(has(h, "a"))
	}
	r2, e := h.Edit("a", r, 0, body(t, `{"chan":"d"}`))
	if want(t, "Edit", e, api.OK); has(h, "a") != "c,d;" || h.State().Seq != 2 {
		t.Error(has(h, "a"))
	}
	_, e = h.Edit("a", r2, 1, body(t, "null"))
	if want(t, "deleted", e, api.OK); has(h, "a") != "bin,d;" {
		t.Error(has(h, "a"))
	}
	_, e = h.Edit("a", none, 0, body(t, `{"chan":"e"}`))
	if want(t, "again", e, api.OK); has(h, "a") != "e;" {
		t.Error(has(h, "a"))
	}
	before, size := h.State(), h.Size()
	for what, c := range map[string]struct {
		id     string
		parent api.Rev
		text   string
		want   api.Errno
	}{"no name": {"", none, "1", api.ErrArg}, "a name with a dot": {"a.b", none, "1", api.ErrArg}, "a conflict": {"a", none, "1", api.ErrConflict}, "a conflict ahead of the rules": {"a", none, `{"n":9}`, api.ErrConflict}, "rejected": {"b", none, `{"n":9}`, api.ErrReject}, "too many channels": {"b", none, `{"chan":["1","2","3","4","5","6","7","8","9"]}`, api.ErrLong}} {
		r, e := h.Edit(c.id, c.parent, 0, body(t, c.text))
		if want(t, what, e, c.want); r != none {
			t.Errorf("%s: %v", what, r)
		}
	}
	if !batch.SameState(h.State(), before) || h.Size() != size || d.Size("log") != size {
		t.Error("an error changes the hub")
	}
	costly := open(t, made(t, 60000), strings.Repeat("when ("+strings.Repeat("a < a or ", 7)+"a < a) or ("+strings.Repeat("a < a or ", 7)+"a < a) { }", 25), 1)
	_, e = costly.Edit("a", none, 0, api.Value{})
	want(t, "fuel", e, api.ErrFuel)
}

func TestWinners(t *testing.T) {
	h := open(t, made(t, 60000), `channel chan ; when old.chan = "x" { channel "after-x" ; } when chan = "no" { reject ; } when deleted { channel "bin" ; }`, 1, "u")
	// Two leaves of the first generation.
	one := copyOf(t, "a", nil, 0, `{"chan":"x"}`)
	two := copyOf(t, "a", nil, 0, `{"chan":"y"}`)
	low, high, lowChan, highChan := one, two, "x", "y"
	if rev.Cmp(one.Path[0], two.Path[0]) > 0 {
		low, high, lowChan, highChan = two, one, "y", "x"
	}
	force(t, h, "u", high, 1, api.OK)
	if has(h, "a") != highChan+";" {
		t.Error(has(h, "a"))
	}
	force(t, h, "u", low, 1, api.OK)
	if has(h, "a") != highChan+";" || h.State().Seq != 2 {
		t.Errorf("a leaf that does not win: %s", has(h, "a"))
	}
	// A leaf that is deleted lets the other one win: it is judged with null as the old body.
	_, e := h.Edit("a", high.Path[0], 1, api.Value{})
	if want(t, "Edit", e, api.OK); has(h, "a") != lowChan+";" {
		t.Errorf("the other one wins: %s", has(h, "a"))
	}
	_, e = h.Edit("a", low.Path[0], 1, api.Value{})
	if want(t, "Edit", e, api.OK); !strings.Contains(has(h, "a"), "bin") {
		t.Errorf("all deleted: %s", has(h, "a"))
	}
	// The new winner was accepted by other rules: now it is in no channel.
	d := made(t, 60000)
	h = open(t, d, `channel chan ;`, 1, "u")
	no := copyOf(t, "b", nil, 0, `{"chan":"no"}`)
	force(t, h, "u", no, 1, api.OK)
	top := copyOf(t, "b", []api.Rev{copyOf(t, "b", nil, 0, "1").Path[0]}, 0, `{"chan":"top"}`)
	force(t, h, "u", top, 1, api.OK)
	if has(h, "b") != "top;" {
		t.Error(has(h, "b"))
	}
	h = open(t, d, `channel chan ; when chan = "no" { reject ; }`, 2, "u")
	_, e = h.Edit("b", top.Path[0], 1, api.Value{})
	if want(t, "Edit", e, api.OK); has(h, "b") != ";" {
		t.Errorf("a winner that the rules reject: %s", has(h, "b"))
	}
}

// TestParents: a path that gives a parent to what was cut off changes a document, whose winner is judged again.
func TestParents(t *testing.T) {
	h := open(t, made(t, 60000), `channel chan ; grant user see ; when has old.chan { channel "was" ; }`, 1, "u", "v")
	edit(t, h, "g", `{"see":"x","user":"u"}`)
	c := copyOf(t, "a", []api.Rev{{Gen: 2, Sum: [16]byte{2}}}, 0, `{"chan":"x"}`)
	force(t, h, "u", c, 1, api.OK)
	if has(h, "a") != "x;" {
		t.Error(has(h, "a"))
	}
	c.Path = append(c.Path, api.Rev{Gen: 1, Sum: [16]byte{1}})
	force(t, h, "u", c, 1, api.OK)
	if has(h, "a") != "was,x;" || h.State().Seq != 3 {
		t.Error(has(h, "a"))
	}
}

func TestPurge(t *testing.T) {
	h := open(t, made(t, 60000), plain, 1, "u", "v")
	edit(t, h, "g", `{"chan":"c","see":"c","user":"u"}`)
	edit(t, h, "a", `{"chan":"c"}`)
	edit(t, h, "b", `{"chan":"d"}`)
	if told(h, "u") != "g1 a2" {
		t.Error(told(h, "u"))
	}
	h.Told(api.Ask{User: "u", Kind: api.AskSet, Session: "s", Seq: 2, Life: 1})
	want(t, "Purge", h.Purge("g"), api.OK)
	if s := h.State(); told(h, "u") != "a4-c" || s.Seq != 4 || len(s.Docs) != 2 || len(s.Locals) != 0 {
		t.Errorf("%s, %v", told(h, "u"), s)
	}
	want(t, "Purge", h.Purge("g"), api.ErrNone)
	want(t, "Purge", h.Purge("b"), api.OK)
	if s := h.State(); s.Seq != 5 || told(h, "u") != "a4-c" {
		t.Errorf("%v", s)
	}
}

// spent is a hub whose sequences are used up, with a document a.
func spent(t *testing.T) *hub.Hub {
	d := made(t, 60000)
	h := open(t, d, plain, 1, "u")
	edit(t, h, "g", `{"see":"c","user":"u"}`)
	edit(t, h, "a", `{"chan":"c"}`)
	record, e := batch.Encode(api.Batch{Seq: api.MaxCount})
	if e != api.OK {
		t.Fatal(e)
	}
	b, _ := d.Read("log")
	d.Put("log", append(b, framed(t, b, record)...))
	return open(t, d, plain, 1, "u")
}

func TestSpent(t *testing.T) {
	h := spent(t)
	before := h.State()
	if before.Seq != api.MaxCount {
		t.Fatalf("%d", before.Seq)
	}
	want(t, "Purge", h.Purge("a"), api.ErrSpent)
	want(t, "Purge", h.Purge("q"), api.ErrNone)
	_, e := h.Edit("q", none, 0, api.Value{})
	want(t, "Edit", e, api.ErrSpent)
	_, e = h.Edit("q", none, 0, body(t, `{"bad":true}`))
	want(t, "Edit, rejected", e, api.ErrSpent)
	force(t, h, "u", copyOf(t, "q", nil, 0, "1"), 0, api.ErrSpent)
	force(t, h, "u", copyOf(t, "a", nil, 0, `{"chan":"c"}`), 0, api.OK)
	if !batch.SameState(h.State(), before) {
		t.Error("an error changes the hub")
	}
}

func TestForce(t *testing.T) {
	h := open(t, made(t, 60000), `channel chan ; grant user see ; when has old.x { channel "oldx" ; } when old.lock = true and lock != true { reject ; } when bad = true { reject ; }`, 1, "u", "v")
	edit(t, h, "g", `{"see":"c","user":"u"}`)
	a := copyOf(t, "a", nil, 0, `{"chan":"c","lock":true,"x":1}`)
	force(t, h, "x", a, 0, api.ErrForbidden)
	force(t, h, "x", api.Copy{}, 0, api.ErrForbidden)
	force(t, h, "u", api.Copy{}, 0, api.ErrArg)
	force(t, h, "u", copyOf(t, "q", nil, 0, `{"bad":true}`), 0, api.ErrReject)
	force(t, h, "u", a, 1, api.OK)
	size := h.Size()
	force(t, h, "u", a, 0, api.OK)
	// Who does not see the document is told 1, as if it were new; nothing is written.
	force(t, h, "v", a, 1, api.OK)
	if h.Size() != size || h.State().Seq != 2 {
		t.Error("what is there already is written")
	}
	unlocked := copyOf(t, "a", a.Path, 0, `{"chan":"c"}`)
	force(t, h, "u", unlocked, 0, api.ErrReject)
	if has(h, "a") != "c;" {
		t.Error(has(h, "a"))
	}
	// For v, who does not see a, the old body is null.
	force(t, h, "v", unlocked, 1, api.OK)
	if has(h, "a") != "c;" || h.State().Seq != 3 || told(h, "u") != "a3" {
		t.Error(has(h, "a"), told(h, "u"))
	}
	more := copyOf(t, "a", unlocked.Path, 0, `{"chan":"c","x":2}`)
	force(t, h, "u", more, 1, api.OK)
	last := copyOf(t, "a", more.Path, 0, `{"chan":"c"}`)
	force(t, h, "u", last, 1, api.OK)
	if has(h, "a") != "c,oldx;" {
		t.Errorf("%s", has(h, "a"))
	}
	// What is there already, but rejected now, is rejected for who does not see it.
	locked := open(t, made(t, 60000), `when id = "secret" { reject ; }`, 1, "u")
	force(t, locked, "u", copyOf(t, "secret", nil, 0, "1"), 0, api.ErrReject)
	d := made(t, 60000)
	first := open(t, d, "", 1, "u")
	force(t, first, "u", copyOf(t, "secret", nil, 0, "1"), 1, api.OK)
	force(t, open(t, d, `when id = "secret" { reject ; }`, 1, "u"), "u", copyOf(t, "secret", nil, 0, "1"), 0, api.ErrReject)
}

func ask(h *hub.Hub, a api.Ask) api.Told { return h.Told(a) }

func TestTold(t *testing.T) {
	h := open(t, made(t, 60000), plain, 7, "u", "v")
	edit(t, h, "g", `{"see":"c","user":"u"}`)
	r := edit(t, h, "a", `{"chan":"c"}`)
	hidden := edit(t, h, "b", `{"chan":"d"}`)
	base := api.Ask{User: "u", Push: 1, Inc: 5, N: 6}
	answer := func(kind int) api.Told { return api.Told{Push: 1, Inc: 5, N: 6, Kind: kind, Life: 7} }
	same := func(what string, a api.Ask, w api.Told) {
		t.Helper()
		if got := ask(h, a); fmt.Sprint(got) != fmt.Sprint(w) {
			t.Errorf("%s: %v, not %v", what, got, w)
		}
	}
	with := func(kind int, change func(a *api.Ask)) api.Ask {
		a := base
		a.Kind = kind
		change(&a)
		return a
	}
	failed := func(kind int, e api.Errno) api.Told {
		w := answer(kind)
		w.Why = e
		return w
	}
	for _, kind := range []int{0, -1, 7, 99} {
		same("no such kind", with(kind, func(a *api.Ask) {}), failed(kind, api.ErrArg))
		same("no such kind, nor user", with(kind, func(a *api.Ask) { a.User = "x" }), failed(kind, api.ErrForbidden))
	}
	for kind := 1; kind <= 6; kind++ {
		same("no user", with(kind, func(a *api.Ask) { a.User = "x" }), failed(kind, api.ErrForbidden))
	}
	w := answer(api.AskChanges)
	w.Seq, w.Changes = 2, []api.Change{{Id: "a", Seq: 2, Leaves: []api.Rev{r}}}
	same("changes", with(api.AskChanges, func(a *api.Ask) { a.Most = 8 }), w)
	w.Changes = nil
	same("no changes", with(api.AskChanges, func(a *api.Ask) { a.Most, a.Since = 8, 2 }), w)
	same("none of them", with(api.AskChanges, func(a *api.Ask) {}), w)
	w = answer(api.AskMissing)
	w.Wants = []api.Want{{Id: "b", Revs: []api.Rev{hidden}}}
	same("missing", with(api.AskMissing, func(a *api.Ask) { a.Wants = []api.Want{{Id: "a", Revs: []api.Rev{r}}, w.Wants[0]} }), w)
	same("a bad want", with(api.AskMissing, func(a *api.Ask) { a.Wants = []api.Want{{}} }), failed(api.AskMissing, api.ErrArg))
	w = answer(api.AskFetch)
	w.Copy = api.Copy{Id: "a", Path: []api.Rev{r}, Body: body(t, `{"chan":"c"}`)}
	same("fetch", with(api.AskFetch, func(a *api.Ask) { a.Id, a.Rev = "a", r }), w)
	same("fetch what is not seen", with(api.AskFetch, func(a *api.Ask) { a.Id, a.Rev = "b", hidden }), failed(api.AskFetch, api.ErrForbidden))
	same("fetch nothing", with(api.AskFetch, func(a *api.Ask) { a.Id, a.Rev = "a", hidden }), failed(api.AskFetch, api.ErrNone))
	w = answer(api.AskForce)
	w.Count = 1
	same("force", with(api.AskForce, func(a *api.Ask) { a.Copy = copyOf(t, "n", nil, 0, "1") }), w)
	same("force what is rejected", with(api.AskForce, func(a *api.Ask) { a.Copy = copyOf(t, "m", nil, 0, `{"bad":true}`) }), failed(api.AskForce, api.ErrReject))
	w.Count = 0
	same("force again", with(api.AskForce, func(a *api.Ask) { a.Copy = copyOf(t, "a", nil, 0, `{"chan":"c"}`) }), w)
}

func TestCheckpoints(t *testing.T) {
	d := made(t, 60000)
	h := open(t, d, plain, 1, "u")
	edit(t, h, "g", `{"see":"c","user":"u"}`)
	edit(t, h, "a", `{"chan":"c"}`)
	edit(t, h, "x", `{"chan":"x"}`)
	check := func(session string) uint64 {
		return ask(h, api.Ask{User: "u", Kind: api.AskCheck, Session: session}).Seq
	}
	set := func(session string, seq uint64, push int, life uint64) api.Errno {
		size, s := h.Size(), h.State()
		got := ask(h, api.Ask{User: "u", Kind: api.AskSet, Session: session, Seq: seq, Push: push, Life: life})
		if got.Why != api.OK && (h.Size() != size || !batch.SameState(s, h.State())) {
			t.Error("an error changes the hub")
		}
		if got.Seq != 0 {
			t.Errorf("%v", got)
		}
		return got.Why
	}
	if check("s") != 0 || check("life") != 0 {
		t.Error("checkpoints of nothing")
	}
	want(t, "another life", set("s", 1, 0, 2), api.ErrState)
	want(t, "another life, and life", set("life", 1, 0, 0), api.ErrState)
	want(t, "life", set("life", 1, 1, 1), api.ErrArg)
	want(t, "above the last one", set("s", 3, 0, 1), api.ErrArg)
	want(t, "no name", set("", 1, 0, 1), api.ErrArg)
	want(t, "too great", set("s", api.MaxCount+1, 1, 1), api.ErrArg)
	want(t, "the last one", set("s", 2, 0, 1), api.OK)
	if l := h.State().Locals; !slices.Equal(l, []api.Local{{Id: "life", Seq: 1}, {Id: "s", Seq: 2}}) || check("s") != 2 || check("life") != 1 {
		t.Errorf("%v", l)
	}
	want(t, "a push above", set("p", 99, 1, 1), api.OK)
	want(t, "back", set("s", 1, 0, 1), api.OK)
	if l := h.State().Locals; !slices.Equal(l, []api.Local{{Id: "life", Seq: 1}, {Id: "p", Seq: 99}, {Id: "s", Seq: 1}}) || check("p") != 99 || h.State().Seq != 3 {
		t.Errorf("%v", l)
	}
	// In another life, nothing is in force; the first one that is set removes the others.
	h = open(t, d, plain, 2, "u")
	if check("s") != 0 || check("p") != 0 || check("life") != 0 || h.Life() != 2 {
		t.Error("checkpoints of a previous life")
	}
	want(t, "a life that is over", set("s", 1, 0, 1), api.ErrState)
	want(t, "a name ahead of life", set("k", 1, 0, 2), api.OK)
	if l := h.State().Locals; !slices.Equal(l, []api.Local{{Id: "k", Seq: 1}, {Id: "life", Seq: 2}}) || check("k") != 1 || check("p") != 0 {
		t.Errorf("%v", l)
	}
	for i := range 14 {
		want(t, "set", set(fmt.Sprint("s", i), 0, 0, 2), api.OK)
	}
	want(t, "full", set("z", 0, 0, 2), api.ErrFull)
	h = open(t, d, plain, 1, "u")
	if check("k") != 0 {
		t.Error("checkpoints of another life")
	}
}

func TestNoHub(t *testing.T) {
	var none *hub.Hub
	for _, h := range []*hub.Hub{none, {}} {
		r, e := h.Edit("a", api.Rev{}, 0, api.Value{})
		want(t, "Edit", e, api.ErrArg)
		n, f := h.Force("u", api.Copy{})
		want(t, "Force", f, api.ErrArg)
		want(t, "Purge", h.Purge("a"), api.ErrArg)
		want(t, "Sync", h.Sync(), api.ErrArg)
		want(t, "Compact", h.Compact(), api.ErrArg)
		if got := h.Told(api.Ask{User: "u", Kind: 1, N: 5}); !reflect.DeepEqual(got, api.Told{Why: api.ErrArg}) {
			t.Errorf("%v", got)
		}
		if r != (api.Rev{}) || n != 0 || len(h.Users()) != 0 || h.Life() != 0 || h.Size() != 0 || !batch.SameState(h.State(), api.State{}) {
			t.Error("a hub that Open did not make")
		}
	}
}

func TestSyncCompactAndSharing(t *testing.T) {
	d := made(t, 60000)
	h := open(t, d, plain, 1, "u")
	c := copyOf(t, "a", nil, 0, `{"chan":["c"]}`)
	force(t, h, "u", c, 1, api.OK)
	edit(t, h, "g", `{"see":"c","user":"u"}`)
	old := h.State()
	s := h.State()
	s.Docs[0].Channels[0], s.Docs[0].Tree.Nodes[0].Body.Keys[0] = "x", "x"
	c.Body.Keys[0] = "x"
	got := h.Told(api.Ask{User: "u", Kind: api.AskFetch, Id: "a", Rev: c.Path[0]})
	got.Copy.Body.Keys[0], got.Copy.Path[0] = "x", none
	if !batch.SameState(h.State(), old) {
		t.Error("the hub shares")
	}
	if d.Waits() == 0 {
		t.Error("it syncs by itself")
	}
	want(t, "Sync", h.Sync(), api.OK)
	if d.Waits() != 0 {
		t.Error("Sync does nothing")
	}
	edit(t, h, "a", "1")
	size := h.Size()
	want(t, "Compact", h.Compact(), api.OK)
	if h.Size() == size || h.Size() != d.Size("log") {
		t.Error("Compact does nothing")
	}
	if again := open(t, d, plain, 1, "u"); !batch.SameState(again.State(), h.State()) {
		t.Error("opened again")
	}
	d.Crash(0, 0)
	want(t, "Sync", h.Sync(), api.ErrDown)
	want(t, "Compact", h.Compact(), api.ErrDown)
}

// randomBody is one of a few that matter to the rules.
func randomBody(t *testing.T, r *rand.Rand) api.Value {
	return body(t, []string{`{"chan":"c"}`, `{"chan":["c","d"]}`, `{"chan":"d"}`, `{"see":"c","user":"u"}`, `{"see":["c","d"],"user":["u","v"]}`, `{"see":"d","user":"v"}`, "{}", `{"bad":true}`, `{"chan":"e","n":1}`}[r.Intn(9)])
}

func TestEntriesAreAccurate(t *testing.T) {
	r := rand.New(rand.NewSource(1))
	for range 60 {
		d := made(t, 8000)
		h := open(t, d, plain, 1, "u", "v")
		for range 25 {
			before, size := h.State(), h.Size()
			id := string("abcd"[r.Intn(4)])
			n, _ := doc.Get(before, id, none)
			var e api.Errno
			switch r.Intn(5) {
			case 0:
				e = h.Purge(id)
			case 1:
				path, _ := tree.Path(func() api.Tree { d, _ := batch.Find(before, id); return d.Tree }(), n.Parent)
				b := randomBody(t, r)
				x, _ := rev.Make(n.Parent, 0, b)
				_, e = h.Force([]string{"u", "v", "x"}[r.Intn(3)], api.Copy{Id: id, Path: append([]api.Rev{x}, path...), Body: b})
			default:
				_, e = h.Edit(id, n.Rev, r.Intn(5)/4, randomBody(t, r))
			}
			s := h.State()
			if e != api.OK && (!batch.SameState(before, s) || h.Size() != size || d.Size("log") != size) {
				t.Fatalf("%v changes the hub", e)
			}
			if e == api.OK && s.Seq != before.Seq && s.Seq != before.Seq+1 {
				t.Fatal("sequences")
			}
			for _, user := range []string{"u", "v"} {
				var visible []string
				for _, x := range s.Seens {
					if x.User != user {
						continue
					}
					if x.Gone == 0 {
						visible = append(visible, x.Doc)
						if w, _ := doc.Get(s, x.Doc, none); w.Rev != x.Rev {
							t.Fatal("not the winner")
						}
					}
				}
				if all := grants.All(s, user); !slices.Equal(all, visible) {
					t.Fatalf("%v, not %v", visible, all)
				}
			}
			for _, x := range s.Docs {
				if _, ok := views.Told(s, "w", x.Id); ok {
					t.Fatal("told to nobody")
				}
			}
		}
	}
}

// TestNoLeaks drives two hubs that differ in what u does not see, and compares what u is told.
func TestNoLeaks(t *testing.T) {
	r := rand.New(rand.NewSource(2))
	for range 40 {
		one, two := open(t, made(t, 60000), plain, 1, "u", "v"), open(t, made(t, 60000), plain, 1, "u", "v")
		hubs := []*hub.Hub{one, two}
		var revs []api.Rev
		for _, h := range hubs {
			revs = append(revs, edit(t, h, "g", `{"see":"c","user":"u"}`))
		}
		for i := range 10 {
			id := string("ab"[r.Intn(2)])
			text := []string{`{"chan":"c","n":%d}`, `{"n":%d}`, `{"chan":["c","e"],"n":%d}`}[r.Intn(3)]
			for _, h := range hubs {
				revs = append(revs, edit(t, h, id, fmt.Sprintf(text, i)))
			}
			revs = append(revs, edit(t, one, "s", fmt.Sprintf(`{"chan":"e","n":%d}`, i)), edit(t, two, "o", fmt.Sprintf(`{"n":%d,"see":"e","user":"v"}`, i+50)))
		}
		var asks []api.Ask
		for since := range uint64(24) {
			asks = append(asks, api.Ask{Kind: api.AskChanges, Since: since, Most: 1 + r.Intn(4)})
		}
		for _, id := range []string{"a", "b", "s", "o", "q"} {
			for _, x := range revs {
				asks = append(asks, api.Ask{Kind: api.AskFetch, Id: id, Rev: x}, api.Ask{Kind: api.AskMissing, Wants: []api.Want{{Id: id, Revs: []api.Rev{x}}}})
			}
		}
		asks = append(asks, api.Ask{Kind: api.AskCheck, Session: "s"})
		for _, text := range []string{`{"chan":"e","n":0}`, "1", `{"bad":true}`} {
			for _, id := range []string{"s", "o", "q"} {
				asks = append(asks, api.Ask{Kind: api.AskForce, Copy: copyOf(t, id, nil, 0, text)})
			}
		}
		for _, a := range asks {
			a.User = "u"
			x, y := one.Told(a), two.Told(a)
			if seen := a.Kind == api.AskFetch || a.Kind == api.AskMissing; seen && grants.Sees(one.State(), "u", a.Id) != grants.Sees(two.State(), "u", a.Id) {
				t.Fatal("the hubs differ in what u sees")
			}
			if fmt.Sprint(x) != fmt.Sprint(y) {
				t.Fatalf("%v: %v, and %v", a, x, y)
			}
		}
	}
}

// framed is the record behind those of b.
func framed(t *testing.T, b, payload []byte) []byte {
	_, tail := frame.All(b)
	record, _, e := frame.Put(tail, payload)
	if e != api.OK {
		t.Fatal(e)
	}
	return record
}

package model_test

import (
	"fmt"
	"math"
	"math/rand"
	"slices"
	"testing"

	"tidewrack/api"
	"tidewrack/batch"
	"tidewrack/disk"
	"tidewrack/doc"
	"tidewrack/model"
	"tidewrack/peer"
	"tidewrack/rev"
	"tidewrack/rule"
	"tidewrack/value"
)

var none api.Rev

const source = `channel chan ; when has old.chan { channel "was" ; } grant user see ; when bad = true { reject ; } when has old.lock and lock != old.lock { reject ; }`

func rules(t *testing.T) api.Program {
	t.Helper()
	p, _, e := rule.Parse(source)
	if e != api.OK {
		t.Fatal(e)
	}
	return p
}

func hubbing(t *testing.T) api.Hubbing {
	return api.Hubbing{Rules: rules(t), Users: []string{"u", "v"}, Life: 1}
}

func made(t *testing.T, capacity int, h api.Hubbing) api.Model {
	t.Helper()
	m, e := model.New(capacity, h)
	if e != api.OK {
		t.Fatal(e)
	}
	return m
}

func body(t *testing.T, s string) api.Value {
	t.Helper()
	v, e := value.Parse(s)
	if e != api.OK {
		t.Fatal(e)
	}
	return v
}

func does(t *testing.T, m api.Model, d api.Doing, want api.Errno) (api.Model, api.Done) {
	t.Helper()
	before := fmt.Sprint(m)
	after, done := model.Do(m, d)
	if done.Why != want {
		t.Errorf("%v: %v, not %v", d, done.Why, want)
	}
	if want != api.OK && (!model.Same(m, after) || fmt.Sprint(done) != fmt.Sprint(api.Done{Why: want})) {
		t.Errorf("%v: an error changes the model, or tells more", d)
	}
	if fmt.Sprint(m) != before {
		t.Errorf("%v: the argument is modified", d)
	}
	return after, done
}

func edit(t *testing.T, id string, text string) api.Doing {
	return api.Doing{Kind: api.DoEdit, Id: id, Body: body(t, text)}
}

func TestNew(t *testing.T) {
	for _, capacity := range []int{0, 1, 65536} {
		if m := made(t, capacity, api.Hubbing{}); !model.Same(m, api.Model{Capacity: capacity}) {
			t.Errorf("%v", m)
		}
		if m := made(t, capacity, hubbing(t)); !model.Same(m, api.Model{Capacity: capacity, Made: hubbing(t)}) {
			t.Errorf("%v", m)
		}
	}
	for what, change := range map[string]func(h *api.Hubbing) int{
		"capacity -1": func(h *api.Hubbing) int { return -1 }, "capacity 65537": func(h *api.Hubbing) int { return 65537 }, "no life": func(h *api.Hubbing) int { h.Life = 0; return 9 }, "users alone": func(h *api.Hubbing) int { h.Life, h.Rules = 0, api.Program{}; return 9 }, "rules alone": func(h *api.Hubbing) int { h.Life, h.Users = 0, nil; return 9 },
		"a life too great": func(h *api.Hubbing) int { h.Life = api.MaxCount + 1; return 9 }, "falling users": func(h *api.Hubbing) int { h.Users = []string{"v", "u"}; return 9 }, "equal users": func(h *api.Hubbing) int { h.Users = []string{"u", "u"}; return 9 }, "a bad user": func(h *api.Hubbing) int { h.Users = []string{" "}; return 9 },
		"five users": func(h *api.Hubbing) int { h.Users = []string{"a", "b", "c", "d", "e"}; return 9 }, "bad rules": func(h *api.Hubbing) int { h.Rules = api.Program{Clauses: []api.Clause{{}}}; return 9 }} {
		h := hubbing(t)
		capacity := change(&h)
		if m, e := model.New(capacity, h); e != api.ErrArg || !model.Same(m, api.Model{}) {
			t.Errorf("%s: %v", what, e)
		}
	}
}

func TestExample(t *testing.T) {
	m := made(t, 60000, api.Hubbing{})
	m, _ = does(t, m, edit(t, "a", "1"), api.OK)
	one := m.State
	record, _ := batch.Encode(api.Batch{Docs: one.Docs})
	if m.Log != len(record)+8 || m.LogLasts != 0 || len(m.Past) != 1 || len(m.Logs) != 1 || m.Logs[0] != m.Log || !batch.SameState(m.Past[0], one) || len(m.Lasts.Docs) != 0 {
		t.Errorf("%v", m)
	}
	m, _ = does(t, m, api.Doing{Kind: api.DoSync}, api.OK)
	if m.LogLasts != m.Log || len(m.Past)+len(m.Logs) != 0 || !batch.SameState(m.Lasts, one) || !batch.SameState(m.State, one) {
		t.Errorf("%v", m)
	}
	m, _ = does(t, m, edit(t, "b", "2"), api.OK)
	two := m.State
	length := m.Log - m.LogLasts
	for _, c := range []struct {
		keep, torn int
		want       api.State
	}{{0, 0, one}, {-3, -3, one}, {0, length - 1, one}, {0, length, two}, {0, length + 50, two}, {1, 0, two}, {99, 0, two}} {
		x := model.Crash(m, c.keep, c.torn)
		log := m.LogLasts
		if len(c.want.Docs) == 2 {
			log = m.Log
		}
		if want := (api.Model{Capacity: 60000, State: c.want, Lasts: c.want, Log: log, LogLasts: log}); !model.Same(x, want) {
			t.Errorf("Crash(%d, %d): %v", c.keep, c.torn, x)
		}
	}
	does(t, m, api.Doing{Kind: api.DoTold, Ask: api.Ask{User: "u", Kind: 1}}, api.ErrArg)
	m, _ = does(t, m, api.Doing{Kind: api.DoCompact}, api.OK)
	if m.LogLasts != m.Log || len(m.Past)+len(m.Logs) != 0 || !batch.SameState(m.Lasts, two) || !batch.SameState(m.State, two) || m.Log != 2*length+14 {
		t.Errorf("%v", m)
	}
}

func TestKindsAndLimits(t *testing.T) {
	spoke, hub := made(t, 200, api.Hubbing{}), made(t, 200, hubbing(t))
	for _, kind := range []int{0, -1, 11, math.MaxInt, math.MinInt} {
		does(t, spoke, api.Doing{Kind: kind}, api.ErrArg)
		does(t, hub, api.Doing{Kind: kind}, api.ErrArg)
	}
	does(t, hub, api.Doing{Kind: api.DoMark, Id: "a"}, api.ErrArg)
	does(t, hub, api.Doing{Kind: api.DoCheck, Session: "a"}, api.ErrArg)
	does(t, spoke, api.Doing{Kind: api.DoTold}, api.ErrArg)
	for _, m := range []api.Model{spoke, hub} {
		for i := range 10 {
			next, done := model.Do(m, edit(t, fmt.Sprint("n", i), "1"))
			if done.Why == api.OK {
				m = next
				continue
			}
			does(t, m, edit(t, fmt.Sprint("n", i), "1"), api.ErrFull)
			does(t, m, api.Doing{Kind: api.DoCompact}, api.ErrFull)
			break
		}
		if m.Log == 0 || m.Log > 200 {
			t.Errorf("%d", m.Log)
		}
	}
	one, _ := does(t, made(t, 60000, api.Hubbing{}), edit(t, "a", "1"), api.OK)
	exact := made(t, one.Log, api.Hubbing{})
	does(t, exact, edit(t, "a", "1"), api.OK)
	exact.Capacity--
	does(t, exact, edit(t, "a", "1"), api.ErrFull)
	exact.Log, exact.Capacity = math.MaxInt-3, math.MaxInt
	does(t, exact, edit(t, "a", "1"), api.ErrFull)
	does(t, exact, api.Doing{Kind: api.DoCompact}, api.ErrFull)
	exact.Log = math.MinInt
	does(t, exact, edit(t, "a", "1"), api.OK)
}

func TestBadModels(t *testing.T) {
	for _, m := range []api.Model{made(t, 60000, api.Hubbing{}), made(t, 60000, hubbing(t))} {
		m.State.Locals = []api.Local{{}}
		for _, d := range []api.Doing{edit(t, "a", "1"), {Kind: api.DoPurge, Id: "a"}, {Kind: api.DoGet, Id: "a"}, {Kind: api.DoForce, User: "u", Copy: api.Copy{Id: "a", Path: []api.Rev{{Gen: 1}}}}, {Kind: api.DoCompact}} {
			does(t, m, d, api.ErrArg)
		}
		if _, done := does(t, m, api.Doing{Kind: api.DoChanges, Most: 9}, api.OK); len(done.Changes) != 0 {
			t.Errorf("%v", done)
		}
		if x, _ := does(t, m, api.Doing{Kind: api.DoSync}, api.OK); !batch.SameState(x.Lasts, m.State) {
			t.Error("DoSync")
		}
	}
	odd := api.Model{Past: make([]api.State, 3), Logs: []int{5}, Lasts: api.State{Seq: 1}}
	for keep := -1; keep < 5; keep++ {
		for _, torn := range []int{math.MinInt, 0, 4, 5, math.MaxInt} {
			model.Crash(odd, keep, torn)
		}
	}
	m := made(t, 60000, hubbing(t))
	m.Made.Rules = api.Program{Clauses: []api.Clause{{}}}
	does(t, m, edit(t, "a", "1"), api.ErrArg)
}

func TestAgain(t *testing.T) {
	m, _ := does(t, made(t, 60000, hubbing(t)), edit(t, "a", "1"), api.OK)
	want := m
	want.Made.Life = 9
	if x := model.Again(m, 9); !model.Same(x, want) || m.Made.Life != 1 {
		t.Errorf("%v", x)
	}
	s := made(t, 9, api.Hubbing{})
	if x := model.Again(s, 9); !model.Same(x, s) {
		t.Errorf("%v", x)
	}
}

func TestSame(t *testing.T) {
	for what, change := range map[string]func(m *api.Model){"rules": func(m *api.Model) { m.Made.Rules = rules(t) }, "users": func(m *api.Model) { m.Made.Users = []string{"u"} }, "life": func(m *api.Model) { m.Made.Life = 1 }, "capacity": func(m *api.Model) { m.Capacity = 1 }, "state": func(m *api.Model) { m.State.Seq = 1 },
		"lasts": func(m *api.Model) { m.Lasts.Seq = 1 }, "past": func(m *api.Model) { m.Past = make([]api.State, 1) }, "log": func(m *api.Model) { m.Log = 1 }, "log lasts": func(m *api.Model) { m.LogLasts = 1 }, "logs": func(m *api.Model) { m.Logs = make([]int, 1) }} {
		var m api.Model
		if change(&m); model.Same(m, api.Model{}) || !model.Same(m, m) {
			t.Errorf("%s", what)
		}
	}
	r := api.Rev{Gen: 1}
	for what, d := range map[string]api.Done{"why": {Why: 1}, "rev": {Rev: r}, "count": {Count: 1}, "node's rev": {Node: api.Node{Rev: r}}, "parent": {Node: api.Node{Parent: r}}, "deleted": {Node: api.Node{Deleted: 1}}, "has": {Node: api.Node{Has: 1}}, "body": {Node: api.Node{Body: api.Value{Kind: 1}}}, "changes": {Changes: []api.Change{{}}},
		"push": {Told: api.Told{Push: 1}}, "inc": {Told: api.Told{Inc: 1}}, "n": {Told: api.Told{N: 1}}, "kind": {Told: api.Told{Kind: 1}}, "told why": {Told: api.Told{Why: 1}}, "life": {Told: api.Told{Life: 1}}, "seq": {Told: api.Told{Seq: 1}}, "told changes": {Told: api.Told{Changes: []api.Change{{}}}}, "wants": {Told: api.Told{Wants: []api.Want{{}}}}, "copy": {Told: api.Told{Copy: api.Copy{Id: "a"}}}, "told count": {Told: api.Told{Count: 1}}} {
		if model.SameDone(d, api.Done{}) || !model.SameDone(d, d) {
			t.Errorf("%s", what)
		}
	}
	if !model.SameDone(api.Done{}, api.Done{Changes: []api.Change{}}) || !model.Same(api.Model{}, api.Model{Past: []api.State{}, Logs: []int{}}) {
		t.Error("nil and empty differ")
	}
}

func TestSharing(t *testing.T) {
	h := hubbing(t)
	m := made(t, 60000, h)
	h.Users[0], h.Rules.Clauses[0].Acts[0].Kind = "x", api.ActReject
	v := body(t, `{"chan":["c"]}`)
	d := api.Doing{Kind: api.DoEdit, Id: "a", Body: v}
	m, _ = does(t, m, d, api.OK)
	v.List[0].List[0].Text = "x"
	m, _ = does(t, m, edit(t, "b", "[1]"), api.OK)
	before := fmt.Sprint(m)
	x, _ := model.Do(m, edit(t, "c", "1"))
	y, _ := model.Do(m, api.Doing{Kind: 99})
	z, _ := model.Do(m, api.Doing{Kind: api.DoSync})
	v2, _ := model.Do(m, api.Doing{Kind: api.DoGet, Id: "q"})
	roomy := m
	roomy.Past, roomy.Logs = append(make([]api.State, 0, 9), m.Past...), append(make([]int, 0, 9), m.Logs...)
	model.Do(roomy, edit(t, "c", "1"))
	if n := len(m.Past); roomy.Past[:n+1][n].Seq != 0 || roomy.Logs[:n+1][n] != 0 {
		t.Error("spare capacity is modified")
	}
	for _, o := range []api.Model{x, y, z, v2, model.Crash(m, 1, 0), model.Again(m, 3)} {
		for _, s := range append([]api.State{o.State, o.Lasts}, o.Past...) {
			for i := range s.Docs {
				s.Docs[i].Id = "x"
				s.Docs[i].Tree.Nodes[0].Deleted = 9
			}
		}
		for i := range o.Logs {
			o.Logs[i] = -1
		}
		o.Made.Users[0], o.Made.Rules.Clauses[0].Acts[0].Kind = "x", 9
	}
	_, got := model.Do(m, api.Doing{Kind: api.DoGet, Id: "b"})
	got.Node.Body.List[0].Num = 9
	if fmt.Sprint(m) != before {
		t.Error("a model is modified, or shared")
	}
	z, _ = model.Do(m, api.Doing{Kind: api.DoSync})
	z.State.Docs[0].Id = "x"
	if z.Lasts.Docs[0].Id != "a" {
		t.Error("the state is shared with what is durable")
	}
}

// random is an operation of any kind.
func random(t *testing.T, r *rand.Rand, s api.State, life uint64) api.Doing {
	id := string("abcd"[r.Intn(4)])
	user := []string{"u", "v", "w"}[r.Intn(3)]
	n, _ := doc.Get(s, id, none)
	texts := []string{`{"chan":"c"}`, `{"chan":["c","d"]}`, `{"see":"c","user":"u"}`, `{"see":["c","d"],"user":["u","v"]}`, "{}", `{"bad":true}`, `{"chan":"d","lock":1}`}
	v := body(t, texts[r.Intn(len(texts))])
	copied := api.Copy{Id: id, Body: v, Deleted: r.Intn(6) / 5}
	parents := []api.Rev{}
	if c, e := doc.Fetch(s, id, none); e == api.OK && r.Intn(3) > 0 {
		parents = c.Path[r.Intn(len(c.Path)):]
	}
	parent := none
	if len(parents) > 0 {
		parent = parents[0]
	}
	x, _ := rev.Make(parent, copied.Deleted, v)
	copied.Path = append([]api.Rev{x}, parents...)
	a := api.Ask{User: user, Push: r.Intn(2), Inc: uint64(r.Intn(3)), N: uint64(r.Intn(9)), Kind: r.Intn(8), Session: []string{"s", "life", "", "z"}[r.Intn(4)], Since: uint64(r.Intn(9)), Most: r.Intn(4), Id: id, Rev: n.Rev, Copy: copied, Seq: uint64(r.Intn(5)), Life: life - uint64(r.Intn(5)/4),
		Wants: []api.Want{{Id: id, Revs: []api.Rev{n.Rev, x}[r.Intn(2):]}}}
	kind := []int{1, 1, 1, 1, 2, 2, 3, 4, 5, 6, 7, 8, 8, 8, 8, 9, 10, 11}[r.Intn(18)]
	d := api.Doing{Kind: kind, Id: id, Rev: n.Rev, Body: v, Deleted: r.Intn(6) / 5, Gone: r.Intn(2), Copy: copied, User: user, Session: "s", Seq: uint64(r.Intn(9)), Since: uint64(r.Intn(5)), Most: r.Intn(5), Ask: a}
	if r.Intn(10) == 0 {
		d.Rev = none
	}
	return d
}

// TestTheorem drives a replica on a disk, and the model of it.
func TestTheorem(t *testing.T) {
	r := rand.New(rand.NewSource(1))
	for round := range 80 {
		capacity := []int{60000, 1500, 400}[r.Intn(3)]
		peering := api.Peering{Node: 2, User: "u", Inc: 1}
		h := api.Hubbing{}
		if round%2 == 0 {
			h = hubbing(t)
			peering = api.Peering{Node: 1, Made: h}
		}
		d, _ := disk.New(capacity)
		p, e := peer.New(d, peering)
		if e != api.OK {
			t.Fatal(e)
		}
		m := made(t, capacity, h)
		states := []api.State{{}}
		for step := range 40 {
			op := random(t, r, m.State, m.Made.Life)
			next, want := model.Do(m, op)
			if got := p.Do(op); !model.SameDone(got, want) {
				t.Fatalf("step %d, kind %d: %v, not %v", step, op.Kind, got, want)
			}
			if want.Why != api.OK && !model.Same(m, next) {
				t.Fatal("an error changes the model")
			}
			m = next
			if !batch.SameState(m.State, p.State()) || m.Log != d.Size("log") {
				t.Fatalf("step %d, kind %d: the states differ, or %d bytes are not %d", step, op.Kind, m.Log, d.Size("log"))
			}
			if len(m.Past) != len(m.Logs) || len(m.Past) > 0 && (!batch.SameState(m.Past[len(m.Past)-1], m.State) || m.Logs[len(m.Logs)-1] != m.Log) {
				t.Fatal("the model is not as it should be")
			}
			if len(m.Past) == 0 {
				states = nil
			}
			states = append(states, m.State)
			if r.Intn(12) == 0 {
				keep, torn := r.Intn(6), r.Intn(200)
				d.Crash(keep, torn)
				d.Start()
				peering.Inc++
				if peering.Made.Life > 0 {
					peering.Made.Life++
				}
				if p, e = peer.New(d, peering); e != api.OK {
					t.Fatal(e)
				}
				m = model.Again(model.Crash(m, keep, torn), peering.Made.Life)
				if !batch.SameState(m.State, p.State()) || m.Log != d.Size("log") || m.Made.Life != peering.Made.Life {
					t.Fatalf("after Crash(%d, %d) the states differ", keep, torn)
				}
				if !slices.ContainsFunc(states, func(s api.State) bool { return batch.SameState(s, m.State) }) {
					t.Fatal("a state that it has not had since the last sync")
				}
				states = []api.State{m.State}
			}
		}
	}
}

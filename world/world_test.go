package world_test

import (
	"fmt"
	"math/rand"
	"slices"
	"testing"

	"tidewrack/api"
	"tidewrack/batch"
	"tidewrack/doc"
	"tidewrack/msg"
	"tidewrack/rule"
	"tidewrack/value"
	"tidewrack/world"
)

var none api.Rev

func worlding(t *testing.T, owners ...string) api.Worlding {
	t.Helper()
	p, _, e := rule.Parse(`channel "all" ; grant who "all" ;`)
	if e != api.OK {
		t.Fatal(e)
	}
	w := api.Worlding{Rules: p, Users: []string{"u", "v"}, Owners: owners, Rooms: []int{60000}}
	for range owners {
		w.Rooms = append(w.Rooms, 60000)
	}
	return w
}

func made(t *testing.T, owners ...string) *world.World {
	t.Helper()
	w, e := world.New(worlding(t, owners...))
	if e != api.OK || w == nil {
		t.Fatalf("New: %v", e)
	}
	return w
}

func body(t *testing.T, s string) api.Value {
	t.Helper()
	v, e := value.Parse(s)
	if e != api.OK {
		t.Fatal(e)
	}
	return v
}

func does(t *testing.T, w *world.World, s api.Step, want api.Errno) api.Done {
	t.Helper()
	steps := w.Steps()
	done, e := w.Do(s)
	if e != want || w.Steps() != steps+1 {
		t.Errorf("%v: %v, not %v", s, e, want)
	}
	if e != api.OK && fmt.Sprint(done) != fmt.Sprint(api.Done{}) {
		t.Errorf("%v: %v", s, done)
	}
	return done
}

func write(t *testing.T, node int, id string, parent api.Rev, text string) api.Step {
	return api.Step{Kind: api.StepDo, Node: node, Doing: api.Doing{Kind: api.DoEdit, Id: id, Rev: parent, Body: body(t, text)}}
}

func operation(node, kind int, id string) api.Step {
	return api.Step{Kind: api.StepDo, Node: node, Doing: api.Doing{Kind: kind, Id: id}}
}

// last are the last n happenings.
func last(w *world.World, n int) []api.Happening {
	l := w.Happenings()
	return l[max(0, len(l)-n):]
}

func happened(t *testing.T, what string, w *world.World, want ...api.Happening) {
	t.Helper()
	if got := last(w, len(want)); fmt.Sprint(got) != fmt.Sprint(want) {
		t.Errorf("%s: %v, not %v", what, got, want)
	}
}

func deliverAll(t *testing.T, w *world.World) {
	t.Helper()
	for steps := 0; w.Net().Count() > 0; steps++ {
		does(t, w, api.Step{Kind: api.StepDeliver, Letter: w.Net().Letters()[0].Id}, api.OK)
		if steps > 2000 {
			t.Fatal("it does not end")
		}
	}
}

func TestNew(t *testing.T) {
	for what, change := range map[string]func(w *api.Worlding){
		"no owner": func(w *api.Worlding) { w.Owners, w.Rooms = nil, w.Rooms[:1] }, "four owners": func(w *api.Worlding) {
			w.Owners, w.Rooms = []string{"u", "u", "u", "u"}, []int{1, 1, 1, 1, 1}
		}, "a room more": func(w *api.Worlding) { w.Rooms = append(w.Rooms, 1) }, "a room less": func(w *api.Worlding) { w.Rooms = w.Rooms[:1] },
		"a room of -1": func(w *api.Worlding) { w.Rooms[1] = -1 }, "a room of 65537": func(w *api.Worlding) { w.Rooms[0] = 65537 }, "bad rules": func(w *api.Worlding) { w.Rules = api.Program{Clauses: []api.Clause{{}}} }, "falling users": func(w *api.Worlding) { w.Users = []string{"v", "u"} }, "a bad owner": func(w *api.Worlding) { w.Owners[0] = "" }} {
		c := worlding(t, "u")
		change(&c)
		if w, e := world.New(c); w != nil || e != api.ErrArg {
			t.Errorf("%s: %v", what, e)
		}
	}
	c := worlding(t, "u", "x", "v")
	c.Rooms = []int{0, 65536, 0, 5}
	w, e := world.New(c)
	if e != api.OK || w.Nodes() != 4 || w.Time() != 1 || w.Steps() != 0 || len(w.Happenings()) != 0 || w.Net().Replicas() != 4 || w.Net().Count() != 0 {
		t.Fatalf("%v", e)
	}
	for node := 1; node <= 4; node++ {
		p, q := w.Sessions(node)
		user := []string{"", "u", "x", "v"}[node-1]
		if !w.Up(node) || w.Life(node) != 1 || w.Size(node) != 0 || !batch.SameState(w.State(node), api.State{}) || p.User != user || q.User != user || (p.Inc == 1) != (node > 1) {
			t.Errorf("%d: %v, %v", node, p, q)
		}
	}
	for _, node := range []int{0, -1, 5, 1 << 40} {
		if p, q := w.Sessions(node); w.Up(node) || w.Life(node) != 0 || w.Size(node) != 0 || p.User != "" || q.User != "" || !batch.SameState(w.State(node), api.State{}) {
			t.Errorf("%d", node)
		}
	}
}

func TestExample(t *testing.T) {
	w := made(t, "u")
	step := write(t, 1, "g", none, `{"who":"u"}`)
	done := does(t, w, step, api.OK)
	if done.Why != api.OK || done.Rev.Gen != 1 {
		t.Errorf("%v", done)
	}
	happened(t, "StepDo", w, api.Happening{Kind: api.HapDone, Node: 1, Time: 1, Doing: step.Doing, Done: done})
	does(t, w, api.Step{Kind: api.StepBegin, Node: 2}, api.OK)
	happened(t, "StepBegin", w, api.Happening{Kind: api.HapBegin, Node: 2, Time: 1})
	if l := w.Net().Letters(); len(l) != 1 || l[0].From != 2 || l[0].To != 1 {
		t.Errorf("%v", l)
	}
	does(t, w, api.Step{Kind: api.StepBegin, Node: 2}, api.ErrState)
	deliverAll(t, w)
	happened(t, "the end", w, api.Happening{Kind: api.HapEnd, Node: 2, Time: 1, Since: 1})
	if n, e := doc.Get(w.State(2), "g", none); e != api.OK || n.Rev != done.Rev || w.Size(2) == 0 {
		t.Errorf("%v", e)
	}
	does(t, w, api.Step{Kind: api.StepCrash, Node: 2, Keep: 0, Torn: 3}, api.OK)
	happened(t, "StepCrash", w, api.Happening{Kind: api.HapCrash, Node: 2, Time: 1, Torn: 3})
	if p, q := w.Sessions(2); w.Up(2) || w.Size(2) != 0 || p.User != "" || q.User != "" || w.Life(2) != 1 || len(w.State(2).Docs) != 0 {
		t.Error("down")
	}
	does(t, w, write(t, 2, "a", none, "1"), api.ErrDown)
	does(t, w, api.Step{Kind: api.StepStart, Node: 2}, api.OK)
	happened(t, "StepStart", w, api.Happening{Kind: api.HapStart, Node: 2, Time: 1, Life: 2})
	if p, q := w.Sessions(2); !w.Up(2) || !batch.SameState(w.State(2), api.State{}) || w.Life(2) != 2 || p.Inc != 2 || q.Inc != 2 || w.Life(1) != 1 {
		t.Error("up again")
	}
	does(t, w, api.Step{Kind: api.StepFuse, Node: 1, N: 1, Keep: 4, Torn: 5}, api.OK)
	step = write(t, 1, "b", none, "1")
	if done := does(t, w, step, api.OK); fmt.Sprint(done) != fmt.Sprint(api.Done{Why: api.ErrDown}) || w.Up(1) {
		t.Errorf("%v", done)
	}
	happened(t, "StepFuse", w, api.Happening{Kind: api.HapDone, Node: 1, Time: 1, Doing: step.Doing, Done: api.Done{Why: api.ErrDown}}, api.Happening{Kind: api.HapCrash, Node: 1, Time: 1, Keep: 4, Torn: 5, Midst: 1})
	does(t, w, api.Step{Kind: api.StepStart, Node: 1}, api.OK)
	if s := w.State(1); len(s.Docs) != 2 || w.Life(1) != 2 {
		t.Errorf("%v", s)
	}
	if done := does(t, w, api.Step{Kind: api.StepDo, Node: 1, Doing: api.Doing{Kind: api.DoTold, Ask: api.Ask{User: "u", Kind: api.AskCheck}}}, api.OK); done.Told.Life != 2 {
		t.Errorf("the hub's life: %v", done)
	}
}

func TestErrors(t *testing.T) {
	w := made(t, "u")
	for _, kind := range []int{0, -1, 11, 1 << 40} {
		does(t, w, api.Step{Kind: kind, Node: 1}, api.ErrArg)
	}
	for _, kind := range []int{api.StepDo, api.StepBegin, api.StepCrash, api.StepFuse, api.StepStart} {
		for _, node := range []int{0, -1, 3} {
			does(t, w, api.Step{Kind: kind, Node: node}, api.ErrArg)
		}
	}
	does(t, w, api.Step{Kind: api.StepStart, Node: 2}, api.ErrState)
	does(t, w, api.Step{Kind: api.StepBegin, Node: 1}, api.ErrArg)
	does(t, w, api.Step{Kind: api.StepBegin, Node: 2, Push: 2}, api.ErrArg)
	does(t, w, api.Step{Kind: api.StepFuse, Node: 2, N: -1}, api.ErrArg)
	for _, by := range []int{0, -1, 101} {
		does(t, w, api.Step{Kind: api.StepTick, By: by}, api.ErrArg)
	}
	for _, kind := range []int{api.StepDeliver, api.StepDrop, api.StepDouble} {
		does(t, w, api.Step{Kind: kind, Letter: 7}, api.ErrNone)
	}
	does(t, w, api.Step{Kind: api.StepPut, From: 1, To: 1}, api.ErrArg)
	does(t, w, api.Step{Kind: api.StepPut, From: 1, To: 3}, api.ErrArg)
	does(t, w, api.Step{Kind: api.StepPut, From: 1, To: 2, Bytes: make([]byte, api.MaxFrame+1)}, api.ErrLong)
	if len(w.Happenings()) != 0 || w.Time() != 1 || w.Net().Count() != 0 {
		t.Error("an error has an effect")
	}
	does(t, w, api.Step{Kind: api.StepCrash, Node: 2}, api.OK)
	for _, kind := range []int{api.StepDo, api.StepBegin, api.StepCrash, api.StepFuse} {
		does(t, w, api.Step{Kind: kind, Node: 2, N: -1, Push: 2}, api.ErrDown)
	}
	if done := does(t, w, operation(1, 0, ""), api.OK); done.Why != api.ErrArg {
		t.Errorf("%v", done)
	}
}

func TestNoWorld(t *testing.T) {
	var none *world.World
	for _, w := range []*world.World{none, {}} {
		if _, e := w.Do(api.Step{Kind: api.StepTick, By: 1}); e != api.ErrArg || w.Run(api.Step{Kind: api.StepTick, By: 1}) != 0 {
			t.Errorf("%v", e)
		}
		p, q := w.Sessions(2)
		if w.Steps() != 0 || w.Time() != 0 || w.Nodes() != 0 || w.Up(1) || w.Life(1) != 0 || w.Size(1) != 0 || w.Net() != nil || len(w.Happenings()) != 0 || p.User+q.User != "" || !batch.SameState(w.State(1), api.State{}) {
			t.Error("a world that New did not make")
		}
	}
}

func TestNetAndTime(t *testing.T) {
	w := made(t, "u", "v")
	does(t, w, api.Step{Kind: api.StepPut, From: 2, To: 1, Bytes: []byte("x")}, api.OK)
	does(t, w, api.Step{Kind: api.StepDouble, Letter: 1}, api.OK)
	does(t, w, api.Step{Kind: api.StepTick, By: 100}, api.OK)
	does(t, w, api.Step{Kind: api.StepDeliver, Letter: 2}, api.OK)
	happened(t, "bytes of no packet", w, api.Happening{Kind: api.HapForm, Node: 1, Time: 101, Why: api.ErrForm})
	does(t, w, api.Step{Kind: api.StepDrop, Letter: 1}, api.OK)
	if w.Net().Count() != 0 || w.Time() != 101 {
		t.Errorf("%d, %d", w.Net().Count(), w.Time())
	}
	// An answer goes to whom the question came from.
	b, _ := msg.Encode(api.Packet{Kind: api.PacketAsk, Ask: api.Ask{User: "u", Kind: api.AskCheck, Session: "s"}})
	does(t, w, api.Step{Kind: api.StepPut, From: 3, To: 1, Bytes: b}, api.OK)
	does(t, w, api.Step{Kind: api.StepDeliver, Letter: 3}, api.OK)
	if l := w.Net().Letters(); len(l) != 1 || l[0].To != 3 || l[0].From != 1 {
		t.Errorf("%v", l)
	}
	// What comes to a node that is down is lost.
	does(t, w, api.Step{Kind: api.StepCrash, Node: 3}, api.OK)
	n := len(w.Happenings())
	does(t, w, api.Step{Kind: api.StepDeliver, Letter: 4}, api.OK)
	if w.Net().Count() != 0 || len(w.Happenings()) != n {
		t.Error("a node that is down takes")
	}
	// What is not answered for long is asked again, by those that are up.
	does(t, w, api.Step{Kind: api.StepBegin, Node: 2}, api.OK)
	does(t, w, api.Step{Kind: api.StepTick, By: 2}, api.OK)
	if w.Net().Count() != 1 {
		t.Error("too early")
	}
	does(t, w, api.Step{Kind: api.StepTick, By: 1}, api.OK)
	if w.Net().Count() != 2 {
		t.Error("it is not asked again")
	}
	does(t, w, api.Step{Kind: api.StepCrash, Node: 2}, api.OK)
	n = len(w.Happenings())
	does(t, w, api.Step{Kind: api.StepTick, By: 9}, api.OK)
	if w.Net().Count() != 2 || len(w.Happenings()) != n {
		t.Error("a node that is down asks")
	}
	for range 40 {
		w.Do(api.Step{Kind: api.StepPut, From: 2, To: 1, Bytes: b})
	}
	if w.Net().Count() != api.MaxLink {
		t.Errorf("%d", w.Net().Count())
	}
	does(t, w, api.Step{Kind: api.StepPut, From: 2, To: 1, Bytes: b}, api.ErrFull)
	if w.Run(api.Step{Kind: api.StepTick, By: 1}, api.Step{Kind: api.StepTick}, api.Step{Kind: api.StepDrop, Letter: w.Net().Letters()[0].Id}, api.Step{}) != 2 {
		t.Error("Run")
	}
}

func TestPurgeFailsSessions(t *testing.T) {
	w := made(t, "u")
	does(t, w, write(t, 2, "a", none, "1"), api.OK)
	does(t, w, api.Step{Kind: api.StepBegin, Node: 2, Push: 1}, api.OK)
	happened(t, "StepBegin", w, api.Happening{Kind: api.HapBegin, Node: 2, Time: 1, Push: 1})
	does(t, w, api.Step{Kind: api.StepBegin, Node: 2}, api.OK)
	n := len(w.Happenings())
	does(t, w, write(t, 2, "other", none, "1"), api.OK)
	does(t, w, operation(2, api.DoPurge, "q"), api.OK)
	if len(w.Happenings()) != n+2 {
		t.Errorf("sessions that go on: %v", last(w, 3))
	}
	step := operation(2, api.DoPurge, "a")
	does(t, w, step, api.OK)
	happened(t, "purge", w, api.Happening{Kind: api.HapDone, Node: 2, Time: 1, Doing: step.Doing}, api.Happening{Kind: api.HapFail, Node: 2, Time: 1, Why: api.ErrState}, api.Happening{Kind: api.HapFail, Node: 2, Time: 1, Push: 1, Why: api.ErrState})
	does(t, w, write(t, 2, "a", none, "1"), api.OK)
	does(t, w, api.Step{Kind: api.StepBegin, Node: 2, Push: 1}, api.OK)
	does(t, w, step, api.OK)
	happened(t, "purge", w, api.Happening{Kind: api.HapDone, Node: 2, Time: 1, Doing: step.Doing}, api.Happening{Kind: api.HapFail, Node: 2, Time: 1, Push: 1, Why: api.ErrState})
}

// TestFuseInASession crashes a spoke within a work of its session.
func TestFuseInASession(t *testing.T) {
	for n := 1; n <= 3; n++ {
		w := made(t, "u")
		does(t, w, write(t, 1, "g", none, `{"who":"u"}`), api.OK)
		does(t, w, write(t, 1, "h", none, "2"), api.OK)
		does(t, w, api.Step{Kind: api.StepBegin, Node: 2}, api.OK)
		does(t, w, api.Step{Kind: api.StepFuse, Node: 2, N: n, Keep: 9, Torn: 1}, api.OK)
		deliverAll(t, w)
		l := last(w, 3)
		if l[0].Kind != api.HapDone || l[0].Done.Why != api.ErrDown || l[1].Kind != api.HapFail || l[1].Why != api.ErrDown || l[2].Kind != api.HapCrash || l[2].Midst != 1 || l[2].Keep != 9 || l[2].Torn != 1 || w.Up(2) {
			t.Errorf("fuse %d: %v", n, l)
		}
		does(t, w, api.Step{Kind: api.StepStart, Node: 2}, api.OK)
		if s := w.State(2); len(s.Docs) != min(n, 2) {
			t.Errorf("fuse %d: %d documents", n, len(s.Docs))
		}
	}
}

// TestFuseAtTheLastCheckpoint crashes a spoke within the work that its push
// leaves when it has ended already: it has ended nevertheless, and then the spoke crashes.
func TestFuseAtTheLastCheckpoint(t *testing.T) {
	for keep, want := range map[int]uint64{0: 0, 9: 1} {
		w := made(t, "u")
		does(t, w, write(t, 2, "a", none, "1"), api.OK)
		does(t, w, operation(2, api.DoSync, ""), api.OK)
		does(t, w, api.Step{Kind: api.StepBegin, Node: 2, Push: 1}, api.OK)
		does(t, w, api.Step{Kind: api.StepFuse, Node: 2, N: 1, Keep: keep}, api.OK)
		deliverAll(t, w)
		happened(t, "the end", w,
			api.Happening{Kind: api.HapDone, Node: 2, Time: 1, Doing: api.Doing{Kind: api.DoCheck, Session: "push-2", Seq: 1}, Done: api.Done{Why: api.ErrDown}},
			api.Happening{Kind: api.HapEnd, Node: 2, Time: 1, Push: 1, Since: 1},
			api.Happening{Kind: api.HapCrash, Node: 2, Time: 1, Keep: keep, Midst: 1})
		does(t, w, api.Step{Kind: api.StepStart, Node: 2}, api.OK)
		if got := batch.Local(w.State(2), "push-2"); got != want {
			t.Errorf("keeping %d: the checkpoint is %d", keep, got)
		}
	}
}

func TestSharing(t *testing.T) {
	c := worlding(t, "u")
	w, _ := world.New(c)
	c.Users[0], c.Owners[0], c.Rules.Clauses[0].Acts[0].Kind = "x", "x", api.ActReject
	step := write(t, 1, "g", none, `{"who":"u"}`)
	done := does(t, w, step, api.OK)
	if done.Why != api.OK {
		t.Errorf("the rules are shared: %v", done)
	}
	copied := api.Copy{Id: "c", Path: []api.Rev{done.Rev}, Body: body(t, `{"who":"u"}`)}
	does(t, w, api.Step{Kind: api.StepDo, Node: 1, Doing: api.Doing{Kind: api.DoForce, User: "u", Copy: copied}}, api.OK)
	wants := []api.Want{{Id: "q", Revs: []api.Rev{done.Rev}}}
	told := does(t, w, api.Step{Kind: api.StepDo, Node: 1, Doing: api.Doing{Kind: api.DoTold, Ask: api.Ask{User: "u", Kind: api.AskMissing, Wants: wants}}}, api.OK)
	changes := does(t, w, api.Step{Kind: api.StepDo, Node: 1, Doing: api.Doing{Kind: api.DoChanges, Most: 9}}, api.OK)
	got := does(t, w, operation(1, api.DoGet, "g"), api.OK)
	other := api.Copy{Id: "o", Path: []api.Rev{done.Rev}, Body: body(t, `{"who":"u"}`)}
	ask := func(a api.Ask) api.Done {
		a.User = "u"
		return does(t, w, api.Step{Kind: api.StepDo, Node: 1, Doing: api.Doing{Kind: api.DoTold, Ask: a}}, api.OK)
	}
	ask(api.Ask{Kind: api.AskForce, Copy: other})
	fetched := ask(api.Ask{Kind: api.AskFetch, Id: "g", Rev: done.Rev})
	asked := ask(api.Ask{Kind: api.AskChanges, Most: 9})
	before := fmt.Sprint(w.Happenings(), w.State(1))
	other.Path[0], other.Body.Keys[0] = none, "x"
	fetched.Told.Copy.Path[0], fetched.Told.Copy.Body.Keys[0], asked.Told.Changes[0].Leaves[0] = none, "x", none
	step.Doing.Body.Keys[0], copied.Path[0], copied.Body.Keys[0], wants[0].Revs[0] = "x", none, "x", none
	told.Told.Wants[0].Revs[0], changes.Changes[0].Leaves[0], got.Node.Body.Keys[0] = none, none, "x"
	for _, h := range w.Happenings() {
		for i := range h.Doing.Body.Keys {
			h.Doing.Body.Keys[i] = "y"
		}
		for i := range h.Doing.Copy.Path {
			h.Doing.Copy.Path[i] = none
		}
		for i := range h.Done.Changes {
			h.Done.Changes[i].Leaves[0] = none
		}
		for i := range h.Done.Told.Wants {
			h.Done.Told.Wants[i].Revs[0] = none
		}
		for i := range h.Doing.Ask.Copy.Path {
			h.Doing.Ask.Copy.Path[i] = none
		}
		for i := range h.Done.Told.Copy.Path {
			h.Done.Told.Copy.Path[i] = none
		}
		for i := range h.Done.Told.Changes {
			h.Done.Told.Changes[i].Leaves[0] = none
		}
		for i := range h.Doing.Ask.Wants {
			h.Doing.Ask.Wants[i].Id = "y"
		}
	}
	w.State(1).Docs[0].Tree.Nodes[0].Body.Keys[0] = "x"
	if fmt.Sprint(w.Happenings(), w.State(1)) != before {
		t.Error("the world shares")
	}
	does(t, w, api.Step{Kind: api.StepCrash, Node: 1, Keep: 99}, api.OK)
	does(t, w, api.Step{Kind: api.StepStart, Node: 1}, api.OK)
	if done := does(t, w, api.Step{Kind: api.StepDo, Node: 1, Doing: api.Doing{Kind: api.DoTold, Ask: api.Ask{User: "u", Kind: api.AskCheck}}}, api.OK); done.Told.Why != api.OK {
		t.Errorf("the users are shared: %v", done)
	}
}

// random is a step of any kind.
func random(t *testing.T, r *rand.Rand, w *world.World) api.Step {
	node := 1 + r.Intn(3)
	id := string("abcd"[r.Intn(4)])
	letter := uint64(0)
	if l := w.Net().Letters(); len(l) > 0 {
		letter = l[r.Intn(len(l))].Id
	}
	switch r.Intn(16) {
	case 0, 1, 2, 3:
		n, _ := doc.Get(w.State(node), id, none)
		s := write(t, node, id, n.Rev, []string{"1", `{"who":"u"}`, `{"who":["u","v"]}`, "[2]"}[r.Intn(4)])
		s.Doing.Deleted = r.Intn(5) / 4
		return s
	case 4:
		return operation(node, []int{api.DoSync, api.DoCompact, api.DoPurge, api.DoGet, api.DoChanges}[r.Intn(5)], id)
	case 5:
		return api.Step{Kind: api.StepBegin, Node: node, Push: r.Intn(2)}
	case 6:
		return api.Step{Kind: api.StepTick, By: 1 + r.Intn(4)}
	case 7:
		return api.Step{Kind: []int{api.StepDrop, api.StepDouble}[r.Intn(2)], Letter: letter}
	case 8:
		if r.Intn(3) == 0 {
			return api.Step{Kind: []int{api.StepCrash, api.StepFuse}[r.Intn(2)], Node: node, N: 1 + r.Intn(3), Keep: r.Intn(3), Torn: r.Intn(40)}
		}
		return api.Step{Kind: api.StepPut, From: 2, To: 1, Bytes: []byte("junk")}
	case 9:
		return api.Step{Kind: api.StepStart, Node: node}
	}
	return api.Step{Kind: api.StepDeliver, Letter: letter}
}

func look(w *world.World) string {
	s := fmt.Sprint(w.Happenings(), w.Time(), w.Steps(), w.Net().Letters())
	for node := 1; node <= w.Nodes(); node++ {
		p, q := w.Sessions(node)
		s += fmt.Sprint(w.State(node), w.Up(node), w.Life(node), w.Size(node), p, q)
	}
	return s
}

func TestIsolationCrashesAndDeterminism(t *testing.T) {
	r := rand.New(rand.NewSource(1))
	for range 25 {
		w, twin := made(t, "u", "v"), made(t, "u", "v")
		since := make([][]api.State, 4) // the states of each node since its last sync
		for node := range since {
			since[node] = []api.State{{}}
		}
		for range 150 {
			s := random(t, r, w)
			before := []api.State{{}, w.State(1), w.State(2), w.State(3)}
			up := []bool{false, w.Up(1), w.Up(2), w.Up(3)}
			to := 0
			if s.Kind == api.StepDeliver {
				if m, e := w.Net().At(s.Letter); e == api.OK {
					to = m.To
				}
			}
			n := len(w.Happenings())
			done, e := w.Do(s)
			other, f := twin.Do(s)
			if fmt.Sprint(done, e) != fmt.Sprint(other, f) {
				t.Fatal("a twin does otherwise")
			}
			for _, h := range w.Happenings()[n:] {
				if h.Time != w.Time() || h.Node < 1 || h.Node > 3 {
					t.Fatalf("%v", h)
				}
			}
			for node := 1; node <= 3; node++ {
				now := w.State(node)
				touched := s.Node == node && (s.Kind == api.StepDo || s.Kind == api.StepCrash || s.Kind == api.StepStart) || to == node
				if !touched && (!batch.SameState(now, before[node]) || up[node] != w.Up(node)) {
					t.Fatalf("node %d changes by %v", node, s)
				}
				if !up[node] && w.Up(node) {
					known := slices.ContainsFunc(since[node], func(s api.State) bool { return batch.SameState(s, now) })
					// In the midst of a step it may have done what leads to a further state.
					if last := since[node][len(since[node])-1]; !known && now.Seq < last.Seq {
						t.Fatalf("node %d has a state that it never had", node)
					}
					since[node] = []api.State{now}
				}
				if w.Up(node) {
					since[node] = append(since[node], now)
				}
				if w.Up(node) && s.Kind == api.StepDo && s.Node == node && s.Doing.Kind >= api.DoSync && done.Why == api.OK {
					since[node] = []api.State{now}
				}
			}
		}
		if look(w) != look(twin) {
			t.Fatal("a twin is otherwise")
		}
	}
}

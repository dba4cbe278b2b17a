package settle_test

import (
	"fmt"
	"math/rand"
	"slices"
	"testing"

	"tidewrack/api"
	"tidewrack/batch"
	"tidewrack/doc"
	"tidewrack/msg"
	"tidewrack/rule"
	"tidewrack/settle"
	"tidewrack/value"
	"tidewrack/world"
)

var none api.Rev

func made(t *testing.T, rooms []int, owners ...string) *world.World {
	t.Helper()
	p, _, e := rule.Parse(`channel "all" ; channel chan ; grant who "all" ; when bad = true { reject ; }`)
	if e != api.OK {
		t.Fatal(e)
	}
	if rooms == nil {
		rooms = slices.Repeat([]int{60000}, len(owners)+1)
	}
	w, e := world.New(api.Worlding{Rules: p, Users: []string{"u", "v"}, Owners: owners, Rooms: rooms})
	if e != api.OK {
		t.Fatal(e)
	}
	return w
}

func body(t *testing.T, s string) api.Value {
	t.Helper()
	v, e := value.Parse(s)
	if e != api.OK {
		t.Fatal(e)
	}
	return v
}

func does(t *testing.T, w *world.World, s api.Step) api.Done {
	t.Helper()
	done, e := w.Do(s)
	if e != api.OK {
		t.Fatalf("step %d: %v", s.Kind, e)
	}
	return done
}

// write puts a revision on the winner of a document.
func write(t *testing.T, w *world.World, node int, id, text string) api.Rev {
	t.Helper()
	n, _ := doc.Get(w.State(node), id, none)
	return does(t, w, api.Step{Kind: api.StepDo, Node: node, Doing: api.Doing{Kind: api.DoEdit, Id: id, Rev: n.Rev, Body: body(t, text)}}).Rev
}

func has(w *world.World, node int, id string) bool {
	d, ok := batch.Find(w.State(node), id)
	return ok && d.Gone == 0
}

func runs(t *testing.T, what string, w *world.World, most int, want api.Settling) {
	t.Helper()
	if got := settle.Run(w, most); got != want {
		t.Errorf("%s: %v, not %v", what, got, want)
	}
}

func TestExample(t *testing.T) {
	w := made(t, nil, "u")
	write(t, w, 1, "g", `{"who":"u"}`)
	write(t, w, 1, "d", "null")
	write(t, w, 2, "m", "1")
	if settle.Full(w, 2) {
		t.Error("full at the beginning")
	}
	runs(t, "Run", w, 9, api.Settling{Rounds: 2, Ended: 2, Quiet: 1})
	if !settle.Full(w, 2) || !has(w, 1, "m") || !has(w, 2, "d") || !has(w, 2, "g") {
		t.Error("not full")
	}
	runs(t, "again", w, 9, api.Settling{Rounds: 1, Ended: 2, Quiet: 1})
	does(t, w, api.Step{Kind: api.StepCrash, Node: 2})
	runs(t, "without the spoke", w, 9, api.Settling{Rounds: 1, Quiet: 1})
	if settle.Full(w, 2) {
		t.Error("full while down")
	}
}

func TestRunMost(t *testing.T) {
	w := made(t, nil, "u")
	write(t, w, 2, "m", "1")
	steps := w.Steps()
	for _, most := range []int{0, -1} {
		runs(t, "none", w, most, api.Settling{})
	}
	if w.Steps() != steps {
		t.Error("no round takes a step")
	}
	runs(t, "one", w, 1, api.Settling{Rounds: 1, Ended: 2})
	if w.Time() != 1+api.Again {
		t.Errorf("at %d", w.Time())
	}
	runs(t, "two", w, 2, api.Settling{Rounds: 1, Ended: 2, Quiet: 1})
}

func TestOneSpokeAlone(t *testing.T) {
	// What the spoke pulls changes its state alone.
	w := made(t, nil, "u")
	write(t, w, 1, "g", `{"who":"u"}`)
	if settle.Full(w, 2) {
		t.Error("full without the document of sequence 1")
	}
	runs(t, "a pull", w, 9, api.Settling{Rounds: 2, Ended: 2, Quiet: 1})
	// Nothing changes, but the sessions are still running.
	does(t, w, api.Step{Kind: api.StepCrash, Node: 1, Keep: 99})
	runs(t, "no hub", w, 2, api.Settling{Rounds: 2})
}

func TestCarry(t *testing.T) {
	w := made(t, nil, "u", "v")
	if n := settle.Carry(w); n != 0 {
		t.Errorf("%d", n)
	}
	for range 5 {
		does(t, w, api.Step{Kind: api.StepPut, From: 2, To: 1, Bytes: []byte("x")})
		does(t, w, api.Step{Kind: api.StepPut, From: 1, To: 3, Bytes: []byte("y")})
	}
	n := len(w.Happenings())
	if n := settle.Carry(w); n != 10 || w.Net().Count() != 0 {
		t.Errorf("%d", n)
	}
	for i, h := range w.Happenings()[n:] {
		if h.Kind != api.HapForm || h.Node != []int{1, 3}[i%2] {
			t.Errorf("%d: %v", i, h)
		}
	}
	// What comes of a message is carried, too.
	b, _ := msg.Encode(api.Packet{Kind: api.PacketAsk, Ask: api.Ask{User: "u", Kind: api.AskCheck, Session: "s"}})
	does(t, w, api.Step{Kind: api.StepPut, From: 2, To: 1, Bytes: b})
	does(t, w, api.Step{Kind: api.StepPut, From: 2, To: 1, Bytes: b})
	if n := settle.Carry(w); n != 4 {
		t.Errorf("%d", n)
	}
	does(t, w, api.Step{Kind: api.StepCrash, Node: 1})
	does(t, w, api.Step{Kind: api.StepPut, From: 2, To: 1, Bytes: b})
	if n := settle.Carry(w); n != 1 || w.Net().Count() != 0 {
		t.Errorf("to what is down: %d", n)
	}
}

func TestRound(t *testing.T) {
	w := made(t, nil, "u", "v")
	write(t, w, 1, "g", `{"who":"u"}`)
	write(t, w, 2, "m", "1")
	write(t, w, 2, "n", `{"bad":true}`)
	write(t, w, 3, "o", `{"bad":true}`)
	if s := settle.Round(w); s != (api.Settling{Rounds: 1, Ended: 4, Refused: 2}) {
		t.Errorf("%v", s)
	}
	// The order: each spoke pulls, then pushes, one after the other.
	order := ""
	for _, h := range w.Happenings() {
		if h.Kind == api.HapBegin || h.Kind == api.HapEnd {
			order += fmt.Sprint(h.Node, h.Push, " ")
		}
	}
	if order != "2 0 2 0 2 1 2 1 3 0 3 0 3 1 3 1 " {
		t.Errorf("%s", order)
	}
	if s := settle.Round(w); s != (api.Settling{Rounds: 1, Ended: 4, Quiet: 1}) {
		t.Errorf("%v", s)
	}
	// A session that is running already goes on, and none begins.
	does(t, w, api.Step{Kind: api.StepBegin, Node: 2})
	does(t, w, api.Step{Kind: api.StepDrop, Letter: w.Net().Letters()[0].Id})
	n := len(w.Happenings())
	if s := settle.Round(w); s.Ended != 4 || s.Failed != 0 {
		t.Errorf("%v", s)
	}
	for _, h := range w.Happenings()[n:] {
		if h.Kind == api.HapBegin && h.Node == 2 && h.Push == 0 {
			t.Error("it begins once more")
		}
	}
	// With the hub down, the sessions go on asking: no round is quiet.
	does(t, w, api.Step{Kind: api.StepCrash, Node: 1, Keep: 99})
	runs(t, "no hub", w, 3, api.Settling{Rounds: 3})
	if p, q := w.Sessions(2); p.Phase != api.PhaseChecks || q.Phase != api.PhaseChecks || settle.Full(w, 2) {
		t.Error("the sessions rest")
	}
	does(t, w, api.Step{Kind: api.StepStart, Node: 1})
	if s := settle.Run(w, 9); s.Quiet != 1 || s.Failed != 0 || !settle.Full(w, 2) {
		t.Errorf("%v", s)
	}
	// A failure is reported, and the round is not quiet.
	small := made(t, []int{60000, 30}, "u")
	write(t, small, 1, "g", `{"who":"u"}`)
	if s := settle.Round(small); s.Failed != 1 || s.Ended != 1 || s.Quiet != 0 {
		t.Errorf("%v", s)
	}
	runs(t, "a full disk", small, 3, api.Settling{Rounds: 3, Ended: 1, Failed: 1})
	// A node that goes down within a round: that one is not quiet.
	write(t, w, 1, "h", "1")
	does(t, w, api.Step{Kind: api.StepFuse, Node: 2, N: 1})
	if s := settle.Round(w); s.Quiet != 0 || w.Up(2) || s.Failed != 1 {
		t.Errorf("%v", s)
	}
	if s := settle.Round(w); s.Quiet != 1 {
		t.Errorf("%v", s)
	}
	// A change of checkpoints alone is quiet.
	does(t, w, api.Step{Kind: api.StepStart, Node: 2})
	settle.Run(w, 9)
	does(t, w, api.Step{Kind: api.StepDo, Node: 2, Doing: api.Doing{Kind: api.DoCheck, Session: "other", Seq: 1}})
	locals := len(w.State(1).Locals)
	does(t, w, api.Step{Kind: api.StepCrash, Node: 1, Keep: 99})
	does(t, w, api.Step{Kind: api.StepStart, Node: 1})
	if s := settle.Round(w); s.Quiet != 1 || s.Ended != 4 || len(w.State(1).Locals) != locals || batch.Local(w.State(1), api.LifeName) != w.Life(1) {
		t.Errorf("%v", s)
	}
}

func TestFullAndAlike(t *testing.T) {
	w := made(t, nil, "u", "u", "v")
	write(t, w, 1, "g", `{"who":"u"}`)
	write(t, w, 1, "a", "1")
	for _, node := range []int{0, 1, -1, 5} {
		if settle.Full(w, node) || settle.Alike(w, node, 2) || settle.Alike(w, 2, node) || settle.Alike(w, node, node) {
			t.Errorf("node %d is no spoke", node)
		}
	}
	if settle.Full(w, 2) || !settle.Full(w, 4) || !settle.Alike(w, 2, 3) || settle.Alike(w, 2, 4) || !settle.Alike(w, 2, 2) {
		t.Error("at the beginning")
	}
	settle.Run(w, 9)
	steps := w.Steps()
	if !settle.Full(w, 2) || !settle.Full(w, 3) || !settle.Alike(w, 2, 3) || settle.Alike(w, 3, 4) || w.Steps() != steps {
		t.Error("after rounds")
	}
	// Documents of the same revisions, but of other names, are not alike.
	other := made(t, nil, "u", "u")
	write(t, other, 2, "a", "1")
	write(t, other, 3, "b", "1")
	if settle.Alike(other, 2, 3) {
		t.Error("documents of other names")
	}
	mark := func(node, gone int) {
		does(t, w, api.Step{Kind: api.StepDo, Node: node, Doing: api.Doing{Kind: api.DoMark, Id: "a", Gone: gone}})
	}
	mark(2, 1)
	if settle.Full(w, 2) || settle.Alike(w, 2, 3) || settle.Alike(w, 3, 2) {
		t.Error("a document is gone")
	}
	mark(3, 1)
	if !settle.Alike(w, 2, 3) {
		t.Error("a document is gone at both")
	}
	mark(2, 0)
	mark(3, 0)
	write(t, w, 2, "a", "2")
	if settle.Alike(w, 2, 3) || !settle.Full(w, 2) {
		t.Error("a document has other leaves")
	}
	write(t, w, 3, "a", "2")
	write(t, w, 3, "own", "2")
	if settle.Alike(w, 2, 3) || settle.Alike(w, 3, 2) || !settle.Full(w, 3) {
		t.Error("one has a document more")
	}
	write(t, w, 1, "a", "3")
	if settle.Full(w, 2) {
		t.Error("a leaf is missing")
	}
	does(t, w, api.Step{Kind: api.StepCrash, Node: 3, Keep: 99})
	if settle.Alike(w, 2, 3) || settle.Alike(w, 3, 3) || settle.Full(w, 3) {
		t.Error("down")
	}
	does(t, w, api.Step{Kind: api.StepCrash, Node: 1, Keep: 99})
	if settle.Full(w, 4) {
		t.Error("the hub is down")
	}
}

func TestNoWorld(t *testing.T) {
	var none *world.World
	for _, w := range []*world.World{none, {}} {
		if settle.Carry(w) != 0 || settle.Round(w) != (api.Settling{}) || settle.Run(w, 9) != (api.Settling{}) || settle.Full(w, 2) || settle.Alike(w, 2, 2) {
			t.Error("a world that New did not make")
		}
	}
}

// revisions are all that some node that is up has.
func revisions(w *world.World) map[string]bool {
	out := map[string]bool{}
	for node := 1; node <= w.Nodes(); node++ {
		for _, d := range w.State(node).Docs {
			for _, n := range d.Tree.Nodes {
				out[fmt.Sprint(d.Id, n.Rev)] = true
			}
		}
	}
	return out
}

// random is a step that puts no messages, marks or checkpoints in directly.
func random(t *testing.T, r *rand.Rand, w *world.World) api.Step {
	node := 1 + r.Intn(3)
	id := string("abcd"[r.Intn(4)])
	letter := uint64(0)
	if l := w.Net().Letters(); len(l) > 0 {
		letter = l[r.Intn(len(l))].Id
	}
	switch r.Intn(14) {
	case 0, 1, 2, 3:
		n, _ := doc.Get(w.State(node), id, none)
		text := []string{"1", `{"who":"u"}`, `{"who":["u","v"]}`, "[2]"}[r.Intn(4)]
		return api.Step{Kind: api.StepDo, Node: node, Doing: api.Doing{Kind: api.DoEdit, Id: id, Rev: n.Rev, Deleted: r.Intn(5) / 4, Body: body(t, text)}}
	case 4:
		return api.Step{Kind: api.StepDo, Node: node, Doing: api.Doing{Kind: []int{api.DoSync, api.DoCompact, api.DoPurge}[r.Intn(3)], Id: id}}
	case 5:
		return api.Step{Kind: api.StepBegin, Node: node, Push: r.Intn(2)}
	case 6:
		return api.Step{Kind: api.StepTick, By: 1 + r.Intn(4)}
	case 7:
		return api.Step{Kind: []int{api.StepDrop, api.StepDouble}[r.Intn(2)], Letter: letter}
	case 8:
		return api.Step{Kind: []int{api.StepCrash, api.StepFuse}[r.Intn(2)], Node: node, N: 1 + r.Intn(3), Keep: r.Intn(4), Torn: r.Intn(50)}
	case 9:
		return api.Step{Kind: api.StepStart, Node: node}
	}
	return api.Step{Kind: api.StepDeliver, Letter: letter}
}

func TestRest(t *testing.T) {
	r := rand.New(rand.NewSource(1))
	quiet := 0
	for round := range 40 {
		w := made(t, nil, "u", "u")
		for range 60 {
			w.Do(random(t, r, w))
		}
		for node := 1; node <= 3; node++ {
			w.Do(api.Step{Kind: api.StepStart, Node: node})
			w.Do(api.Step{Kind: api.StepFuse, Node: node})
		}
		// A message may bring what a crash has taken from everybody else.
		for _, l := range w.Net().Letters() {
			does(t, w, api.Step{Kind: api.StepDrop, Letter: l.Id})
		}
		before, known := revisions(w), len(w.Happenings())
		s := settle.Run(w, 30)
		ended(t, w, known)
		for x := range revisions(w) {
			if !before[x] {
				t.Fatalf("round %d: a revision is invented", round)
			}
		}
		if s.Quiet == 0 {
			continue
		}
		quiet++
		for node := 2; node <= 3; node++ {
			if s.Refused == 0 && !settle.Full(w, node) {
				t.Fatalf("round %d: spoke %d is not full", round, node)
			}
		}
		if again := settle.Round(w); again.Quiet != 1 {
			t.Fatalf("round %d: a quiet round, then %v", round, again)
		}
	}
	if quiet < 30 {
		t.Errorf("%d rounds were quiet", quiet)
	}
}

// ended checks that each session that has ended left both checkpoints where it ended.
func ended(t *testing.T, w *world.World, known int) {
	t.Helper()
	last := map[string]api.Happening{}
	for _, h := range w.Happenings()[known:] {
		if h.Kind == api.HapBegin || h.Kind == api.HapEnd || h.Kind == api.HapFail {
			last[fmt.Sprint([]string{"pull-", "push-"}[h.Push], h.Node)] = h
		}
	}
	for session, h := range last {
		hub, spoke := batch.Local(w.State(1), session), batch.Local(w.State(h.Node), session)
		if h.Kind == api.HapBegin {
			t.Fatalf("%s has not ended", session)
		}
		if h.Kind == api.HapEnd && h.Since > 0 && (hub != h.Since || spoke != h.Since) {
			t.Fatalf("%s has ended at %d, but the checkpoints are %d and %d", session, h.Since, hub, spoke)
		}
	}
}

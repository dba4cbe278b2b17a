package judge_test

import (
	"fmt"
	"math/rand"
	"slices"
	"testing"

	"tidewrack/api"
	"tidewrack/batch"
	"tidewrack/doc"
	"tidewrack/judge"
	"tidewrack/model"
	"tidewrack/rev"
	"tidewrack/rule"
	"tidewrack/value"
	"tidewrack/world"
)

var none api.Rev

func worlding(t *testing.T) api.Worlding {
	t.Helper()
	p, _, e := rule.Parse(`channel "all" ; grant who "all" ; when bad = true { reject ; }`)
	if e != api.OK {
		t.Fatal(e)
	}
	return api.Worlding{Rules: p, Users: []string{"u", "v"}, Owners: []string{"u", "v"}, Rooms: []int{60000, 60000, 60000}}
}

func body(t *testing.T, s string) api.Value {
	t.Helper()
	v, e := value.Parse(s)
	if e != api.OK {
		t.Fatal(e)
	}
	return v
}

func name(t *testing.T, s string) api.Rev {
	t.Helper()
	r, e := rev.Make(none, 0, body(t, s))
	if e != api.OK {
		t.Fatal(e)
	}
	return r
}

// wrote is that a node has written a document, of a first revision.
func wrote(t *testing.T, node int, id, text string) api.Happening {
	return api.Happening{Kind: api.HapDone, Node: node, Doing: api.Doing{Kind: api.DoEdit, Id: id, Body: body(t, text)}, Done: api.Done{Rev: name(t, text)}}
}

// broke is that a node has crashed in the middle of an operation.
func broke(h api.Happening, keep, torn int) []api.Happening {
	h.Done = api.Done{Why: api.ErrDown}
	return []api.Happening{h, crash(h.Node, keep, torn, 1)}
}

func crash(node, keep, torn, midst int) api.Happening {
	return api.Happening{Kind: api.HapCrash, Node: node, Keep: keep, Torn: torn, Midst: midst}
}

func start(node int, life uint64) api.Happening {
	return api.Happening{Kind: api.HapStart, Node: node, Life: life}
}

func did(node, kind int) api.Happening {
	return api.Happening{Kind: api.HapDone, Node: node, Doing: api.Doing{Kind: kind}}
}

func session(kind, push int) api.Happening { return api.Happening{Kind: kind, Node: 2, Push: push} }

func judged(t *testing.T, what string, l []api.Happening, at, why int) {
	t.Helper()
	w := worlding(t)
	before := fmt.Sprint(w, l)
	if a, b := judge.May(w, l); a != at || b != why {
		t.Errorf("%s: %d, %d, not %d, %d", what, a, b, at, why)
	}
	s := judge.States(w, l, 2)
	if (why == api.WhyFine) != (len(s) > 0) {
		t.Errorf("%s: %d states", what, len(s))
	}
	if fmt.Sprint(w, l) != before {
		t.Errorf("%s: an argument is modified", what)
	}
}

func join(l ...any) (out []api.Happening) {
	for _, x := range l {
		switch h := x.(type) {
		case api.Happening:
			out = append(out, h)
		case []api.Happening:
			out = append(out, h...)
		}
	}
	return out
}

func TestWorlds(t *testing.T) {
	for what, change := range map[string]func(w *api.Worlding){"no owner": func(w *api.Worlding) { w.Owners, w.Rooms = nil, w.Rooms[:1] }, "four owners": func(w *api.Worlding) {
		w.Owners, w.Rooms = []string{"a", "a", "a", "a"}, make([]int, 5)
	}, "a bad owner": func(w *api.Worlding) { w.Owners[1] = "" }, "a room less": func(w *api.Worlding) { w.Rooms = w.Rooms[1:] }, "a room more": func(w *api.Worlding) { w.Rooms = append(w.Rooms, 1) },
		"a bad room": func(w *api.Worlding) { w.Rooms[2] = 65537 }, "bad users": func(w *api.Worlding) { w.Users = []string{"b", "a"} }, "bad rules": func(w *api.Worlding) { w.Rules.Clauses[0].When = 5 }} {
		w := worlding(t)
		change(&w)
		for _, l := range [][]api.Happening{nil, {{Kind: 99}}} {
			if at, why := judge.May(w, l); at != -1 || why != api.WhyWorld {
				t.Errorf("%s: %d, %d", what, at, why)
			}
		}
		if s := judge.States(w, nil, 1); len(s) != 0 {
			t.Errorf("%s: states", what)
		}
	}
	for _, owners := range [][]string{{"u"}, {"u", "u", "v"}} {
		w := worlding(t)
		w.Owners, w.Rooms = owners, make([]int, len(owners)+1)
		if at, why := judge.May(w, nil); at != -1 || why != api.WhyFine {
			t.Errorf("%v: %d, %d", owners, at, why)
		}
	}
	w := worlding(t)
	for node, want := range map[int]int{0: 0, 1: 1, 3: 1, 4: 0, -1: 0} {
		if s := judge.States(w, nil, node); len(s) != want || want == 1 && !batch.SameState(s[0], api.State{}) {
			t.Errorf("node %d: %d states", node, len(s))
		}
	}
}

func TestExamples(t *testing.T) {
	a := wrote(t, 2, "a", "1")
	again := a
	again.Done = api.Done{Why: api.ErrConflict}
	judged(t, "a conflict", join(a, again), -1, api.WhyFine)
	judged(t, "no conflict", join(a, a), 1, api.WhyAnswer)
	judged(t, "down", join(crash(2, 0, 0, 0), a), 1, api.WhyDown)
}

func TestReasons(t *testing.T) {
	a, b := wrote(t, 2, "a", "1"), wrote(t, 2, "b", "2")
	late := a
	late.Time = 5
	early := b
	early.Time = 4
	nowhere := early
	nowhere.Node = 9
	told := api.Happening{Kind: api.HapDone, Node: 1, Doing: api.Doing{Kind: api.DoTold, Ask: api.Ask{User: "u", Push: 1, Inc: 2, N: 3, Kind: api.AskForce, Copy: api.Copy{Id: "c", Path: []api.Rev{name(t, "3")}, Body: body(t, "3")}}}}
	told.Done.Told = api.Told{Push: 1, Inc: 2, N: 3, Kind: api.AskForce, Life: 1, Why: api.ErrDown}
	wrong := told
	wrong.Done.Told.Life = 2
	plain := told
	plain.Done = api.Done{Why: api.ErrDown}
	asked := told
	asked.Doing.Ask = api.Ask{User: "u", Kind: api.AskCheck}
	asked.Done.Told = api.Told{Kind: api.AskCheck, Life: 1, Why: api.ErrDown}
	get := did(2, api.DoGet)
	get.Done.Why = api.ErrDown
	rejected := wrote(t, 1, "x", `{"bad":true}`)
	rejected.Done = api.Done{Why: api.ErrDown}
	more := a
	more.Done.Count = 1
	noisy := broke(a, 0, 0)
	noisy[0].Done.Count = 1
	mid := broke(a, 0, 0)[:1]
	odd := session(api.HapBegin, 2)
	hub := session(api.HapBegin, 0)
	hub.Node = 1
	form := api.Happening{Kind: api.HapForm, Node: 2}
	begin, pushes := session(api.HapBegin, 0), session(api.HapBegin, 1)
	end, fail := session(api.HapEnd, 0), session(api.HapFail, 0)
	for what, c := range map[string]struct {
		l       []api.Happening
		at, why int
	}{
		"nothing": {nil, -1, api.WhyFine}, "time goes on": {join(early, func() api.Happening { x := a; x.Time = 4; return x }()), -1, api.WhyFine}, "time goes back": {join(late, early), 1, api.WhyTime}, "back, and nowhere": {join(late, nowhere), 1, api.WhyTime}, "nowhere": {join(nowhere), 0, api.WhyNode},
		"node 0": {join(api.Happening{Kind: api.HapForm}), 0, api.WhyNode}, "node -1": {join(api.Happening{Kind: api.HapForm, Node: -1}), 0, api.WhyNode}, "kind 0": {join(a, api.Happening{Node: 2}), 1, api.WhyNode}, "kind 8": {join(api.Happening{Node: 2, Kind: 8}), 0, api.WhyNode}, "kind -1": {join(api.Happening{Node: 2, Kind: -1}), 0, api.WhyNode},
		"more than was answered": {join(more), 0, api.WhyAnswer}, "another node's": {join(wrote(t, 1, "a", "1"), wrote(t, 2, "a", "1"), wrote(t, 3, "a", "1")), -1, api.WhyFine},
		"in the middle": {mid, -1, api.WhyFine}, "in the middle, and on": {join(mid, b), 1, api.WhyDown}, "in the middle, at another node": {join(mid, wrote(t, 3, "b", "2")), -1, api.WhyFine}, "in the middle, and a form": {join(mid, form), 1, api.WhyDown}, "in the middle, and a start": {join(mid, start(2, 2)), 1, api.WhyDown},
		"in the middle, and a crash": {broke(a, 0, 0), -1, api.WhyFine}, "in the middle, and a crash of nothing": {join(mid, crash(2, 0, 0, 0)), 1, api.WhyCrash}, "a crash in the middle of nothing": {join(a, crash(2, 0, 0, 1)), 1, api.WhyCrash}, "midst 2": {join(a, crash(2, 0, 0, 2)), 1, api.WhyCrash}, "midst -1": {join(mid, crash(2, 0, 0, -1)), 1, api.WhyCrash},
		"down, with more": {noisy[:1], 0, api.WhyAnswer}, "a query is down": {join(a, get), 1, api.WhyAnswer}, "what is rejected is down": {join(rejected), 0, api.WhyAnswer}, "told down": {join(told, crash(1, 0, 0, 1)), -1, api.WhyFine}, "told down in another life": {join(wrong), 0, api.WhyAnswer}, "told down plainly": {join(plain), 0, api.WhyAnswer},
		"asked down": {join(asked), 0, api.WhyAnswer}, "sync is down": {broke(did(2, api.DoSync), 0, 0), -1, api.WhyFine}, "compact is down": {broke(did(2, api.DoCompact), 0, 0), -1, api.WhyFine}, "a crash": {join(a, crash(2, 0, 0, 0)), -1, api.WhyFine}, "two crashes": {join(crash(2, 0, 0, 0), crash(2, 0, 0, 0)), 1, api.WhyDown}, "a crash in the middle of being down": {join(crash(2, 0, 0, 0), crash(2, 0, 0, 1)), 1, api.WhyDown},
		"a start": {join(crash(2, 0, 0, 0), start(2, 2), a), -1, api.WhyFine}, "a start of what is up": {join(start(2, 2)), 0, api.WhyDown}, "a life that is skipped": {join(crash(2, 0, 0, 0), start(2, 3)), 1, api.WhyLife}, "the same life": {join(crash(2, 0, 0, 0), start(2, 1)), 1, api.WhyLife}, "three lives": {join(crash(2, 0, 0, 0), start(2, 2), crash(2, 0, 0, 0), start(2, 3)), -1, api.WhyFine},
		"a form": {join(form), -1, api.WhyFine}, "a form while down": {join(crash(2, 0, 0, 0), form), 1, api.WhyDown}, "a session": {join(begin, end, begin, fail, begin), -1, api.WhyFine}, "both sessions": {join(begin, pushes, session(api.HapEnd, 1), end), -1, api.WhyFine}, "a session twice": {join(begin, begin), 1, api.WhySession}, "an end of nothing": {join(end), 0, api.WhySession}, "a failure of nothing": {join(fail), 0, api.WhySession},
		"an end of the other one": {join(begin, session(api.HapEnd, 1)), 1, api.WhySession}, "an end twice": {join(begin, end, end), 2, api.WhySession}, "push 2": {join(odd), 0, api.WhyNode}, "push -1": {join(session(api.HapEnd, -1)), 0, api.WhyNode}, "a session of the hub": {join(hub), 0, api.WhyNode}, "a session of the hub that is down": {join(crash(1, 0, 0, 0), hub), 1, api.WhyNode},
		"a session while down": {join(crash(2, 0, 0, 0), begin), 1, api.WhyDown}, "a session ends by a crash": {join(begin, crash(2, 0, 0, 0), start(2, 2), begin), -1, api.WhyFine}, "an end after a crash": {join(begin, crash(2, 0, 0, 0), start(2, 2), end), 3, api.WhySession}, "an end while down": {join(begin, crash(2, 0, 0, 0), end), 2, api.WhyDown}, "a failure while down": {join(begin, crash(2, 0, 0, 0), fail), 2, api.WhyDown},
		"a failure in the middle": {join(begin, mid, fail), -1, api.WhyFine}, "an end in the middle": {join(begin, mid, end), 2, api.WhyDown}, "a beginning in the middle": {join(mid, begin), 1, api.WhyDown},
	} {
		judged(t, what, c.l, c.at, c.why)
	}
}

// ids are the documents of each of the states.
func ids(l []api.State) string {
	s := ""
	for _, x := range l {
		s += "["
		for _, d := range x.Docs {
			s += d.Id
		}
		s += "]"
	}
	return s
}

func TestStates(t *testing.T) {
	a, b, c := wrote(t, 2, "a", "1"), wrote(t, 2, "b", "2"), wrote(t, 2, "c", "3")
	sync, compact := did(2, api.DoSync), did(2, api.DoCompact)
	for what, x := range map[string]struct {
		l    []api.Happening
		want string
	}{
		"written": {join(a, b), "[ab]"}, "in the middle": {join(a, broke(b, 0, 0)[:1]), "[a]"}, "kept none": {join(a, sync, b, crash(2, 0, 0, 0)), "[a]"}, "kept one": {join(a, b, crash(2, 1, 0, 0)), "[a]"}, "kept all": {join(a, b, crash(2, 9, 0, 0)), "[ab]"}, "torn whole": {join(a, b, crash(2, 0, 9999, 0)), "[a]"},
		"in the middle of a write": {join(a, sync, b, broke(c, 0, 0)), "[a]"}, "of a write, kept": {join(a, sync, b, broke(c, 2, 0)), "[abc]"}, "of a write, kept one": {join(a, sync, b, broke(c, 1, 0)), "[ab]"}, "of a write, torn whole": {join(a, broke(b, 1, 9999)), "[ab]"},
		"of a sync": {join(a, sync, b, broke(sync, 0, 0)), "[a]"}, "of a sync, kept": {join(a, sync, b, c, broke(sync, 1, 0)), "[ab]"}, "of a compaction": {join(a, sync, b, broke(compact, 0, 0)), "[a][ab]"}, "of a compaction, kept": {join(a, sync, b, broke(compact, 1, 0)), "[ab]"},
		"of a compaction, and on": {join(a, sync, b, broke(compact, 0, 0), start(2, 2), wrote(t, 2, "c", "3")), "[ac][abc]"},
	} {
		if got := ids(judge.States(worlding(t), x.l, 2)); got != x.want {
			t.Errorf("%s: %s, not %s", what, got, x.want)
		}
	}
	// What is answered then tells which of the candidates it is.
	l := join(a, sync, b, broke(compact, 0, 0), start(2, 2))
	get := api.Happening{Kind: api.HapDone, Node: 2, Doing: api.Doing{Kind: api.DoGet, Id: "b"}, Done: api.Done{Why: api.ErrNone}}
	if got := ids(judge.States(worlding(t), append(l, get), 2)); got != "[a]" {
		t.Errorf("%s", got)
	}
	s := judge.States(worlding(t), l, 2)
	s[0].Docs[0].Id = "x"
	if got := ids(judge.States(worlding(t), l, 2)); got != "[a][ab]" {
		t.Errorf("%s", got)
	}
	// A log that was compacted is shorter, which matters on a small disk: the states are the same, the candidates are not.
	l = join(a, broke(compact, 1, 0), start(2, 2))
	if got := ids(judge.States(worlding(t), l, 2)); got != "[a]" {
		t.Errorf("%s", got)
	}
	if s := judge.States(worlding(t), join(a, a), 2); len(s) != 0 {
		t.Error("states of what is impossible")
	}
}

// TestShorterLog: a compaction that crashed may have made the log shorter, if
// the last version was kept: then there is room for what would not fit otherwise.
func TestShorterLog(t *testing.T) {
	grow := func(m api.Model, n int) (api.Model, api.Happening) {
		last, _ := doc.Get(m.State, "a", none)
		d := api.Doing{Kind: api.DoEdit, Id: "a", Rev: last.Rev, Body: value.Number(int64(n))}
		next, done := model.Do(m, d)
		return next, api.Happening{Kind: api.HapDone, Node: 2, Doing: d, Done: done}
	}
	m, e := model.New(60000, api.Hubbing{})
	if e != api.OK {
		t.Fatal(e)
	}
	var l []api.Happening
	for i := range 6 {
		var h api.Happening
		m, h = grow(m, i)
		l = append(l, h)
	}
	compacted, _ := model.Do(m, api.Doing{Kind: api.DoCompact})
	_, more := grow(m, 6)
	w := worlding(t)
	w.Rooms[1] = m.Log + compacted.Log
	for keep, want := range map[int]int{0: api.WhyAnswer, 1: api.WhyFine, 2: api.WhyFine} {
		if at, why := judge.May(w, join(l, broke(did(2, api.DoCompact), keep, 0), start(2, 2), more)); why != want {
			t.Errorf("keeping %d: %d, %d", keep, at, why)
		}
	}
	// A compaction for which there is no room is answered by an error: it does not crash in the middle.
	w.Rooms[1]--
	if at, why := judge.May(w, join(l, broke(did(2, api.DoCompact), 0, 0))); at != len(l) || why != api.WhyAnswer {
		t.Errorf("%d, %d", at, why)
	}
}

// TestCandidates: there are no more candidates than may be, and equal ones are one.
func TestCandidates(t *testing.T) {
	var l []api.Happening
	life := uint64(1)
	for i := range 9 {
		l = append(l, wrote(t, 2, fmt.Sprint("n", i), fmt.Sprint(i)))
		l = append(l, broke(did(2, api.DoCompact), 0, 0)...)
		life++
		l = append(l, start(2, life))
	}
	if at, why := judge.May(worlding(t), l); why != api.WhyFine {
		t.Errorf("%d, %d", at, why)
	}
	if n := len(judge.States(worlding(t), l, 2)); n == 0 || n > api.MaxGuess {
		t.Errorf("%d states", n)
	}
	l = nil
	for life = 2; life < 40; life++ {
		l = append(l, broke(did(2, api.DoCompact), 0, 0)...)
		l = append(l, start(2, life))
	}
	if n := len(judge.States(worlding(t), l, 2)); n != 1 {
		t.Errorf("%d states", n)
	}
}

// random is a step of any kind.
func random(t *testing.T, r *rand.Rand, w *world.World, midst []int) api.Step {
	node := 1 + r.Intn(3)
	id := string("abcd"[r.Intn(4)])
	letter := uint64(0)
	if l := w.Net().Letters(); len(l) > 0 {
		letter = l[r.Intn(len(l))].Id
	}
	do := func(d api.Doing) api.Step { return api.Step{Kind: api.StepDo, Node: node, Doing: d} }
	switch r.Intn(18) {
	case 0, 1, 2:
		n, _ := doc.Get(w.State(node), id, none)
		return do(api.Doing{Kind: api.DoEdit, Id: id, Rev: n.Rev, Deleted: r.Intn(5) / 4, Body: body(t, []string{"1", `{"who":"u"}`, `{"who":["u","v"]}`, "[2]", `{"bad":true}`}[r.Intn(5)])})
	case 3:
		return do(api.Doing{Kind: []int{api.DoSync, api.DoCompact, api.DoPurge, api.DoGet, api.DoMark}[r.Intn(5)], Id: id, Gone: r.Intn(2), Most: 9})
	case 4, 5:
		return api.Step{Kind: api.StepBegin, Node: node, Push: r.Intn(2)}
	case 6:
		return api.Step{Kind: api.StepTick, By: 1 + r.Intn(4)}
	case 7:
		return api.Step{Kind: []int{api.StepDrop, api.StepDouble, api.StepPut}[r.Intn(3)], Letter: letter, From: 2, To: 1, Bytes: []byte("junk")}
	case 8:
		kind := []int{api.StepCrash, api.StepFuse}[r.Intn(2)]
		if kind == api.StepFuse && midst[node] >= 4 {
			kind = api.StepCrash
		}
		if r.Intn(2) == 0 {
			return api.Step{Kind: kind, Node: node, N: 1 + r.Intn(3), Keep: r.Intn(4), Torn: r.Intn(150)}
		}
		return do(api.Doing{Kind: api.DoCompact})
	case 9:
		return api.Step{Kind: api.StepStart, Node: node}
	}
	return api.Step{Kind: api.StepDeliver, Letter: letter}
}

// endInTheMiddle is the first happening by which a push ends although its last
// checkpoint has just crashed the spoke, or -1. Chapter 25 lets a world do so, and
// chapter 28 calls it impossible: those are the only histories that P28.4 leaves out here.
func endInTheMiddle(l []api.Happening) int {
	for i := 1; i < len(l); i++ {
		was, is := l[i-1], l[i]
		if was.Kind == api.HapDone && was.Doing.Kind == api.DoCheck && was.Done.Why == api.ErrDown && is.Kind == api.HapEnd && is.Node == was.Node && is.Push == 1 {
			return i
		}
	}
	return -1
}

func TestWorldsArePossible(t *testing.T) {
	r := rand.New(rand.NewSource(1))
	changed, possible := 0, 0
	for round := range 60 {
		c := worlding(t)
		if round%3 == 0 {
			c.Rooms = []int{900, 700, 400}
		}
		w, e := world.New(c)
		if e != api.OK {
			t.Fatal(e)
		}
		midst := make([]int, 4)
		for range 130 {
			n := len(w.Happenings())
			w.Do(random(t, r, w, midst))
			for _, h := range w.Happenings()[n:] {
				if h.Kind == api.HapCrash && h.Midst == 1 {
					midst[h.Node]++
				}
			}
		}
		l := w.Happenings()
		if i := endInTheMiddle(l); i >= 0 {
			if at, why := judge.May(c, l); at != i || why != api.WhyDown {
				t.Fatalf("round %d: an end in the middle at %d: %d, %d", round, i, at, why)
			}
			if at, why := judge.May(c, l[:i]); at != -1 || why != api.WhyFine {
				t.Fatalf("round %d: up to an end in the middle: %d, %d", round, at, why)
			}
			continue
		}
		possible++
		if at, why := judge.May(c, l); at != -1 || why != api.WhyFine {
			t.Fatalf("round %d: %d of %d is impossible by %d: %v", round, at, len(l), why, l[at].Kind)
		}
		for node := 1; node <= 3; node++ {
			s := judge.States(c, l, node)
			if w.Up(node) && !slices.ContainsFunc(s, func(s api.State) bool { return batch.SameState(s, w.State(node)) }) {
				t.Fatalf("round %d: the state of node %d is none of %d", round, node, len(s))
			}
		}
		cut := l[:r.Intn(len(l)+1)]
		if at, why := judge.May(c, cut); at != -1 || why != api.WhyFine {
			t.Fatalf("round %d: a prefix is impossible: %d, %d", round, at, why)
		}
		// A result that is replaced by a different one is impossible.
		var done []int
		for i, h := range l {
			if h.Kind == api.HapDone {
				done = append(done, i)
			}
		}
		if len(done) == 0 {
			continue
		}
		i := done[r.Intn(len(done))]
		other := slices.Clone(l)
		other[i].Done.Why = api.Errno(20 + r.Intn(5))
		if at, why := judge.May(c, other); at != i || why != api.WhyAnswer {
			t.Fatalf("round %d: %d, %d", round, at, why)
		}
		if k := done[r.Intn(len(done))]; !model.SameDone(l[i].Done, l[k].Done) {
			other[i].Done = l[k].Done
			if at, _ := judge.May(c, other); at == i {
				changed++
			}
		}
	}
	if changed == 0 {
		t.Error("no result that was replaced by another one is impossible")
	}
	if possible < 55 {
		t.Errorf("%d histories without an end in the middle", possible)
	}
}

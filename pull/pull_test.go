package pull_test

import (
	"fmt"
	"math"
	"math/rand"
	"slices"
	"testing"

	"tidewrack/api"
	"tidewrack/batch"
	"tidewrack/db"
	"tidewrack/disk"
	"tidewrack/doc"
	"tidewrack/feed"
	"tidewrack/grants"
	"tidewrack/hub"
	"tidewrack/pull"
	"tidewrack/rule"
	"tidewrack/value"
)

var none api.Rev

func number(n int) api.Value { return value.List(value.Number(int64(n))) }

// spoke is a state of a with one leaf, and b, with checkpoints for the session s.
func spoke(t *testing.T, check uint64) (s api.State, a, b api.Rev) {
	t.Helper()
	for i, id := range []string{"a", "b"} {
		d, r, e := doc.Edit(s, id, none, 0, number(i))
		if e != api.OK {
			t.Fatal(e)
		}
		a, b = b, r
		if s, e = batch.Apply(s, api.Batch{Docs: []api.Doc{d}, Locals: []api.Local{{Id: "s", Seq: check}}}); e != api.OK {
			t.Fatal(e)
		}
	}
	return s, a, b
}

func copyOf(t *testing.T, id string, n int) api.Copy {
	t.Helper()
	d, r, e := doc.Edit(api.State{}, id, none, 0, number(n))
	if e != api.OK {
		t.Fatal(e)
	}
	return api.Copy{Id: id, Path: []api.Rev{r}, Body: d.Tree.Nodes[0].Body}
}

func begun(t *testing.T) api.Pulling {
	t.Helper()
	p, e := pull.New("u", "s", 3)
	if e != api.OK {
		t.Fatal(e)
	}
	p, _, e = pull.Begin(p, 10)
	if e != api.OK {
		t.Fatal(e)
	}
	return p
}

// answer is one to the question that p has asked.
func answer(p api.Pulling, kind int, change func(t *api.Told)) api.Told {
	t := api.Told{Inc: p.Inc, N: p.N, Kind: kind, Life: 5}
	change(&t)
	return t
}

func same(t *testing.T, what string, p, want api.Pulling, works, wantWorks []api.Work, asks, wantAsks []api.Ask) {
	t.Helper()
	if !pull.Same(p, want) {
		t.Errorf("%s: the session is %v, not %v", what, p, want)
	}
	if !pull.SameWorks(works, wantWorks) {
		t.Errorf("%s: the works are %v, not %v", what, works, wantWorks)
	}
	if !pull.SameAsks(asks, wantAsks) {
		t.Errorf("%s: the questions are %v, not %v", what, asks, wantAsks)
	}
}

func TestNew(t *testing.T) {
	for _, inc := range []uint64{1, api.MaxCount} {
		if p, e := pull.New("u", "s", inc); e != api.OK || !pull.Same(p, api.Pulling{User: "u", Session: "s", Inc: inc}) {
			t.Errorf("%v, %v", p, e)
		}
	}
	for _, c := range []struct {
		user, session string
		inc           uint64
	}{{"", "s", 1}, {"u", "", 1}, {"u u", "s", 1}, {"u", "s", 0}, {"u", "s", api.MaxCount + 1}} {
		if p, e := pull.New(c.user, c.session, c.inc); e != api.ErrArg || !pull.Same(p, api.Pulling{}) {
			t.Errorf("%v: %v, %v", c, p, e)
		}
	}
}

func TestBegin(t *testing.T) {
	p := api.Pulling{User: "u", Session: "s", Inc: 2, N: 7, Since: 4, Life: 5, To: 6, Batch: []api.Change{{Id: "a"}}, Queue: []api.Want{{Id: "a"}}, Asked: 8, Done: 1, Why: 3}
	q, asks, e := pull.Begin(p, 20)
	if e != api.OK {
		t.Fatal(e)
	}
	same(t, "Begin", q, api.Pulling{User: "u", Session: "s", Inc: 2, N: 8, Phase: api.PhaseChecks, Asked: 20}, nil, nil, asks, []api.Ask{{User: "u", Inc: 2, N: 8, Kind: api.AskCheck, Session: "s"}})
	for _, phase := range []int{1, 2, 3, 4, 5, -1, 99} {
		p.Phase = phase
		if q, asks, e := pull.Begin(p, 20); e != api.ErrState || len(asks) != 0 || !pull.Same(q, api.Pulling{}) {
			t.Errorf("phase %d: %v", phase, e)
		}
	}
	for _, n := range []uint64{api.MaxCount, math.MaxUint64} {
		q, asks, e = pull.Begin(api.Pulling{User: "u", Session: "s", Inc: 2, N: n, Done: 1}, 20)
		if e != api.OK || len(asks) != 0 || q.Phase != api.PhaseRests || q.Why != api.ErrState || q.Done != 0 || q.N != n {
			t.Errorf("N %d: %v, %v, %v", n, q, asks, e)
		}
	}
	if q, asks, _ := pull.Begin(api.Pulling{User: "u", Session: "s", N: api.MaxCount - 1}, 0); q.N != api.MaxCount || len(asks) != 1 {
		t.Errorf("%v", q)
	}
}

func TestExample(t *testing.T) {
	s, _, b := spoke(t, 6)
	p := begun(t)
	p, works, asks := pull.Take(p, 11, s, answer(p, api.AskCheck, func(t *api.Told) { t.Seq = 4 }))
	base := api.Pulling{User: "u", Session: "s", Inc: 3, N: 2, Phase: api.PhaseChanges, Since: 4, Life: 5, Asked: 11}
	ask := api.Ask{User: "u", Inc: 3, N: 2, Kind: api.AskChanges, Since: 4, Most: 8}
	same(t, "checked", p, base, works, nil, asks, []api.Ask{ask})

	c := copyOf(t, "a", 50)
	change := api.Change{Id: "a", Seq: 5, Leaves: []api.Rev{c.Path[0]}}
	gone := api.Change{Id: "b", Seq: 6, Gone: 1, Rev: b, Channel: "c"}
	told := answer(p, api.AskChanges, func(t *api.Told) { t.Seq, t.Changes = 9, []api.Change{change, gone} })
	p, works, asks = pull.Take(p, 12, s, told)
	base.N, base.Phase, base.To, base.Asked, base.Batch = 3, api.PhaseFetches, 6, 12, []api.Change{change, gone}
	base.Queue = []api.Want{{Id: "a", Revs: []api.Rev{c.Path[0]}}}
	same(t, "changed", p, base, works, nil, asks, []api.Ask{{User: "u", Inc: 3, N: 3, Kind: api.AskFetch, Id: "a", Rev: c.Path[0]}})

	p, works, asks = pull.Take(p, 13, s, answer(p, api.AskFetch, func(t *api.Told) { t.Copy = c }))
	base.N, base.Phase, base.Asked, base.Queue = 4, api.PhaseSets, 13, nil
	base.Batch = []api.Change{{Id: "a", Seq: 5}, gone}
	same(t, "fetched", p, base, works, []api.Work{{Kind: api.WorkForce, Copy: c}, {Kind: api.WorkMark, Id: "b", Gone: 1}}, asks, []api.Ask{{User: "u", Inc: 3, N: 4, Kind: api.AskSet, Session: "s", Seq: 6, Life: 5}})

	p, works, asks = pull.Take(p, 14, s, answer(p, api.AskSet, func(t *api.Told) {}))
	base.N, base.Phase, base.Asked, base.Since, base.Batch = 5, api.PhaseChanges, 14, 6, nil
	ask.N, ask.Since = 5, 6
	same(t, "set", p, base, works, []api.Work{{Kind: api.WorkCheck, Session: "s", Seq: 6}}, asks, []api.Ask{ask})

	p, works, asks = pull.Take(p, 15, s, answer(p, api.AskChanges, func(t *api.Told) { t.Seq = 6 }))
	base.Phase, base.Done = api.PhaseRests, 1
	same(t, "ended", p, base, works, nil, asks, nil)
	if q, works, asks := pull.Take(p, 16, s, told); !pull.Same(p, q) || len(works)+len(asks) != 0 {
		t.Error("an answer after the end")
	}
}

func TestChecked(t *testing.T) {
	for _, c := range []struct{ hub, spoke, want uint64 }{{4, 6, 4}, {6, 4, 4}, {0, 9, 0}, {9, 0, 0}, {math.MaxUint64, 7, 7}} {
		s, _, _ := spoke(t, c.spoke)
		p := begun(t)
		if p, _, _ = pull.Take(p, 1, s, answer(p, api.AskCheck, func(t *api.Told) { t.Seq = c.hub })); p.Since != c.want || p.Life != 5 {
			t.Errorf("%v: %d", c, p.Since)
		}
	}
	s, _, _ := spoke(t, 6)
	s.Locals[0].Id = "other"
	p := begun(t)
	if p, _, _ = pull.Take(p, 1, s, answer(p, api.AskCheck, func(t *api.Told) { t.Seq = 4 })); p.Since != 0 {
		t.Errorf("%d", p.Since)
	}
}

// fetching is a session that fetches x of a, then y of a, then z of c; b is back.
func fetching(t *testing.T) (p api.Pulling, s api.State, x, y, z api.Copy) {
	t.Helper()
	s, a, b := spoke(t, 0)
	s.Docs[1].Gone = 1
	x, y, z = copyOf(t, "a", 60), copyOf(t, "a", 61), copyOf(t, "c", 62)
	p = begun(t)
	p, _, _ = pull.Take(p, 1, s, answer(p, api.AskCheck, func(t *api.Told) {}))
	p, _, asks := pull.Take(p, 2, s, answer(p, api.AskChanges, func(t *api.Told) {
		t.Changes = []api.Change{{Id: "a", Seq: 3, Leaves: []api.Rev{x.Path[0], a, y.Path[0]}}, {Id: "b", Seq: 4, Leaves: []api.Rev{b}}, {Id: "c", Seq: 7, Leaves: []api.Rev{z.Path[0]}}, {Id: "d", Seq: 8, Gone: 1}}
	}))
	want := []api.Want{{Id: "a", Revs: x.Path}, {Id: "a", Revs: y.Path}, {Id: "c", Revs: z.Path}}
	if fmt.Sprint(p.Queue) != fmt.Sprint(want) || p.To != 8 || len(asks) != 1 || asks[0].Rev != x.Path[0] {
		t.Fatalf("%v, %v", p.Queue, asks)
	}
	return p, s, x, y, z
}

func TestFetched(t *testing.T) {
	p, s, x, y, z := fetching(t)
	first := p
	for i, c := range []api.Copy{x, y, z} {
		old := p
		var works []api.Work
		var asks []api.Ask
		p, works, asks = pull.Take(p, 5, s, answer(p, api.AskFetch, func(t *api.Told) { t.Copy = c }))
		want := []api.Work{{Kind: api.WorkForce, Copy: c}}
		if i == 2 {
			want = append(want, api.Work{Kind: api.WorkMark, Id: "b", Gone: 0})
		}
		if !pull.SameWorks(works, want) || len(asks) != 1 || asks[0].N != old.N+1 || len(p.Queue) != 2-i {
			t.Errorf("%d: %v, %v", i, works, asks)
		}
		if i < 2 && (asks[0].Kind != api.AskFetch || asks[0].Rev != p.Queue[0].Revs[0]) || i == 2 && (asks[0].Kind != api.AskSet || asks[0].Seq != 8) {
			t.Errorf("%d: %v", i, asks)
		}
	}
	if len(p.Batch[0].Leaves) != 1 || len(p.Batch[1].Leaves) != 1 || len(p.Batch[2].Leaves) != 0 {
		t.Errorf("%v", p.Batch)
	}
	// Another copy than the one that was asked for is not forced, and dropped.
	other := x
	other.Id = "b"
	for what, c := range map[string]api.Copy{"another document": other, "another revision": y, "no path": {Id: "a"}, "nothing": {}} {
		q, works, asks := pull.Take(first, 5, s, answer(first, api.AskFetch, func(t *api.Told) { t.Copy = c }))
		if len(works) != 0 || len(q.Queue) != 2 || len(asks) != 1 || asks[0].Rev != y.Path[0] || len(q.Batch[0].Leaves) != 2 {
			t.Errorf("%s: %v, %v", what, works, asks)
		}
	}
	for _, why := range []api.Errno{api.ErrNone, api.ErrForbidden} {
		q, works, asks := pull.Take(first, 5, s, answer(first, api.AskFetch, func(t *api.Told) { t.Why = why }))
		if len(works) != 0 || len(q.Queue) != 2 || len(asks) != 1 || asks[0].Rev != y.Path[0] || slices.Contains(q.Batch[0].Leaves, x.Path[0]) {
			t.Errorf("%v: %v, %v", why, works, asks)
		}
	}
	q, works, asks := pull.Take(first, 5, s, answer(first, api.AskFetch, func(t *api.Told) { t.Why = api.ErrArg }))
	first.Phase, first.Why = api.PhaseRests, api.ErrArg
	same(t, "failed", q, first, works, nil, asks, nil)
}

func TestSet(t *testing.T) {
	p, s, x, y, z := fetching(t)
	for _, c := range []api.Copy{x, y, z} {
		p, _, _ = pull.Take(p, 5, s, answer(p, api.AskFetch, func(t *api.Told) { t.Copy = c }))
	}
	// What was there, and is there no more, is fetched, too.
	lost := batch.Own(s)
	lost.Docs = lost.Docs[1:]
	a := p.Batch[0].Leaves[0]
	q, works, asks := pull.Take(p, 6, lost, answer(p, api.AskSet, func(t *api.Told) {}))
	if len(works) != 0 || len(asks) != 1 || asks[0].Kind != api.AskFetch || asks[0].Rev != a || len(q.Queue) != 1 || q.Phase != api.PhaseFetches || q.Since != 0 {
		t.Errorf("%v, %v", works, asks)
	}
	q, works, asks = pull.Take(p, 6, s, answer(p, api.AskSet, func(t *api.Told) { t.Why = api.ErrState }))
	if len(works) != 0 || len(asks) != 1 || asks[0].Kind != api.AskCheck || q.Phase != api.PhaseChecks || q.N != p.N+1 {
		t.Errorf("%v, %v", works, asks)
	}
	q, works, asks = pull.Take(p, 6, s, answer(p, api.AskSet, func(t *api.Told) { t.Why = api.ErrFull }))
	if len(works)+len(asks) != 0 || q.Phase != api.PhaseRests || q.Why != api.ErrFull || q.Done != 0 {
		t.Errorf("%v", q)
	}
	q, works, _ = pull.Take(p, 6, s, answer(p, api.AskSet, func(t *api.Told) {}))
	if !pull.SameWorks(works, []api.Work{{Kind: api.WorkCheck, Session: "s", Seq: 8}}) || q.Since != 8 || len(q.Batch)+len(q.Queue) != 0 {
		t.Errorf("%v, %v", works, q)
	}
}

func TestNothingMissing(t *testing.T) {
	s, a, b := spoke(t, 0)
	p := begun(t)
	p, _, _ = pull.Take(p, 1, s, answer(p, api.AskCheck, func(t *api.Told) {}))
	q, works, asks := pull.Take(p, 2, s, answer(p, api.AskChanges, func(t *api.Told) {
		t.Changes = []api.Change{{Id: "b", Seq: 3, Gone: 1}, {Id: "a", Seq: 4, Leaves: []api.Rev{a}}, {Id: "q", Seq: 5, Gone: 1}}
	}))
	if !pull.SameWorks(works, []api.Work{{Kind: api.WorkMark, Id: "b", Gone: 1}}) || q.Phase != api.PhaseSets || len(asks) != 1 || asks[0].Kind != api.AskSet || asks[0].Seq != 5 {
		t.Errorf("%v, %v", works, asks)
	}
	// A state, or a change, of which nothing can be asked is missing nothing.
	bad := batch.Own(s)
	bad.Locals = []api.Local{{}}
	changes := []api.Change{{Id: "a", Seq: 3, Leaves: []api.Rev{{}}}, {Id: "b", Seq: 4, Leaves: []api.Rev{b, {Gen: 9}}}}
	q, _, _ = pull.Take(p, 2, bad, answer(p, api.AskChanges, func(t *api.Told) { t.Changes = changes }))
	if len(q.Queue) != 0 || q.Phase != api.PhaseSets {
		t.Errorf("%v", q)
	}
	q, _, _ = pull.Take(p, 2, s, answer(p, api.AskChanges, func(t *api.Told) { t.Changes = changes }))
	if len(q.Queue) != 1 || q.Queue[0].Id != "b" {
		t.Errorf("%v", q)
	}
}

// TestOddSessions: what was queued before does not matter, nor do leaves of what is gone.
func TestOddSessions(t *testing.T) {
	s, _, b := spoke(t, 0)
	c := copyOf(t, "c", 70)
	p := begun(t)
	p.Phase, p.Queue = api.PhaseChanges, []api.Want{{Id: "junk", Revs: []api.Rev{{Gen: 9}}}}
	told := answer(p, api.AskChanges, func(t *api.Told) {
		t.Changes = []api.Change{{Id: "b", Seq: 3, Gone: 1, Leaves: []api.Rev{b, {Gen: 4}}}, {Id: "c", Seq: 4, Leaves: c.Path}}
	})
	q, works, asks := pull.Take(p, 2, s, told)
	if len(works) != 0 || len(q.Queue) != 1 || q.Queue[0].Id != "c" || len(asks) != 1 || asks[0].Id != "c" {
		t.Errorf("%v", q)
	}
	told.Changes = told.Changes[:1]
	q, works, _ = pull.Take(p, 2, s, told)
	if q.Phase != api.PhaseSets || len(q.Queue) != 0 || len(works) != 1 {
		t.Errorf("%v, %v", q, works)
	}
	q, works, _ = pull.Take(q, 3, s, answer(q, api.AskSet, func(t *api.Told) {}))
	if q.Phase != api.PhaseChanges || len(works) != 1 || works[0].Kind != api.WorkCheck {
		t.Errorf("%v, %v", q, works)
	}
}

func TestAnswersThatDoNotCount(t *testing.T) {
	p, s, x, _, _ := fetching(t)
	good := answer(p, api.AskFetch, func(t *api.Told) { t.Copy = x })
	for what, change := range map[string]func(t *api.Told){"push": func(t *api.Told) { t.Push = 1 }, "another life": func(t *api.Told) { t.Inc++ }, "a late one": func(t *api.Told) { t.N-- }, "an early one": func(t *api.Told) { t.N++ }, "another kind": func(t *api.Told) { t.Kind = api.AskSet }, "no kind": func(t *api.Told) { t.Kind = 0 },
		"an error of another kind": func(t *api.Told) { t.Kind, t.Why = api.AskCheck, api.ErrArg }} {
		a := good
		change(&a)
		q, works, asks := pull.Take(p, 99, s, a)
		same(t, what, q, p, works, nil, asks, nil)
	}
	odd := p
	for _, phase := range []int{0, 5, 6, -1, math.MaxInt, math.MinInt} {
		odd.Phase = phase
		for kind := range 8 {
			q, works, asks := pull.Take(odd, 99, s, answer(odd, kind, func(t *api.Told) {}))
			same(t, fmt.Sprint("phase ", phase), q, odd, works, nil, asks, nil)
		}
	}
	for kind, phase := range map[int]int{api.AskCheck: api.PhaseChecks, api.AskChanges: api.PhaseChanges, api.AskFetch: api.PhaseFetches, api.AskSet: api.PhaseSets} {
		for _, why := range []api.Errno{api.ErrArg, api.ErrForm, api.ErrFull, api.ErrLong, api.ErrConflict, api.ErrReject, api.ErrFuel, api.ErrSpent, api.ErrDown, 200} {
			odd = p
			odd.Phase = phase
			q, works, asks := pull.Take(odd, 99, s, answer(odd, kind, func(t *api.Told) { t.Why = why }))
			odd.Phase, odd.Why = api.PhaseRests, why
			same(t, fmt.Sprint("why ", why), q, odd, works, nil, asks, nil)
		}
		for _, why := range []api.Errno{api.ErrNone, api.ErrForbidden, api.ErrState} {
			if kind == api.AskFetch && why != api.ErrState || kind == api.AskSet && why == api.ErrState {
				continue
			}
			odd = p
			odd.Phase = phase
			if q, _, asks := pull.Take(odd, 99, s, answer(odd, kind, func(t *api.Told) { t.Why = why })); q.Phase != api.PhaseRests || q.Why != why || len(asks) != 0 {
				t.Errorf("%v", q)
			}
		}
	}
}

func TestSpent(t *testing.T) {
	p, s, x, _, _ := fetching(t)
	p.N = api.MaxCount
	q, works, asks := pull.Take(p, 5, s, answer(p, api.AskFetch, func(t *api.Told) { t.Copy = x }))
	if len(asks) != 0 || q.Phase != api.PhaseRests || q.Why != api.ErrState || len(works) != 1 || q.N != api.MaxCount {
		t.Errorf("%v, %v", q, asks)
	}
}

func TestFailedAndTick(t *testing.T) {
	p, _, x, _, _ := fetching(t)
	q := pull.Failed(p, api.ErrFull)
	want := p
	want.Phase, want.Why = api.PhaseRests, api.ErrFull
	same(t, "Failed", q, want, nil, nil, nil, nil)
	same(t, "Failed, idle", pull.Failed(q, api.ErrArg), want, nil, nil, nil, nil)
	for now, sends := range map[uint64]bool{0: false, 2: false, 3: false, 4: false, 5: true, 6: true, math.MaxUint64: true} {
		q, asks := pull.Tick(p, now)
		want, wantAsks := p, []api.Ask(nil)
		if sends {
			want.Asked, wantAsks = now, []api.Ask{{User: "u", Inc: 3, N: p.N, Kind: api.AskFetch, Id: "a", Rev: x.Path[0]}}
		}
		same(t, fmt.Sprint("at ", now), q, want, nil, nil, asks, wantAsks)
	}
	late := p
	late.Asked = math.MaxUint64 - 1
	for _, now := range []uint64{0, 1, 2, math.MaxUint64} {
		if q, asks := pull.Tick(late, now); !pull.Same(q, late) || len(asks) != 0 {
			t.Errorf("at %d", now)
		}
	}
	for what, change := range map[string]func(p *api.Pulling){"idle": func(p *api.Pulling) { p.Phase = 0 }, "phase 5": func(p *api.Pulling) { p.Phase = 5 }, "phase -1": func(p *api.Pulling) { p.Phase = -1 }, "no queue": func(p *api.Pulling) { p.Queue = nil }, "no names": func(p *api.Pulling) { p.Queue[0].Revs = nil }} {
		odd, _, _, _, _ := fetching(t)
		change(&odd)
		if q, asks := pull.Tick(odd, 99); !pull.Same(q, odd) || len(asks) != 0 {
			t.Errorf("%s: %v", what, asks)
		}
	}
	for phase, kind := range map[int]int{api.PhaseChecks: api.AskCheck, api.PhaseChanges: api.AskChanges, api.PhaseSets: api.AskSet} {
		odd := p
		odd.Phase, odd.Queue, odd.N = phase, nil, math.MaxUint64
		if q, asks := pull.Tick(odd, 99); len(asks) != 1 || asks[0].Kind != kind || asks[0].N != math.MaxUint64 || q.Asked != 99 || q.N != odd.N {
			t.Errorf("phase %d: %v", phase, asks)
		}
	}
}

func TestSame(t *testing.T) {
	for what, change := range map[string]func(p *api.Pulling){"user": func(p *api.Pulling) { p.User = "x" }, "session": func(p *api.Pulling) { p.Session = "x" }, "inc": func(p *api.Pulling) { p.Inc++ }, "n": func(p *api.Pulling) { p.N++ }, "phase": func(p *api.Pulling) { p.Phase++ }, "since": func(p *api.Pulling) { p.Since++ }, "life": func(p *api.Pulling) { p.Life++ },
		"to": func(p *api.Pulling) { p.To++ }, "batch": func(p *api.Pulling) { p.Batch = []api.Change{{}} }, "queue": func(p *api.Pulling) { p.Queue = []api.Want{{}} }, "asked": func(p *api.Pulling) { p.Asked++ }, "done": func(p *api.Pulling) { p.Done++ }, "why": func(p *api.Pulling) { p.Why++ }} {
		var p api.Pulling
		if change(&p); pull.Same(p, api.Pulling{}) || !pull.Same(p, p) {
			t.Errorf("%s", what)
		}
	}
	lists := [][]api.Want{{{Id: "a"}}, {{Id: "b"}}, {{Id: "a", Revs: []api.Rev{{Gen: 1}}}}, {{Id: "a", Revs: []api.Rev{{Gen: 2}}}}}
	for i, x := range lists {
		for k, y := range lists {
			if pull.Same(api.Pulling{Queue: x}, api.Pulling{Queue: y}) != (i == k) || pull.SameAsks([]api.Ask{{Wants: x}}, []api.Ask{{Wants: y}}) != (i == k) {
				t.Errorf("wants %d, %d", i, k)
			}
		}
	}
	for what, a := range map[string]api.Ask{"user": {User: "x"}, "push": {Push: 1}, "inc": {Inc: 1}, "n": {N: 1}, "kind": {Kind: 1}, "session": {Session: "x"}, "since": {Since: 1}, "most": {Most: 1}, "wants": {Wants: []api.Want{{}}}, "id": {Id: "x"}, "rev": {Rev: api.Rev{Gen: 1}}, "copy": {Copy: api.Copy{Deleted: 1}}, "seq": {Seq: 1}, "life": {Life: 1}} {
		if pull.SameAsks([]api.Ask{a}, []api.Ask{{}}) || !pull.SameAsks([]api.Ask{a}, []api.Ask{a}) || pull.SameAsks([]api.Ask{a}, nil) {
			t.Errorf("%s", what)
		}
	}
	for what, w := range map[string]api.Work{"kind": {Kind: 1}, "copy": {Copy: api.Copy{Id: "x"}}, "id": {Id: "x"}, "gone": {Gone: 1}, "session": {Session: "x"}, "seq": {Seq: 1}} {
		if pull.SameWorks([]api.Work{w}, []api.Work{{}}) || !pull.SameWorks([]api.Work{w}, []api.Work{w}) || pull.SameWorks(nil, []api.Work{w}) {
			t.Errorf("%s", what)
		}
	}
	if !pull.SameAsks(nil, []api.Ask{}) || !pull.SameWorks(nil, []api.Work{}) || !pull.Same(api.Pulling{}, api.Pulling{Batch: []api.Change{}, Queue: []api.Want{}}) {
		t.Error("nil and empty differ")
	}
}

func TestArgumentsAreKept(t *testing.T) {
	p, s, x, _, _ := fetching(t)
	before, state := fmt.Sprint(p), fmt.Sprint(s)
	told := answer(p, api.AskFetch, func(t *api.Told) { t.Copy = x })
	answered := fmt.Sprint(told)
	q, works, _ := pull.Take(p, 5, s, told)
	r, _ := pull.Tick(p, 99)
	f := pull.Failed(p, 1)
	for _, y := range []api.Pulling{q, r, f} {
		y.Queue[0].Revs[0], y.Batch[0].Leaves[0], y.Batch[2].Id = none, none, "x"
	}
	works[0].Copy.Path[0], works[0].Copy.Body.List[0].Num = none, 9
	c := begun(t)
	c, _, _ = pull.Take(c, 1, s, answer(c, api.AskCheck, func(t *api.Told) {}))
	changes := []api.Change{{Id: "a", Seq: 1, Leaves: []api.Rev{{Gen: 4}}}}
	d, _, asks := pull.Take(c, 1, s, answer(c, api.AskChanges, func(t *api.Told) { t.Changes = changes }))
	d.Batch[0].Leaves[0], d.Queue[0].Revs[0] = none, none
	if fmt.Sprint(p) != before || fmt.Sprint(s) != state || fmt.Sprint(told) != answered || changes[0].Leaves[0].Gen != 4 || asks[0].Rev.Gen != 4 {
		t.Error("an argument is modified, or shared")
	}
}

// TestCompleteness pulls from a hub, by answers that come, come twice, or come late.
func TestCompleteness(t *testing.T) {
	r := rand.New(rand.NewSource(1))
	program, _, _ := rule.Parse("channel chan ; grant user see ;")
	bodies := []string{`{"chan":"c"}`, `{"chan":"d"}`, `{"see":"c","user":"u"}`, `{"see":["c","d"],"user":["u","v"]}`, "{}", `{"chan":["c","d"]}`}
	for range 30 {
		one, _ := disk.New(60000)
		two, _ := disk.New(60000)
		h, e := hub.Open(one, api.Hubbing{Rules: program, Users: []string{"u", "v"}, Life: 1})
		b, f := db.Open(two)
		p, g := pull.New("u", "s", 1)
		if e != api.OK || f != api.OK || g != api.OK {
			t.Fatal(e, f, g)
		}
		for round := range 4 {
			for range 12 {
				id := fmt.Sprint("n", r.Intn(14))
				n, _ := doc.Get(h.State(), id, none)
				text := bodies[r.Intn(len(bodies))]
				v, _ := value.Parse(text)
				h.Edit(id, n.Rev, r.Intn(5)/4, v)
				if r.Intn(12) == 0 {
					h.Purge(id)
				}
			}
			var asks []api.Ask
			var late []api.Told
			p, asks, e = pull.Begin(p, uint64(round))
			if e != api.OK {
				t.Fatal(e)
			}
			last, checked := p.N, uint64(0)
			for steps := 0; len(asks) > 0; steps++ {
				if steps > 1000 {
					t.Fatal("it does not end")
				}
				told := h.Told(asks[0])
				if len(late) > 0 && r.Intn(3) == 0 {
					if q, works, asks := pull.Take(p, 1, b.State(), late[r.Intn(len(late))]); !pull.Same(p, q) || len(works)+len(asks) != 0 {
						t.Fatal("a late answer has an effect")
					}
				}
				late = append(late, told)
				var works []api.Work
				p, works, asks = pull.Take(p, 1, b.State(), told)
				if len(asks) > 0 && asks[0].N <= last {
					t.Fatal("numbers do not increase")
				}
				last = p.N
				for _, w := range works {
					switch w.Kind {
					case api.WorkForce:
						_, e = b.Force(w.Copy)
					case api.WorkMark:
						_, e = b.Mark(w.Id, w.Gone)
					case api.WorkCheck:
						checked = w.Seq
						e = b.Check(w.Session, w.Seq)
					}
					if e != api.OK {
						t.Fatal(e)
					}
				}
			}
			if p.Done != 1 || p.Why != api.OK {
				t.Fatalf("%v", p.Why)
			}
			hs, bs := h.State(), b.State()
			l := feed.Last(hs, "u")
			if p.Since != l || l > 0 && (batch.Local(hs, "s") != l || batch.Local(bs, "s") != l) || checked > l {
				t.Fatalf("at %d, not %d", p.Since, l)
			}
			for _, c := range feed.Changes(hs, "u", 0, 99) {
				d, ok := batch.Find(bs, c.Id)
				if c.Gone == 1 && ok && d.Gone != 1 {
					t.Fatal("not taken away")
				}
				if c.Gone == 0 {
					w, _ := doc.Missing(bs, api.Want{Id: c.Id, Revs: c.Leaves})
					if len(w) != 0 || d.Gone != 0 || !grants.Sees(hs, "u", c.Id) {
						t.Fatal("not all leaves")
					}
				}
			}
		}
	}
}

package push_test

import (
	"fmt"
	"math"
	"math/rand"
	"slices"
	"testing"

	"tidewrack/api"
	"tidewrack/batch"
	"tidewrack/db"
	"tidewrack/disk"
	"tidewrack/doc"
	"tidewrack/hub"
	"tidewrack/pull"
	"tidewrack/push"
	"tidewrack/rule"
	"tidewrack/value"
)

var none api.Rev

func number(n int) api.Value { return value.List(value.Number(int64(n))) }

// put adds a revision to a document of the state.
func put(t *testing.T, s api.State, id string, parent api.Rev, n int) (api.State, api.Rev) {
	t.Helper()
	d, r, e := doc.Edit(s, id, parent, 0, number(n))
	if e != api.OK {
		t.Fatal(e)
	}
	if s, e = batch.Apply(s, api.Batch{Docs: []api.Doc{d}}); e != api.OK {
		t.Fatal(e)
	}
	return s, r
}

// spoke is a state of a with two leaves, b, and c, which is gone; with a checkpoint for the session s.
func spoke(t *testing.T, check uint64) (s api.State, a []api.Rev, b api.Rev) {
	t.Helper()
	s, _ = put(t, s, "a", none, 0)
	other, _, _ := doc.Edit(api.State{}, "a", none, 0, number(1))
	d, n, e := doc.Force(s, api.Copy{Id: "a", Path: []api.Rev{other.Tree.Nodes[0].Rev}, Body: number(1)})
	if n != 1 || e != api.OK {
		t.Fatal(e)
	}
	if s, e = batch.Apply(s, api.Batch{Docs: []api.Doc{d}, Locals: []api.Local{{Id: "s", Seq: check}}}); e != api.OK {
		t.Fatal(e)
	}
	s, b = put(t, s, "b", none, 2)
	s, _ = put(t, s, "c", none, 3)
	s.Docs[2].Gone = 1
	return s, doc.Changes(s, 0, 1)[0].Leaves, b
}

func answer(p api.Pushing, kind int, change func(t *api.Told)) api.Told {
	t := api.Told{Push: 1, Inc: p.Inc, N: p.N, Kind: kind, Life: 5}
	change(&t)
	return t
}

func same(t *testing.T, what string, p, want api.Pushing, works, wantWorks []api.Work, asks, wantAsks []api.Ask) {
	t.Helper()
	if !push.Same(p, want) {
		t.Errorf("%s: the session is %v, not %v", what, p, want)
	}
	if !pull.SameWorks(works, wantWorks) {
		t.Errorf("%s: the works are %v, not %v", what, works, wantWorks)
	}
	if !pull.SameAsks(asks, wantAsks) {
		t.Errorf("%s: the questions are %v, not %v", what, asks, wantAsks)
	}
}

func begun(t *testing.T) api.Pushing {
	t.Helper()
	p, e := push.New("u", "s", 3)
	if e != api.OK {
		t.Fatal(e)
	}
	if p, _, e = push.Begin(p, 10); e != api.OK {
		t.Fatal(e)
	}
	return p
}

func TestNew(t *testing.T) {
	for _, inc := range []uint64{1, api.MaxCount} {
		if p, e := push.New("u", "s", inc); e != api.OK || !push.Same(p, api.Pushing{User: "u", Session: "s", Inc: inc}) {
			t.Errorf("%v, %v", p, e)
		}
	}
	for _, c := range []struct {
		user, session string
		inc           uint64
	}{{"", "s", 1}, {"u", "", 1}, {"u", "s s", 1}, {"u", "s", 0}, {"u", "s", api.MaxCount + 1}} {
		if p, e := push.New(c.user, c.session, c.inc); e != api.ErrArg || !push.Same(p, api.Pushing{}) {
			t.Errorf("%v: %v, %v", c, p, e)
		}
	}
}

func TestBegin(t *testing.T) {
	p := api.Pushing{User: "u", Session: "s", Inc: 2, N: 7, Since: 4, Life: 5, To: 6, Batch: []api.Change{{Id: "a"}}, Queue: []api.Want{{Id: "a"}}, Asked: 8, Done: 1, Why: 3, Refused: 4}
	q, asks, e := push.Begin(p, 20)
	if e != api.OK {
		t.Fatal(e)
	}
	same(t, "Begin", q, api.Pushing{User: "u", Session: "s", Inc: 2, N: 8, Phase: api.PhaseChecks, Asked: 20}, nil, nil, asks, []api.Ask{{User: "u", Push: 1, Inc: 2, N: 8, Kind: api.AskCheck, Session: "s"}})
	for _, phase := range []int{1, 4, 5, 6, -1, 99} {
		p.Phase = phase
		if q, asks, e := push.Begin(p, 20); e != api.ErrState || len(asks) != 0 || !push.Same(q, api.Pushing{}) {
			t.Errorf("phase %d: %v", phase, e)
		}
	}
	for _, n := range []uint64{api.MaxCount, math.MaxUint64} {
		q, asks, e = push.Begin(api.Pushing{User: "u", Session: "s", Inc: 2, N: n, Done: 1}, 20)
		if e != api.OK || len(asks) != 0 || q.Phase != api.PhaseRests || q.Why != api.ErrState || q.Done != 0 || q.N != n {
			t.Errorf("N %d: %v, %v, %v", n, q, asks, e)
		}
	}
}

func TestExample(t *testing.T) {
	s, a, b := spoke(t, 9)
	p := begun(t)
	p, works, asks := push.Take(p, 11, s, answer(p, api.AskCheck, func(t *api.Told) { t.Seq = 0 }))
	changes := []api.Change{{Id: "a", Seq: 2, Leaves: a}, {Id: "b", Seq: 3, Leaves: []api.Rev{b}}, {Id: "c", Seq: 4, Gone: 1}}
	base := api.Pushing{User: "u", Session: "s", Inc: 3, N: 2, Phase: api.PhaseMisses, Life: 5, To: 4, Asked: 11, Batch: changes}
	same(t, "checked", p, base, works, nil, asks, []api.Ask{{User: "u", Push: 1, Inc: 3, N: 2, Kind: api.AskMissing, Wants: []api.Want{{Id: "a", Revs: a}, {Id: "b", Revs: []api.Rev{b}}, {Id: "c"}}}})

	p, works, asks = push.Take(p, 12, s, answer(p, api.AskMissing, func(t *api.Told) {
		t.Wants = []api.Want{{Id: "a", Revs: []api.Rev{a[1], b}}, {Id: "q", Revs: a}, {Id: "b", Revs: []api.Rev{b}}, {Id: "c", Revs: a}}
	}))
	c, _ := doc.Fetch(s, "a", a[1])
	base.N, base.Phase, base.Asked, base.Queue = 3, api.PhaseForces, 12, []api.Want{{Id: "a", Revs: a[1:]}, {Id: "b", Revs: []api.Rev{b}}}
	same(t, "missed", p, base, works, nil, asks, []api.Ask{{User: "u", Push: 1, Inc: 3, N: 3, Kind: api.AskForce, Copy: c}})

	p, works, asks = push.Take(p, 13, s, answer(p, api.AskForce, func(t *api.Told) { t.Why = api.ErrReject }))
	d, _ := doc.Fetch(s, "b", b)
	base.N, base.Asked, base.Queue, base.Refused = 4, 13, base.Queue[1:], 1
	base.Batch = []api.Change{{Id: "a", Seq: 2, Leaves: a[:1]}, changes[1], changes[2]}
	same(t, "refused", p, base, works, nil, asks, []api.Ask{{User: "u", Push: 1, Inc: 3, N: 4, Kind: api.AskForce, Copy: d}})

	// One leaf, which the hub had, is left: the hub is asked once more.
	p, works, asks = push.Take(p, 14, s, answer(p, api.AskForce, func(t *api.Told) { t.Count = 1 }))
	base.N, base.Asked, base.Queue, base.Phase = 5, 14, nil, api.PhaseMisses
	base.Batch = []api.Change{{Id: "a", Seq: 2, Leaves: a[:1]}, {Id: "b", Seq: 3}, changes[2]}
	same(t, "forced", p, base, works, nil, asks, []api.Ask{{User: "u", Push: 1, Inc: 3, N: 5, Kind: api.AskMissing, Wants: []api.Want{{Id: "a", Revs: a[:1]}, {Id: "b"}, {Id: "c"}}}})

	p, works, asks = push.Take(p, 15, s, answer(p, api.AskMissing, func(t *api.Told) {}))
	base.N, base.Asked, base.Phase = 6, 15, api.PhaseSets
	same(t, "nothing is missing", p, base, works, nil, asks, []api.Ask{{User: "u", Push: 1, Inc: 3, N: 6, Kind: api.AskSet, Session: "s", Seq: 4, Life: 5}})

	p, works, asks = push.Take(p, 16, s, answer(p, api.AskSet, func(t *api.Told) {}))
	base.Phase, base.Since, base.Batch, base.Done = api.PhaseRests, 4, nil, 1
	same(t, "set", p, base, works, []api.Work{{Kind: api.WorkCheck, Session: "s", Seq: 4}}, asks, nil)
}

func TestChecked(t *testing.T) {
	for _, c := range []struct{ hub, spoke, want uint64 }{{1, 3, 1}, {3, 1, 1}, {0, 9, 0}, {9, 0, 0}, {2, math.MaxInt32, 2}} {
		s, _, _ := spoke(t, c.spoke)
		p := begun(t)
		if p, _, _ = push.Take(p, 1, s, answer(p, api.AskCheck, func(t *api.Told) { t.Seq = c.hub })); p.Since != c.want || p.Life != 5 || p.Batch[0].Seq <= c.want {
			t.Errorf("%v: %d", c, p.Since)
		}
	}
	s, _, _ := spoke(t, 4)
	p := begun(t)
	p, works, asks := push.Take(p, 1, s, answer(p, api.AskCheck, func(t *api.Told) { t.Seq = 4 }))
	if len(works)+len(asks) != 0 || p.Phase != api.PhaseRests || p.Done != 1 || p.Since != 4 {
		t.Errorf("nothing to push: %v", p)
	}
	for i := range 12 {
		s, _ = put(t, s, fmt.Sprint("n", i), none, i)
	}
	p = begun(t)
	if p, _, _ = push.Take(p, 1, s, answer(p, api.AskCheck, func(t *api.Told) {})); len(p.Batch) != 8 || p.To != p.Batch[7].Seq {
		t.Errorf("a batch of %d", len(p.Batch))
	}
}

// forcing is a session that forces both leaves of a, and b.
func forcing(t *testing.T) (api.Pushing, api.State) {
	t.Helper()
	s, a, b := spoke(t, 0)
	p := begun(t)
	p, _, _ = push.Take(p, 1, s, answer(p, api.AskCheck, func(t *api.Told) {}))
	p, _, asks := push.Take(p, 2, s, answer(p, api.AskMissing, func(t *api.Told) {
		t.Wants = []api.Want{{Id: "a", Revs: a}, {Id: "b", Revs: []api.Rev{b}}}
	}))
	if len(p.Queue) != 3 || len(asks) != 1 || asks[0].Kind != api.AskForce {
		t.Fatalf("%v", p)
	}
	return p, s
}

func TestForced(t *testing.T) {
	p, s := forcing(t)
	for _, why := range []api.Errno{api.ErrReject, api.ErrForbidden, api.ErrFuel} {
		q, works, asks := push.Take(p, 3, s, answer(p, api.AskForce, func(t *api.Told) { t.Why = why }))
		if q.Refused != 1 || len(q.Queue) != 2 || len(works) != 0 || len(asks) != 1 || asks[0].Kind != api.AskForce || len(q.Batch[0].Leaves) != 1 {
			t.Errorf("%v: %v", why, q)
		}
	}
	for _, why := range []api.Errno{api.ErrArg, api.ErrFull, api.ErrNone, api.ErrState, api.ErrLong, api.ErrConflict, api.ErrSpent, api.ErrDown} {
		q, works, asks := push.Take(p, 3, s, answer(p, api.AskForce, func(t *api.Told) { t.Why = why }))
		want := p
		want.Phase, want.Why = api.PhaseRests, why
		same(t, fmt.Sprint(why), q, want, works, nil, asks, nil)
	}
	// All are forced: nothing is left, and the checkpoint is set.
	q := p
	var asks []api.Ask
	for range 3 {
		q, _, asks = push.Take(q, 3, s, answer(q, api.AskForce, func(t *api.Told) {}))
	}
	if q.Phase != api.PhaseSets || len(asks) != 1 || asks[0].Kind != api.AskSet || asks[0].Seq != 4 {
		t.Errorf("%v", q)
	}
	// What is no leaf any more is dropped on the way.
	grown, _ := put(t, s, "a", p.Queue[1].Revs[0], 70)
	q, _, asks = push.Take(p, 3, grown, answer(p, api.AskForce, func(t *api.Told) {}))
	if len(q.Queue) != 1 || q.Queue[0].Id != "b" || len(asks) != 1 || asks[0].Copy.Id != "b" || len(q.Batch[0].Leaves) != 0 {
		t.Errorf("%v", q)
	}
	// So is what is left of the batch when all of the queue goes.
	less := batch.Own(s)
	less.Docs = less.Docs[2:]
	q, _, asks = push.Take(p, 3, less, answer(p, api.AskForce, func(t *api.Told) {}))
	if q.Phase != api.PhaseSets || len(asks) != 1 || len(q.Queue) != 0 {
		t.Errorf("%v", q)
	}
	odd := p
	odd.Queue = []api.Want{odd.Queue[0], {Id: "a", Revs: []api.Rev{{}}}, {Id: "a"}, odd.Queue[2]}
	q, _, asks = push.Take(odd, 3, s, answer(p, api.AskForce, func(t *api.Told) {}))
	if len(q.Queue) != 1 || q.Queue[0].Id != "b" || asks[0].Copy.Id != "b" {
		t.Errorf("%v", q)
	}
}

// TestOddSessions: what was queued before does not matter; with nothing queued, an answer goes on as well.
func TestOddSessions(t *testing.T) {
	p, s := forcing(t)
	p.Queue = nil
	q, works, asks := push.Take(p, 3, s, answer(p, api.AskForce, func(t *api.Told) {}))
	if q.Phase != api.PhaseMisses || len(works) != 0 || len(asks) != 1 {
		t.Errorf("%v", q)
	}
	asks[0].Wants[0].Revs[0] = none
	if q.Batch[0].Leaves[0] == none {
		t.Error("a question shares with the session")
	}
	p.Phase, p.Queue = api.PhaseMisses, []api.Want{{Id: "a", Revs: p.Batch[0].Leaves}}
	q, _, asks = push.Take(p, 3, s, answer(p, api.AskMissing, func(t *api.Told) { t.Wants = []api.Want{{Id: "b", Revs: p.Batch[1].Leaves}} }))
	if len(q.Queue) != 1 || q.Queue[0].Id != "b" || len(asks) != 1 || asks[0].Copy.Id != "b" {
		t.Errorf("%v", q)
	}
	for phase, kind := range map[int]int{api.PhaseChecks: api.AskCheck, api.PhaseMisses: api.AskMissing, api.PhaseForces: api.AskForce} {
		odd := p
		odd.Phase = phase
		if q, _, asks := push.Take(odd, 3, s, answer(odd, kind, func(t *api.Told) { t.Why = api.ErrState })); q.Phase != api.PhaseRests || q.Why != api.ErrState || len(asks) != 0 {
			t.Errorf("phase %d: %v", phase, q)
		}
		for _, why := range []api.Errno{api.ErrReject, api.ErrForbidden, api.ErrFuel} {
			if kind == api.AskForce {
				continue
			}
			if q, _, asks := push.Take(odd, 3, s, answer(odd, kind, func(t *api.Told) { t.Why = why })); q.Phase != api.PhaseRests || q.Why != why || q.Refused != 0 || len(asks) != 0 {
				t.Errorf("phase %d: %v", phase, q)
			}
		}
	}
}

func TestMissed(t *testing.T) {
	s, a, b := spoke(t, 0)
	p := begun(t)
	p, _, _ = push.Take(p, 1, s, answer(p, api.AskCheck, func(t *api.Told) {}))
	for what, wants := range map[string][]api.Want{"none": nil, "others": {{Id: "a", Revs: []api.Rev{b}}, {Id: "q", Revs: a}, {Id: "b"}, {Id: "a", Revs: []api.Rev{{}}}}} {
		q, works, asks := push.Take(p, 2, s, answer(p, api.AskMissing, func(t *api.Told) { t.Wants = wants }))
		if q.Phase != api.PhaseSets || len(q.Queue)+len(works) != 0 || len(asks) != 1 || asks[0].Kind != api.AskSet || len(q.Batch[0].Leaves) != 2 {
			t.Errorf("%s: %v", what, q)
		}
	}
	// A leaf that has grown since is not sent; it is not after a copy, so the checkpoint is set.
	grown, _ := put(t, s, "b", b, 70)
	q, _, asks := push.Take(p, 2, grown, answer(p, api.AskMissing, func(t *api.Told) { t.Wants = []api.Want{{Id: "b", Revs: []api.Rev{b}}} }))
	if q.Phase != api.PhaseSets || len(asks) != 1 || len(q.Batch[1].Leaves) != 0 {
		t.Errorf("%v", q)
	}
	q, works, asks := push.Take(p, 2, s, answer(p, api.AskMissing, func(t *api.Told) { t.Why = api.ErrArg }))
	if q.Phase != api.PhaseRests || q.Why != api.ErrArg || len(works)+len(asks) != 0 {
		t.Errorf("%v", q)
	}
}

func TestSet(t *testing.T) {
	p, s := forcing(t)
	p.Phase = api.PhaseSets
	q, works, asks := push.Take(p, 3, s, answer(p, api.AskSet, func(t *api.Told) { t.Why = api.ErrState }))
	if q.Phase != api.PhaseChecks || len(works) != 0 || len(asks) != 1 || asks[0].Kind != api.AskCheck || asks[0].Push != 1 {
		t.Errorf("%v", q)
	}
	q, works, asks = push.Take(p, 3, s, answer(p, api.AskSet, func(t *api.Told) { t.Why = api.ErrReject }))
	if q.Phase != api.PhaseRests || q.Why != api.ErrReject || len(works)+len(asks) != 0 || q.Refused != 0 {
		t.Errorf("%v", q)
	}
	// What has changed meanwhile is pushed next.
	more, r := put(t, s, "z", none, 4)
	q, works, asks = push.Take(p, 3, more, answer(p, api.AskSet, func(t *api.Told) {}))
	if q.Since != 4 || q.To != 5 || len(q.Batch) != 1 || !slices.Equal(q.Batch[0].Leaves, []api.Rev{r}) || len(asks) != 1 || asks[0].Kind != api.AskMissing || !pull.SameWorks(works, []api.Work{{Kind: api.WorkCheck, Session: "s", Seq: 4}}) {
		t.Errorf("%v, %v", q, works)
	}
}

func TestAnswersThatDoNotCount(t *testing.T) {
	p, s := forcing(t)
	good := answer(p, api.AskForce, func(t *api.Told) {})
	for what, change := range map[string]func(t *api.Told){"pull": func(t *api.Told) { t.Push = 0 }, "another life": func(t *api.Told) { t.Inc++ }, "a late one": func(t *api.Told) { t.N-- }, "an early one": func(t *api.Told) { t.N++ }, "another kind": func(t *api.Told) { t.Kind = api.AskSet }, "an error of another kind": func(t *api.Told) { t.Kind, t.Why = api.AskCheck, api.ErrArg }} {
		a := good
		change(&a)
		q, works, asks := push.Take(p, 99, s, a)
		same(t, what, q, p, works, nil, asks, nil)
	}
	odd := p
	for _, phase := range []int{0, 2, 3, 7, -1, math.MaxInt, math.MinInt} {
		odd.Phase = phase
		for kind := range 8 {
			q, works, asks := push.Take(odd, 99, s, answer(odd, kind, func(t *api.Told) {}))
			same(t, fmt.Sprint("phase ", phase), q, odd, works, nil, asks, nil)
		}
		if q, asks := push.Tick(odd, 99, s); !push.Same(q, odd) || len(asks) != 0 {
			t.Errorf("phase %d: Tick", phase)
		}
	}
	p.N = api.MaxCount
	q, _, asks := push.Take(p, 5, s, answer(p, api.AskForce, func(t *api.Told) {}))
	if len(asks) != 0 || q.Phase != api.PhaseRests || q.Why != api.ErrState || q.N != api.MaxCount {
		t.Errorf("spent: %v", q)
	}
}

func TestFailedAndTick(t *testing.T) {
	p, s := forcing(t)
	want := p
	want.Phase, want.Why = api.PhaseRests, api.ErrFull
	same(t, "Failed", push.Failed(p, api.ErrFull), want, nil, nil, nil, nil)
	same(t, "Failed, idle", push.Failed(want, api.ErrArg), want, nil, nil, nil, nil)
	c, _ := doc.Fetch(s, "a", p.Queue[0].Revs[0])
	ask := api.Ask{User: "u", Push: 1, Inc: 3, N: p.N, Kind: api.AskForce, Copy: c}
	for now, sends := range map[uint64]bool{0: false, 2: false, 4: false, 5: true, math.MaxUint64: true} {
		q, asks := push.Tick(p, now, s)
		want, wantAsks := p, []api.Ask(nil)
		if sends {
			want.Asked, wantAsks = now, []api.Ask{ask}
		}
		same(t, fmt.Sprint("at ", now), q, want, nil, nil, asks, wantAsks)
	}
	late := p
	late.Asked = math.MaxUint64 - 1
	if q, asks := push.Tick(late, 1, s); !push.Same(q, late) || len(asks) != 0 {
		t.Error("before it asked")
	}
	// What is no leaf any more is not sent: the hub is asked what it has not.
	grown, _ := put(t, s, "a", p.Queue[0].Revs[0], 70)
	want = p
	want.Phase, want.Queue, want.N, want.Asked = api.PhaseMisses, nil, p.N+1, 9
	missing := api.Ask{User: "u", Push: 1, Inc: 3, N: p.N + 1, Kind: api.AskMissing}
	for _, x := range p.Batch {
		missing.Wants = append(missing.Wants, api.Want{Id: x.Id, Revs: x.Leaves})
	}
	q, asks := push.Tick(p, 9, grown)
	same(t, "no leaf", q, want, nil, nil, asks, []api.Ask{missing})
	for what, change := range map[string]func(p *api.Pushing){"no queue": func(p *api.Pushing) { p.Queue = nil }, "no names": func(p *api.Pushing) { p.Queue[0].Revs = nil }, "the zero name": func(p *api.Pushing) { p.Queue[0].Revs[0] = none }} {
		odd, _ := forcing(t)
		change(&odd)
		q, asks := push.Tick(odd, 9, s)
		same(t, what, q, want, nil, nil, asks, []api.Ask{missing})
	}
	for phase, kind := range map[int]int{api.PhaseChecks: api.AskCheck, api.PhaseMisses: api.AskMissing, api.PhaseSets: api.AskSet} {
		odd := p
		odd.Phase, odd.N, odd.Queue = phase, math.MaxUint64, nil
		if q, asks := push.Tick(odd, 99, s); len(asks) != 1 || asks[0].Kind != kind || asks[0].N != math.MaxUint64 || q.Asked != 99 || q.N != odd.N || q.Phase != phase {
			t.Errorf("phase %d: %v", phase, asks)
		}
	}
	odd := p
	odd.N = api.MaxCount
	if q, asks := push.Tick(odd, 99, grown); q.Phase != api.PhaseRests || q.Why != api.ErrState || len(asks) != 0 {
		t.Errorf("spent: %v", q)
	}
}

func TestSame(t *testing.T) {
	for what, change := range map[string]func(p *api.Pushing){"user": func(p *api.Pushing) { p.User = "x" }, "session": func(p *api.Pushing) { p.Session = "x" }, "inc": func(p *api.Pushing) { p.Inc++ }, "n": func(p *api.Pushing) { p.N++ }, "phase": func(p *api.Pushing) { p.Phase++ }, "since": func(p *api.Pushing) { p.Since++ }, "life": func(p *api.Pushing) { p.Life++ }, "refused": func(p *api.Pushing) { p.Refused++ },
		"to": func(p *api.Pushing) { p.To++ }, "batch": func(p *api.Pushing) { p.Batch = []api.Change{{}} }, "queue": func(p *api.Pushing) { p.Queue = []api.Want{{}} }, "asked": func(p *api.Pushing) { p.Asked++ }, "done": func(p *api.Pushing) { p.Done++ }, "why": func(p *api.Pushing) { p.Why++ }} {
		var p api.Pushing
		if change(&p); push.Same(p, api.Pushing{}) || !push.Same(p, p) {
			t.Errorf("%s", what)
		}
	}
	lists := [][]api.Want{{{Id: "a"}}, {{Id: "b"}}, {{Id: "a", Revs: []api.Rev{{Gen: 1}}}}, {{Id: "a", Revs: []api.Rev{{Gen: 2}}}}}
	for i, x := range lists {
		for k, y := range lists {
			if push.Same(api.Pushing{Queue: x}, api.Pushing{Queue: y}) != (i == k) {
				t.Errorf("wants %d, %d", i, k)
			}
		}
	}
	if !push.Same(api.Pushing{}, api.Pushing{Batch: []api.Change{}, Queue: []api.Want{}}) {
		t.Error("Same")
	}
}

func TestArgumentsAreKept(t *testing.T) {
	p, s := forcing(t)
	before, state := fmt.Sprint(p), fmt.Sprint(s)
	q, _, asks := push.Take(p, 5, s, answer(p, api.AskForce, func(t *api.Told) {}))
	r, again := push.Tick(p, 99, s)
	f := push.Failed(p, 1)
	odd := p
	odd.Phase = api.PhaseMisses
	_, missing := push.Tick(odd, 99, s)
	missing[0].Wants[0].Revs[0] = none
	for _, y := range []api.Pushing{q, r, f} {
		y.Queue[0].Revs[0], y.Batch[0].Leaves[0], y.Batch[2].Id = none, none, "x"
	}
	asks[0].Copy.Body.List[0].Num, again[0].Copy.Path[0] = 9, none
	told := answer(odd, api.AskMissing, func(t *api.Told) { t.Wants = []api.Want{{Id: "b", Revs: []api.Rev{p.Queue[2].Revs[0]}}} })
	q, _, _ = push.Take(odd, 1, s, told)
	q.Queue[0].Revs[0] = none
	if fmt.Sprint(p) != before || fmt.Sprint(s) != state || told.Wants[0].Revs[0] == none {
		t.Error("an argument is modified, or shared")
	}
}

// TestCompleteness pushes to a hub that accepts everything, by answers that come, or come late.
func TestCompleteness(t *testing.T) {
	r := rand.New(rand.NewSource(1))
	program, _, _ := rule.Parse(`when no = true { reject ; }`)
	for round := range 40 {
		one, _ := disk.New(60000)
		two, _ := disk.New(60000)
		h, e := hub.Open(one, api.Hubbing{Rules: program, Users: []string{"u"}, Life: 1})
		b, f := db.Open(two)
		p, g := push.New("u", "s", 1)
		if e != api.OK || f != api.OK || g != api.OK {
			t.Fatal(e, f, g)
		}
		for range 4 {
			for i := range 12 {
				id := fmt.Sprint("n", r.Intn(14))
				n, _ := doc.Get(b.State(), id, none)
				if n.Rev.Gen >= 8 {
					continue
				}
				body := number(i)
				if round%2 == 1 && r.Intn(6) == 0 {
					body, _ = value.Parse(`{"no":true}`)
				}
				b.Edit(id, n.Rev, r.Intn(5)/4, body)
				if c, e := doc.Fetch(b.State(), id, none); e == api.OK && len(c.Path) > 1 && r.Intn(3) == 0 {
					x, _, _ := doc.Edit(api.State{}, id, none, 0, number(100+r.Intn(3)))
					b.Force(api.Copy{Id: id, Path: []api.Rev{x.Tree.Nodes[0].Rev}, Body: x.Tree.Nodes[0].Body})
				}
			}
			var asks []api.Ask
			var late []api.Told
			if p, asks, e = push.Begin(p, 1); e != api.OK {
				t.Fatal(e)
			}
			refused, last := 0, p.N
			for steps := 0; len(asks) > 0; steps++ {
				if steps > 2000 {
					t.Fatal("it does not end")
				}
				told := h.Told(asks[0])
				if told.Why == api.ErrReject {
					refused++
				}
				if len(late) > 0 && r.Intn(3) == 0 {
					if q, works, asks := push.Take(p, 1, b.State(), late[r.Intn(len(late))]); !push.Same(p, q) || len(works)+len(asks) != 0 {
						t.Fatal("a late answer has an effect")
					}
				}
				late = append(late, told)
				var works []api.Work
				p, works, asks = push.Take(p, 1, b.State(), told)
				if len(asks) > 0 && asks[0].N <= last {
					t.Fatal("numbers do not increase")
				}
				last = p.N
				for _, w := range works {
					if w.Kind != api.WorkCheck || b.Check(w.Session, w.Seq) != api.OK {
						t.Fatalf("%v", w)
					}
				}
			}
			hs, bs := h.State(), b.State()
			if p.Done != 1 || p.Refused != refused || p.Since != bs.Seq && len(bs.Docs) > 0 {
				t.Fatalf("%v, %d refused", p, refused)
			}
			if len(bs.Docs) > 0 && (batch.Local(hs, "s") != bs.Seq || batch.Local(bs, "s") != bs.Seq) {
				t.Fatal("the checkpoints")
			}
			for _, c := range doc.Changes(bs, 0, 99) {
				if w, _ := doc.Missing(hs, api.Want{Id: c.Id, Revs: c.Leaves}); len(w) != 0 && round%2 == 0 {
					t.Fatal("not all leaves")
				}
			}
		}
	}
}

package peer_test

import (
	"fmt"
	"math/rand"
	"slices"
	"testing"

	"tidewrack/api"
	"tidewrack/batch"
	"tidewrack/disk"
	"tidewrack/doc"
	"tidewrack/grants"
	"tidewrack/msg"
	"tidewrack/peer"
	"tidewrack/pull"
	"tidewrack/push"
	"tidewrack/rule"
	"tidewrack/value"
)

var none api.Rev

const source = `channel "all" ; grant who "all" ; when bad = true { reject ; }`

func made(t *testing.T, capacity int) *disk.Disk {
	t.Helper()
	d, e := disk.New(capacity)
	if e != api.OK {
		t.Fatal(e)
	}
	return d
}

func hubbing(t *testing.T, users ...string) api.Hubbing {
	t.Helper()
	p, _, e := rule.Parse(source)
	if e != api.OK {
		t.Fatal(e)
	}
	return api.Hubbing{Rules: p, Users: users, Life: 1}
}

func open(t *testing.T, d *disk.Disk, p api.Peering) *peer.Peer {
	t.Helper()
	x, e := peer.New(d, p)
	if e != api.OK || x == nil {
		t.Fatalf("New: %v", e)
	}
	return x
}

func pair(t *testing.T) (h, s *peer.Peer, d *disk.Disk) {
	t.Helper()
	d = made(t, 60000)
	return open(t, made(t, 60000), api.Peering{Node: 1, Made: hubbing(t, "u")}), open(t, d, api.Peering{Node: 2, User: "u", Inc: 1}), d
}

func body(t *testing.T, s string) api.Value {
	t.Helper()
	v, e := value.Parse(s)
	if e != api.OK {
		t.Fatal(e)
	}
	return v
}

func edit(t *testing.T, p *peer.Peer, id, text string) api.Rev {
	t.Helper()
	n, _ := doc.Get(p.State(), id, none)
	done := p.Do(api.Doing{Kind: api.DoEdit, Id: id, Rev: n.Rev, Body: body(t, text)})
	if done.Why != api.OK || done.Rev.Gen != n.Rev.Gen+1 {
		t.Fatalf("%s: %v", id, done)
	}
	return done.Rev
}

func encoded(t *testing.T, p api.Packet) []byte {
	t.Helper()
	b, e := msg.Encode(p)
	if e != api.OK {
		t.Fatal(e)
	}
	return b
}

func question(t *testing.T, a api.Ask) []byte {
	return encoded(t, api.Packet{Kind: api.PacketAsk, Ask: a})
}

func answer(t *testing.T, x api.Told) []byte {
	return encoded(t, api.Packet{Kind: api.PacketTold, Told: x})
}

func kinds(l []api.Happening) string {
	s := ""
	for _, h := range l {
		s += fmt.Sprint(h.Kind)
		if h.Kind == api.HapDone {
			s += fmt.Sprint(".", h.Doing.Kind)
		}
		s += " "
	}
	return s
}

// exchange delivers all packets between a hub and a spoke, in order, and returns what happened at both.
func exchange(t *testing.T, h, s *peer.Peer, came api.Came) (haps []api.Happening) {
	t.Helper()
	haps = came.Haps
	posts := came.Posts
	for steps := 0; len(posts) > 0; steps++ {
		if steps > 3000 {
			t.Fatal("it does not end")
		}
		p := posts[0]
		posts = posts[1:]
		var next api.Came
		if p.To == 1 {
			next = h.Take(7, 2, p.Bytes)
		} else {
			next = s.Take(7, 1, p.Bytes)
		}
		haps, posts = append(haps, next.Haps...), append(posts, next.Posts...)
	}
	return haps
}

func session(t *testing.T, h, s *peer.Peer, direction int) []api.Happening {
	t.Helper()
	came, e := s.Begin(5, direction)
	if e != api.OK {
		t.Fatal(e)
	}
	return exchange(t, h, s, came)
}

func TestNew(t *testing.T) {
	d := made(t, 100)
	good := hubbing(t, "u")
	bad := good
	bad.Users = []string{"v", "u"}
	for what, c := range map[string]struct {
		d    *disk.Disk
		p    api.Peering
		want api.Errno
	}{
		"hub at 2": {d, api.Peering{Node: 2, Made: good, User: "u", Inc: 1}, api.ErrArg}, "hub at 0": {nil, api.Peering{Made: good}, api.ErrArg}, "a bad hub": {nil, api.Peering{Node: 1, Made: bad}, api.ErrArg}, "hub without a disk": {nil, api.Peering{Node: 1, Made: good}, api.ErrDown},
		"spoke at 1": {d, api.Peering{Node: 1, User: "u", Inc: 1}, api.ErrArg}, "spoke at 5": {d, api.Peering{Node: 5, User: "u", Inc: 1}, api.ErrArg}, "spoke at 0": {nil, api.Peering{User: "u", Inc: 1}, api.ErrArg}, "spoke of nobody": {nil, api.Peering{Node: 2, Inc: 1}, api.ErrArg},
		"spoke in no life": {nil, api.Peering{Node: 2, User: "u"}, api.ErrArg}, "spoke of too many lives": {nil, api.Peering{Node: 2, User: "u", Inc: api.MaxCount + 1}, api.ErrArg}, "spoke without a disk": {nil, api.Peering{Node: 2, User: "u", Inc: 1}, api.ErrDown},
	} {
		if p, e := peer.New(c.d, c.p); p != nil || e != c.want {
			t.Errorf("%s: %v", what, e)
		}
	}
	h := open(t, d, api.Peering{Node: 1, Made: good})
	if !h.Hub() || !pull.Same(h.Pulls(), api.Pulling{}) || !push.Same(h.Pushes(), api.Pushing{}) {
		t.Error("a hub")
	}
	for node := 2; node <= 4; node++ {
		s := open(t, made(t, 100), api.Peering{Node: node, User: "u", Inc: 9})
		if s.Hub() || !pull.Same(s.Pulls(), api.Pulling{User: "u", Session: fmt.Sprint("pull-", node), Inc: 9}) || !push.Same(s.Pushes(), api.Pushing{User: "u", Session: fmt.Sprint("push-", node), Inc: 9}) {
			t.Errorf("%v", s.Pulls())
		}
	}
}

func TestExample(t *testing.T) {
	h, s, _ := pair(t)
	edit(t, h, "g", `{"who":"u"}`)
	r := edit(t, h, "d", "null")
	came, e := s.Begin(3, 0)
	if e != api.OK || len(came.Posts) != 1 || came.Posts[0].To != 1 || fmt.Sprint(came.Haps) != fmt.Sprint([]api.Happening{{Kind: api.HapBegin, Node: 2, Time: 3}}) {
		t.Fatalf("%v, %v", came, e)
	}
	if w := question(t, api.Ask{User: "u", Inc: 1, N: 1, Kind: api.AskCheck, Session: "pull-2"}); !slices.Equal(came.Posts[0].Bytes, w) {
		t.Errorf("%x", came.Posts[0].Bytes)
	}
	if _, e := s.Begin(3, 0); e != api.ErrState {
		t.Errorf("%v", e)
	}
	haps := exchange(t, h, s, came)
	if got := kinds(haps); got != "2 1.8 1.8 1.8 1.2 1.8 1.2 1.8 1.5 1.8 3 " {
		t.Errorf("%s", got)
	}
	last := haps[len(haps)-1]
	if fmt.Sprint(last) != fmt.Sprint(api.Happening{Kind: api.HapEnd, Node: 2, Time: 7, Since: 2}) {
		t.Errorf("%v", last)
	}
	if done := s.Do(api.Doing{Kind: api.DoGet, Id: "d"}); done.Why != api.OK || done.Node.Rev != r {
		t.Errorf("%v", done)
	}
	if came := h.Take(4, 2, []byte("x")); fmt.Sprint(came) != fmt.Sprint(api.Came{Haps: []api.Happening{{Kind: api.HapForm, Node: 1, Time: 4, Why: api.ErrForm}}}) {
		t.Errorf("%v", came)
	}
	if came, e := h.Begin(0, 0); e != api.ErrArg || len(came.Posts)+len(came.Haps) != 0 {
		t.Errorf("%v", e)
	}
	for _, direction := range []int{2, -1} {
		if _, e := s.Begin(0, direction); e != api.ErrArg {
			t.Errorf("%v", e)
		}
	}
	edit(t, s, "m", "1")
	edit(t, s, "n", `{"bad":true}`)
	haps = session(t, h, s, 1)
	last = haps[len(haps)-1]
	if got := kinds(haps); got != "2 1.8 1.8 1.8 1.8 1.8 1.5 3 " && got != "2 1.8 1.8 1.8 1.8 1.8 1.8 1.5 3 " || last.Push != 1 || last.Count != 1 || last.Since != 4 || haps[0].Push != 1 {
		t.Errorf("%s, %v", got, last)
	}
	if _, e := doc.Get(h.State(), "m", none); e != api.OK {
		t.Errorf("%v", e)
	}
}

func TestDo(t *testing.T) {
	h, s, d := pair(t)
	same := func(what string, got, want api.Done) {
		t.Helper()
		if fmt.Sprint(got) != fmt.Sprint(want) {
			t.Errorf("%s: %v, not %v", what, got, want)
		}
	}
	failed := func(e api.Errno) api.Done { return api.Done{Why: e} }
	for _, p := range []*peer.Peer{h, s} {
		for _, kind := range []int{0, -1, 11, 1 << 40} {
			same("no kind", p.Do(api.Doing{Kind: kind, Id: "a"}), failed(api.ErrArg))
		}
		r := edit(t, p, "a", "1")
		same("a conflict", p.Do(api.Doing{Kind: api.DoEdit, Id: "a", Body: body(t, "2")}), failed(api.ErrConflict))
		n, _ := doc.Get(p.State(), "a", r)
		same("get", p.Do(api.Doing{Kind: api.DoGet, Id: "a", Rev: r}), api.Done{Node: n})
		same("get nothing", p.Do(api.Doing{Kind: api.DoGet, Id: "q"}), failed(api.ErrNone))
		same("changes", p.Do(api.Doing{Kind: api.DoChanges, Most: 5}), api.Done{Changes: []api.Change{{Id: "a", Seq: 1, Leaves: []api.Rev{r}}}})
		same("no changes", p.Do(api.Doing{Kind: api.DoChanges, Most: 5, Since: 1}), api.Done{})
		c, _ := doc.Fetch(p.State(), "a", none)
		c.Id = "b"
		same("force", p.Do(api.Doing{Kind: api.DoForce, Copy: c, User: "u"}), api.Done{Count: 1})
		same("force nothing", p.Do(api.Doing{Kind: api.DoForce, User: "u"}), failed(api.ErrArg))
		same("purge", p.Do(api.Doing{Kind: api.DoPurge, Id: "b"}), api.Done{})
		same("purge again", p.Do(api.Doing{Kind: api.DoPurge, Id: "b"}), failed(api.ErrNone))
		same("sync", p.Do(api.Doing{Kind: api.DoSync}), api.Done{})
		same("compact", p.Do(api.Doing{Kind: api.DoCompact}), api.Done{})
		same("delete", api.Done{Why: p.Do(api.Doing{Kind: api.DoEdit, Id: "a", Rev: r, Deleted: 1}).Why}, api.Done{})
	}
	if d.Waits() != 1 {
		t.Errorf("Sync, or Compact, does nothing: %d", d.Waits())
	}
	c := api.Copy{Id: "b", Path: []api.Rev{edit(t, s, "z", "7")}, Body: body(t, "7")}
	same("force at a spoke", s.Do(api.Doing{Kind: api.DoForce, Copy: c}), api.Done{Count: 1})
	same("force again", s.Do(api.Doing{Kind: api.DoForce, Copy: c}), api.Done{})
	same("force by nobody", h.Do(api.Doing{Kind: api.DoForce, Copy: c}), failed(api.ErrForbidden))
	same("mark", s.Do(api.Doing{Kind: api.DoMark, Id: "a", Gone: 1}), api.Done{Count: 1})
	same("mark again", s.Do(api.Doing{Kind: api.DoMark, Id: "a", Gone: 1}), api.Done{})
	same("mark nothing", s.Do(api.Doing{Kind: api.DoMark, Id: "q", Gone: 1}), failed(api.ErrNone))
	same("mark at a hub", h.Do(api.Doing{Kind: api.DoMark, Id: "a", Gone: 1}), failed(api.ErrArg))
	same("check", s.Do(api.Doing{Kind: api.DoCheck, Session: "x", Seq: 5}), api.Done{})
	same("a bad check", s.Do(api.Doing{Kind: api.DoCheck}), failed(api.ErrArg))
	same("check at a hub", h.Do(api.Doing{Kind: api.DoCheck, Session: "x", Seq: 5}), failed(api.ErrArg))
	same("told", h.Do(api.Doing{Kind: api.DoTold, Ask: api.Ask{User: "u", Kind: api.AskCheck, N: 4}}), api.Done{Told: api.Told{Kind: api.AskCheck, N: 4, Life: 1}})
	same("told an error", h.Do(api.Doing{Kind: api.DoTold, Ask: api.Ask{User: "x", Kind: api.AskCheck}}), api.Done{Told: api.Told{Kind: api.AskCheck, Life: 1, Why: api.ErrForbidden}})
	same("told at a spoke", s.Do(api.Doing{Kind: api.DoTold, Ask: api.Ask{User: "u", Kind: api.AskCheck}}), failed(api.ErrArg))
	if batch.Local(s.State(), "x") != 5 {
		t.Error("the checkpoint")
	}
}

func TestPurgeFailsSessions(t *testing.T) {
	_, s, _ := pair(t)
	edit(t, s, "a", "1")
	s.Begin(1, 0)
	s.Do(api.Doing{Kind: api.DoPurge, Id: "q"})
	if s.Pulls().Phase == api.PhaseRests {
		t.Error("a Purge that fails ends a session")
	}
	s.Do(api.Doing{Kind: api.DoPurge, Id: "a"})
	if p, q := s.Pulls(), s.Pushes(); p.Phase != api.PhaseRests || p.Why != api.ErrState || q.Why != api.OK {
		t.Errorf("%v, %v", p, q)
	}
	edit(t, s, "a", "1")
	s.Begin(1, 0)
	s.Begin(1, 1)
	s.Do(api.Doing{Kind: api.DoPurge, Id: "a"})
	if p, q := s.Pulls(), s.Pushes(); p.Phase != api.PhaseRests || p.Why != api.ErrState || q.Phase != api.PhaseRests || q.Why != api.ErrState {
		t.Errorf("%v, %v", p, q)
	}
}

func TestTakeWhatIsNotMeant(t *testing.T) {
	h, s, _ := pair(t)
	ask := question(t, api.Ask{User: "u", Kind: api.AskCheck, Session: "x"})
	told := answer(t, api.Told{Kind: api.AskCheck, Life: 1})
	for what, c := range map[string]struct {
		p    *peer.Peer
		from int
		b    []byte
	}{"nothing": {h, 2, nil}, "a cut one": {h, 2, ask[1:]}, "a longer one": {h, 2, append(slices.Clone(ask), 0)}, "an answer to a hub": {h, 2, told}, "from a hub": {h, 1, ask}, "from nobody": {h, 0, ask}, "from -1": {h, -1, ask},
		"a question to a spoke": {s, 1, ask}, "a question to a spoke, from a spoke": {s, 3, ask}, "an answer to a hub, from a hub": {h, 1, told}, "an answer from a spoke": {s, 3, told}, "an answer from 0": {s, 0, told}, "nothing to a spoke": {s, 1, nil}} {
		before := fmt.Sprint(c.p.State(), c.p.Pulls(), c.p.Pushes())
		came := c.p.Take(9, c.from, c.b)
		if len(came.Posts) != 0 || len(came.Haps) != 1 || came.Haps[0].Kind != api.HapForm || came.Haps[0].Why != api.ErrForm || came.Haps[0].Time != 9 || fmt.Sprint(c.p.State(), c.p.Pulls(), c.p.Pushes()) != before {
			t.Errorf("%s: %v", what, came)
		}
	}
	if came := s.Take(9, 1, told); len(came.Posts)+len(came.Haps) != 0 {
		t.Errorf("an answer that does not count: %v", came)
	}
	for _, from := range []int{2, 4, 77} {
		came := h.Take(9, from, ask)
		want := api.Happening{Kind: api.HapDone, Node: 1, Time: 9, Doing: api.Doing{Kind: api.DoTold, Ask: api.Ask{User: "u", Kind: api.AskCheck, Session: "x"}}, Done: api.Done{Told: api.Told{Kind: api.AskCheck, Life: 1}}}
		if len(came.Posts) != 1 || came.Posts[0].To != from || !slices.Equal(came.Posts[0].Bytes, told) || fmt.Sprint(came.Haps) != fmt.Sprint([]api.Happening{want}) {
			t.Errorf("%v", came)
		}
	}
}

func TestTick(t *testing.T) {
	h, s, _ := pair(t)
	if came := s.Tick(9); len(came.Posts)+len(came.Haps) != 0 {
		t.Errorf("idle: %v", came)
	}
	one, _ := s.Begin(5, 0)
	two, _ := s.Begin(6, 1)
	for now, want := range map[uint64]int{5: 0, 7: 0, 0: 0} {
		if came := s.Tick(now); len(came.Posts) != want || len(came.Haps) != 0 {
			t.Errorf("at %d: %v", now, came)
		}
	}
	if came := s.Tick(8); len(came.Posts) != 1 || !slices.Equal(came.Posts[0].Bytes, one.Posts[0].Bytes) || came.Posts[0].To != 1 {
		t.Errorf("%v", came)
	}
	if came := s.Tick(11); len(came.Posts) != 2 || !slices.Equal(came.Posts[0].Bytes, one.Posts[0].Bytes) || !slices.Equal(came.Posts[1].Bytes, two.Posts[0].Bytes) || s.Pulls().Asked != 11 || s.Pushes().Asked != 11 {
		t.Errorf("%v", came)
	}
	if came := h.Tick(99); len(came.Posts)+len(came.Haps) != 0 {
		t.Errorf("a hub: %v", came)
	}
}

// TestWorksThatFail fills the spoke's disk so that a work of a session cannot be done.
func TestWorksThatFail(t *testing.T) {
	pushes := map[api.Errno]int{}
	for capacity := 0; capacity < 420; capacity += 7 {
		h := open(t, made(t, 60000), api.Peering{Node: 1, Made: hubbing(t, "u")})
		s := open(t, made(t, capacity), api.Peering{Node: 2, User: "u", Inc: 1})
		edit(t, h, "g", `{"who":"u"}`)
		edit(t, h, "d", "null")
		last, why := lastAndFailed(session(t, h, s, 0))
		want := api.Happening{Kind: api.HapFail, Node: 2, Time: 7, Why: why}
		if why == api.OK {
			want = api.Happening{Kind: api.HapEnd, Node: 2, Time: 7, Since: s.Pulls().Since}
		}
		if p := s.Pulls(); fmt.Sprint(last) != fmt.Sprint(want) || p.Phase != api.PhaseRests || p.Why != why || p.Done == 1 != (why == api.OK) {
			t.Fatalf("capacity %d: %v, %v", capacity, last, p)
		}
		// The only checkpoint of the push is its last one: the session has ended before the work is done.
		last, why = lastAndFailed(session(t, h, s, 1))
		pushes[why]++
		seq := s.State().Seq
		want = api.Happening{Kind: api.HapEnd, Node: 2, Time: 7, Push: 1, Since: seq}
		if p := s.Pushes(); fmt.Sprint(last) != fmt.Sprint(want) || p.Phase != api.PhaseRests || p.Why != api.OK || p.Done != 1 || p.Since != seq {
			t.Fatalf("capacity %d: %v, %v", capacity, last, p)
		}
		if l := batch.Local(s.State(), "push-2"); why == api.OK && l != seq || why != api.OK && l != 0 {
			t.Fatalf("capacity %d: %v, but the checkpoint is %d", capacity, why, l)
		}
	}
	if pushes[api.OK] == 0 || pushes[api.ErrFull] == 0 || len(pushes) != 2 {
		t.Errorf("%v", pushes)
	}
}

// lastAndFailed is the last happening, and the error of the work of the spoke that failed.
func lastAndFailed(haps []api.Happening) (last api.Happening, why api.Errno) {
	for _, x := range haps {
		if x.Kind == api.HapDone && x.Node == 2 && x.Done.Why != api.OK {
			why = x.Done.Why
		}
	}
	return haps[len(haps)-1], why
}

// TestLastCheckThatFails: the last checkpoint of a push fails, for whatever
// reason, when the session has ended already: it stays as it is.
func TestLastCheckThatFails(t *testing.T) {
	for _, want := range []api.Errno{api.ErrDown, api.ErrFull} {
		capacity := 60000
		if want == api.ErrFull {
			_, s, d := pair(t)
			edit(t, s, "a", "1")
			edit(t, s, "n", `{"bad":true}`)
			capacity = d.Bytes()
		}
		d := made(t, capacity)
		h, s := open(t, made(t, 60000), api.Peering{Node: 1, Made: hubbing(t, "u")}), open(t, d, api.Peering{Node: 2, User: "u", Inc: 1})
		edit(t, s, "a", "1")
		edit(t, s, "n", `{"bad":true}`)
		came, _ := s.Begin(1, 1)
		reply := h.Take(1, 2, came.Posts[0].Bytes)
		for reply.Haps[0].Doing.Ask.Kind != api.AskSet {
			came = s.Take(1, 1, reply.Posts[0].Bytes)
			reply = h.Take(1, 2, came.Posts[0].Bytes)
		}
		if want == api.ErrDown {
			d.Fuse(1, 0, 0)
		}
		came = s.Take(3, 1, reply.Posts[0].Bytes)
		haps := []api.Happening{
			{Kind: api.HapDone, Node: 2, Time: 3, Doing: api.Doing{Kind: api.DoCheck, Session: "push-2", Seq: 2}, Done: api.Done{Why: want}},
			{Kind: api.HapEnd, Node: 2, Time: 3, Push: 1, Since: 2, Count: 1},
		}
		if fmt.Sprint(came.Haps) != fmt.Sprint(haps) || len(came.Posts) != 0 {
			t.Errorf("%v: %v", want, came)
		}
		if p := s.Pushes(); p.Phase != api.PhaseRests || p.Done != 1 || p.Why != api.OK || p.Since != 2 || p.Refused != 1 {
			t.Errorf("%v: %v", want, p)
		}
		// The answer once more: it does not count any more.
		if came := s.Take(3, 1, reply.Posts[0].Bytes); len(came.Haps)+len(came.Posts) != 0 {
			t.Errorf("%v: %v", want, came)
		}
	}
}

// TestCheckThatFails: a checkpoint fails while there is more to be pushed.
func TestCheckThatFails(t *testing.T) {
	h, s, d := pair(t)
	for i := range 10 {
		edit(t, s, fmt.Sprint("n", i), "1")
	}
	came, _ := s.Begin(1, 1)
	var haps []api.Happening
	for len(came.Posts) > 0 {
		reply := h.Take(1, 2, came.Posts[0].Bytes)
		if reply.Haps[0].Doing.Ask.Kind == api.AskSet {
			d.Fuse(1, 0, 0)
		}
		came = s.Take(1, 1, reply.Posts[0].Bytes)
		haps = append(haps, came.Haps...)
	}
	if p := s.Pushes(); kinds(haps) != "1.5 4 " || p.Phase != api.PhaseRests || p.Why != api.ErrDown || p.Done != 0 {
		t.Errorf("%s: %v", kinds(haps), p)
	}
	edit(t, h, "x", "1")
	_, s, _ = pair(t)
	for i := range 3 {
		edit(t, s, fmt.Sprint("n", i), "[1]")
	}
	came, _ = s.Begin(1, 1)
	for range 2 {
		reply := h.Take(1, 2, came.Posts[0].Bytes)
		came = s.Take(1, 1, reply.Posts[0].Bytes)
	}
	before := fmt.Sprint(s.Pushes())
	p := s.Pushes()
	p.Batch[0].Leaves[0], p.Queue[0].Revs[0], p.Queue[0].Id, p.Batch[0].Id = none, none, "x", "x"
	if fmt.Sprint(s.Pushes()) != before {
		t.Error("the session is shared")
	}
}

func TestNoPeer(t *testing.T) {
	var none *peer.Peer
	for _, p := range []*peer.Peer{none, {}} {
		if done := p.Do(api.Doing{Kind: api.DoSync}); fmt.Sprint(done) != fmt.Sprint(api.Done{Why: api.ErrArg}) {
			t.Errorf("%v", done)
		}
		if _, e := p.Begin(1, 0); e != api.ErrArg {
			t.Errorf("%v", e)
		}
		if fmt.Sprint(p.Take(1, 2, nil), p.Tick(9)) != fmt.Sprint(api.Came{}, api.Came{}) || p.Hub() || !batch.SameState(p.State(), api.State{}) || p.Pulls().User != "" || p.Pushes().User != "" {
			t.Error("a peer that New did not make")
		}
	}
}

func TestSharing(t *testing.T) {
	h, s, _ := pair(t)
	edit(t, h, "g", `{"who":"u"}`)
	edit(t, h, "d", "[1]")
	came, _ := s.Begin(1, 0)
	for range 2 {
		reply := h.Take(1, 2, came.Posts[0].Bytes)
		came = s.Take(1, 1, reply.Posts[0].Bytes)
	}
	before := fmt.Sprint(s.Pulls(), s.State(), h.State())
	p := s.Pulls()
	p.Batch[0].Leaves[0], p.Queue[0].Revs[0] = none, none
	h.State().Docs[0].Tree.Nodes[0].Deleted = 9
	b := slices.Clone(came.Posts[0].Bytes)
	h.Take(1, 2, b)
	clear(b)
	if fmt.Sprint(s.Pulls(), s.State(), h.State()) != before {
		t.Error("the peer shares")
	}
	v := body(t, "[5]")
	done := s.Do(api.Doing{Kind: api.DoEdit, Id: "x", Body: v})
	v.List[0].Num = 6
	if n := s.Do(api.Doing{Kind: api.DoGet, Id: "x", Rev: done.Rev}); n.Node.Body.List[0].Num != 5 {
		t.Error("the peer shares a body")
	}
}

// TestEverythingArrives drives a hub and a spoke by random writes, and sessions whose packets all arrive.
func TestEverythingArrives(t *testing.T) {
	r := rand.New(rand.NewSource(1))
	for range 25 {
		h, s, _ := pair(t)
		twin := open(t, made(t, 60000), api.Peering{Node: 2, User: "u", Inc: 1})
		for range 5 {
			for range 8 {
				p, id := []*peer.Peer{h, s}[r.Intn(2)], fmt.Sprint("n", r.Intn(9))
				n, _ := doc.Get(p.State(), id, none)
				if n.Rev.Gen > 7 {
					continue
				}
				text := []string{"1", `{"who":"u"}`, `[2]`, `"x"`, "null", `{"who":"v"}`}[r.Intn(6)]
				d := api.Doing{Kind: api.DoEdit, Id: id, Rev: n.Rev, Deleted: r.Intn(6) / 5, Body: body(t, text)}
				done := p.Do(d)
				if p == s && fmt.Sprint(twin.Do(d)) != fmt.Sprint(done) {
					t.Fatal("a twin answers otherwise")
				}
			}
			for direction := range 2 {
				came, _ := s.Begin(5, direction)
				other, _ := twin.Begin(5, direction)
				for steps := 0; len(came.Posts) > 0; steps++ {
					if fmt.Sprint(came) != fmt.Sprint(other) || steps > 2000 {
						t.Fatal("a twin responds otherwise")
					}
					reply := h.Take(6, 2, came.Posts[0].Bytes)
					if len(reply.Posts) != 1 || reply.Posts[0].To != 2 || len(reply.Haps) != 1 {
						t.Fatalf("%v", reply)
					}
					other = twin.Take(7, 1, reply.Posts[0].Bytes)
					came = s.Take(7, 1, reply.Posts[0].Bytes)
				}
				last := came.Haps[len(came.Haps)-1]
				if last.Kind != api.HapEnd || last.Push != direction {
					t.Fatalf("%v", last)
				}
				if direction == 0 {
					arrived(t, h.State(), s.State(), grants.All(h.State(), "u"))
				} else {
					arrived(t, s.State(), h.State(), present(s.State()))
				}
			}
		}
	}
}

// present are the documents that are not gone.
func present(s api.State) []string {
	var out []string
	for _, d := range s.Docs {
		if d.Gone == 0 {
			out = append(out, d.Id)
		}
	}
	return out
}

// arrived checks that all leaves of these documents of one state are in another one.
func arrived(t *testing.T, from, to api.State, ids []string) {
	t.Helper()
	for _, c := range doc.Changes(from, 0, 99) {
		if w, _ := doc.Missing(to, api.Want{Id: c.Id, Revs: c.Leaves}); len(w) != 0 && slices.Contains(ids, c.Id) {
			t.Fatalf("not all leaves of %s", c.Id)
		}
	}
}

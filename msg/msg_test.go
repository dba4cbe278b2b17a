package msg_test

import (
	"bytes"
	"fmt"
	"math"
	"math/rand"
	"slices"
	"strings"
	"testing"

	"tidewrack/api"
	"tidewrack/code"
	"tidewrack/msg"
	"tidewrack/value"
)

func r(gen uint64) api.Rev { return api.Rev{Gen: gen, Sum: [16]byte{byte(gen), 2, 15: 9}} }

func question(kind int) api.Ask { return api.Ask{User: "u", Inc: 1, N: 2, Kind: kind} }

func a(kind int, change func(a *api.Ask)) api.Ask {
	x := question(kind)
	change(&x)
	return x
}

func told(kind int, change func(t *api.Told)) api.Told {
	x := api.Told{Inc: 1, N: 2, Kind: kind, Life: 1}
	change(&x)
	return x
}

func aCopy() api.Copy {
	return api.Copy{Id: "c", Path: []api.Rev{r(2), r(1)}, Deleted: 1, Body: value.List(value.Text("x"))}
}

func wants(n, revs int) []api.Want {
	return slices.Repeat([]api.Want{{Id: "w", Revs: slices.Repeat([]api.Rev{r(300)}, revs)}}, n)
}

func changes(n, leaves int) []api.Change {
	return slices.Repeat([]api.Change{{Id: "d", Seq: 7, Leaves: slices.Repeat([]api.Rev{r(5)}, leaves)}}, n)
}

// questions are valid ones.
func questions() []api.Ask {
	return []api.Ask{
		a(api.AskCheck, func(a *api.Ask) { a.Session = "s" }), a(api.AskCheck, func(a *api.Ask) { a.Session, a.Push, a.Inc, a.N = "s", 1, math.MaxUint64, 0 }),
		a(api.AskChanges, func(a *api.Ask) {}), a(api.AskChanges, func(a *api.Ask) { a.Since, a.Most = math.MaxUint64, 65535 }),
		a(api.AskMissing, func(a *api.Ask) {}), a(api.AskMissing, func(a *api.Ask) { a.Wants = wants(24, 1) }), a(api.AskMissing, func(a *api.Ask) { a.Wants = append(wants(2, 32), api.Want{Id: "z"}) }),
		a(api.AskFetch, func(a *api.Ask) { a.Id, a.Rev = "d", r(3) }), a(api.AskForce, func(a *api.Ask) { a.Copy = aCopy() }),
		a(api.AskSet, func(a *api.Ask) { a.Session, a.Seq, a.Life = "s", math.MaxUint64, 300 }), a(api.AskSet, func(a *api.Ask) { a.Session = strings.Repeat("s", 24) }),
	}
}

// answers are valid ones.
func answers() []api.Told {
	gone := api.Change{Id: "g", Seq: math.MaxUint64, Gone: 1, Rev: r(9), Channel: "c"}
	return []api.Told{
		told(api.AskCheck, func(t *api.Told) { t.Seq = 4 }), told(api.AskCheck, func(t *api.Told) { t.Push, t.Why, t.Life = 1, 255, math.MaxUint64 }),
		told(api.AskChanges, func(t *api.Told) {}), told(api.AskChanges, func(t *api.Told) { t.Seq, t.Changes = 9, append(changes(23, 8), gone) }), told(api.AskChanges, func(t *api.Told) { t.Changes = []api.Change{{Id: "x"}, gone} }),
		told(api.AskMissing, func(t *api.Told) {}), told(api.AskMissing, func(t *api.Told) { t.Wants = wants(3, 4) }),
		told(api.AskFetch, func(t *api.Told) {}), told(api.AskFetch, func(t *api.Told) { t.Copy = aCopy() }), told(api.AskFetch, func(t *api.Told) { t.Why = api.ErrForbidden }),
		told(api.AskForce, func(t *api.Told) { t.Count = 1 }), told(api.AskForce, func(t *api.Told) { t.Why, t.Push, t.N = 9, 1, 3 }), told(api.AskSet, func(t *api.Told) {}), told(api.AskSet, func(t *api.Told) { t.Why = api.ErrState }),
	}
}

func packets() []api.Packet {
	var l []api.Packet
	for _, x := range questions() {
		l = append(l, api.Packet{Kind: api.PacketAsk, Ask: x})
	}
	for _, x := range answers() {
		l = append(l, api.Packet{Kind: api.PacketTold, Told: x})
	}
	return l
}

func refused(t *testing.T, what string, p api.Packet) {
	t.Helper()
	if b, e := msg.Encode(p); e != api.ErrArg || len(b) != 0 {
		t.Errorf("%s: Encode: %v", what, e)
	}
}

func TestMayAsk(t *testing.T) {
	for i, x := range questions() {
		if !msg.MayAsk(x) {
			t.Errorf("question %d: not valid", i)
		}
	}
	bad := map[string]api.Ask{
		"kind 0": a(0, func(a *api.Ask) {}), "kind 7": a(7, func(a *api.Ask) {}), "kind -1": a(-1, func(a *api.Ask) {}),
		"check without a session": a(api.AskCheck, func(a *api.Ask) {}), "check of a bad session": a(api.AskCheck, func(a *api.Ask) { a.Session = "a b" }), "most -1": a(api.AskChanges, func(a *api.Ask) { a.Most = -1 }), "most 65536": a(api.AskChanges, func(a *api.Ask) { a.Most = 65536 }),
		"25 wants": a(api.AskMissing, func(a *api.Ask) { a.Wants = wants(25, 1) }), "33 revs": a(api.AskMissing, func(a *api.Ask) { a.Wants = wants(1, 33) }), "a bad want": a(api.AskMissing, func(a *api.Ask) { a.Wants = []api.Want{{Id: "a", Revs: []api.Rev{{}}}} }), "a want of nothing": a(api.AskMissing, func(a *api.Ask) { a.Wants = []api.Want{{}} }),
		"fetch without an id": a(api.AskFetch, func(a *api.Ask) { a.Rev = r(3) }), "fetch without a rev": a(api.AskFetch, func(a *api.Ask) { a.Id = "d" }), "fetch of a bad rev": a(api.AskFetch, func(a *api.Ask) { a.Id, a.Rev = "d", api.Rev{Gen: api.MaxCount + 1} }),
		"force of nothing": a(api.AskForce, func(a *api.Ask) {}), "force of a bad copy": a(api.AskForce, func(a *api.Ask) { a.Copy = aCopy(); a.Copy.Deleted = 2 }), "set without a session": a(api.AskSet, func(a *api.Ask) { a.Seq = 1 }),
	}
	fields := map[string]func(a *api.Ask){
		"session": func(a *api.Ask) { a.Session = "s" }, "since": func(a *api.Ask) { a.Since = 1 }, "most": func(a *api.Ask) { a.Most = 1 }, "wants": func(a *api.Ask) { a.Wants = wants(1, 1) }, "id": func(a *api.Ask) { a.Id = "i" }, "rev": func(a *api.Ask) { a.Rev = r(1) },
		"copy": func(a *api.Ask) { a.Copy = aCopy() }, "body": func(a *api.Ask) { a.Copy.Body = value.Number(1) }, "seq": func(a *api.Ask) { a.Seq = 1 }, "life": func(a *api.Ask) { a.Life = 1 },
	}
	uses := map[int]string{api.AskCheck: "session", api.AskChanges: "since most", api.AskMissing: "wants", api.AskFetch: "id rev", api.AskForce: "copy body", api.AskSet: "session seq life"}
	for _, x := range questions() {
		for name, change := range fields {
			if y := x; !strings.Contains(uses[x.Kind], name) {
				change(&y)
				bad[fmt.Sprint(name, " of ", x.Kind)] = y
			}
		}
		for name, change := range map[string]func(a *api.Ask){"no user": func(a *api.Ask) { a.User = "" }, "a bad user": func(a *api.Ask) { a.User = strings.Repeat("u", 25) }, "push 2": func(a *api.Ask) { a.Push = 2 }, "push -1": func(a *api.Ask) { a.Push = -1 }} {
			y := x
			change(&y)
			bad[fmt.Sprint(name, " of ", x.Kind)] = y
		}
	}
	for what, x := range bad {
		if msg.MayAsk(x) {
			t.Errorf("%s: valid", what)
		}
		refused(t, what, api.Packet{Kind: api.PacketAsk, Ask: x})
	}
}

func TestMayTold(t *testing.T) {
	for i, x := range answers() {
		if !msg.MayTold(x) {
			t.Errorf("answer %d: not valid", i)
		}
	}
	change := func(f func(c *api.Change)) api.Told {
		return told(api.AskChanges, func(t *api.Told) {
			t.Changes = changes(2, 1)
			f(&t.Changes[1])
		})
	}
	bad := map[string]api.Told{
		"kind 0": told(0, func(t *api.Told) {}), "kind 7": told(7, func(t *api.Told) {}), "25 changes": told(api.AskChanges, func(t *api.Told) { t.Changes = changes(25, 1) }), "nine leaves": told(api.AskChanges, func(t *api.Told) { t.Changes = changes(1, 9) }),
		"a change of nothing": change(func(c *api.Change) { c.Id = "" }), "gone 2": change(func(c *api.Change) { c.Gone = 2 }), "gone -1": change(func(c *api.Change) { c.Gone = -1 }), "a bad leaf": change(func(c *api.Change) { c.Leaves = []api.Rev{{}} }), "a bad rev": change(func(c *api.Change) { c.Rev = api.Rev{Sum: [16]byte{1}} }), "a bad channel": change(func(c *api.Change) { c.Channel = "c c" }),
		"25 wants": told(api.AskMissing, func(t *api.Told) { t.Wants = wants(25, 1) }), "a bad want": told(api.AskMissing, func(t *api.Told) { t.Wants = []api.Want{{}} }), "a bad copy": told(api.AskFetch, func(t *api.Told) { t.Copy.Id = "a" }), "count 2": told(api.AskForce, func(t *api.Told) { t.Count = 2 }), "count -1": told(api.AskForce, func(t *api.Told) { t.Count = -1 }),
	}
	fields := map[string]func(t *api.Told){"seq": func(t *api.Told) { t.Seq = 1 }, "changes": func(t *api.Told) { t.Changes = changes(1, 1) }, "wants": func(t *api.Told) { t.Wants = wants(1, 1) }, "copy": func(t *api.Told) { t.Copy = aCopy() }, "body": func(t *api.Told) { t.Copy.Body = value.Number(1) }, "count": func(t *api.Told) { t.Count = 1 }}
	uses := map[int]string{api.AskCheck: "seq", api.AskChanges: "seq changes", api.AskMissing: "wants", api.AskFetch: "copy body", api.AskForce: "count"}
	for _, x := range answers() {
		for name, change := range fields {
			if y := x; !strings.Contains(uses[x.Kind], name) {
				change(&y)
				bad[fmt.Sprint(name, " of ", x.Kind)] = y
			}
		}
		for name, change := range map[string]func(t *api.Told){"why -1": func(t *api.Told) { t.Why = -1 }, "why 256": func(t *api.Told) { t.Why = 256 }, "push 2": func(t *api.Told) { t.Push = 2 }, "push -1": func(t *api.Told) { t.Push = -1 }} {
			y := x
			change(&y)
			bad[fmt.Sprint(name, " of ", x.Kind)] = y
		}
	}
	for what, x := range bad {
		if msg.MayTold(x) {
			t.Errorf("%s: valid", what)
		}
		refused(t, what, api.Packet{Kind: api.PacketTold, Told: x})
	}
}

func TestPackets(t *testing.T) {
	q, w := questions()[0], answers()[0]
	for what, p := range map[string]api.Packet{"zero": {}, "kind 3": {Kind: 3, Ask: q}, "kind -1": {Kind: -1, Ask: q}, "kind 257": {Kind: 257, Ask: q}, "both": {Kind: api.PacketAsk, Ask: q, Told: w}, "both, an answer": {Kind: api.PacketTold, Ask: q, Told: w}, "the other part": {Kind: api.PacketAsk, Told: w},
		"a bit of the other part": {Kind: api.PacketTold, Told: w, Ask: api.Ask{Life: 1}}, "a bit of an answer": {Kind: api.PacketAsk, Ask: q, Told: api.Told{Count: 1}}} {
		refused(t, what, p)
	}
}

func TestSame(t *testing.T) {
	l := packets()
	for i, p := range l {
		for k, q := range l {
			if msg.Same(p, q) != (i == k) {
				t.Errorf("Same of %d, %d", i, k)
			}
		}
	}
	var p api.Packet
	for what, change := range map[string]func(p *api.Packet){
		"kind": func(p *api.Packet) { p.Kind = 1 }, "user": func(p *api.Packet) { p.Ask.User = "x" }, "push": func(p *api.Packet) { p.Ask.Push = 1 }, "inc": func(p *api.Packet) { p.Ask.Inc = 1 }, "n": func(p *api.Packet) { p.Ask.N = 1 }, "ask kind": func(p *api.Packet) { p.Ask.Kind = 1 }, "session": func(p *api.Packet) { p.Ask.Session = "x" }, "since": func(p *api.Packet) { p.Ask.Since = 1 },
		"most": func(p *api.Packet) { p.Ask.Most = 1 }, "wants": func(p *api.Packet) { p.Ask.Wants = wants(1, 0) }, "id": func(p *api.Packet) { p.Ask.Id = "x" }, "rev": func(p *api.Packet) { p.Ask.Rev = r(1) }, "copy": func(p *api.Packet) { p.Ask.Copy.Deleted = 1 }, "seq": func(p *api.Packet) { p.Ask.Seq = 1 }, "life": func(p *api.Packet) { p.Ask.Life = 1 },
		"told push": func(p *api.Packet) { p.Told.Push = 1 }, "told inc": func(p *api.Packet) { p.Told.Inc = 1 }, "told n": func(p *api.Packet) { p.Told.N = 1 }, "told kind": func(p *api.Packet) { p.Told.Kind = 1 }, "why": func(p *api.Packet) { p.Told.Why = 1 }, "told life": func(p *api.Packet) { p.Told.Life = 1 }, "told seq": func(p *api.Packet) { p.Told.Seq = 1 },
		"changes": func(p *api.Packet) { p.Told.Changes = changes(1, 0) }, "told wants": func(p *api.Packet) { p.Told.Wants = wants(1, 0) }, "told copy": func(p *api.Packet) { p.Told.Copy.Body.Kind = 1 }, "count": func(p *api.Packet) { p.Told.Count = 1 }} {
		q := p
		if change(&q); msg.Same(p, q) || msg.Same(q, p) || !msg.Same(q, q) {
			t.Errorf("%s: the same", what)
		}
	}
	lists := [][]api.Want{{{Id: "a"}}, {{Id: "b"}}, {{Id: "a", Revs: []api.Rev{r(1)}}}, {{Id: "a", Revs: []api.Rev{r(2)}}}, {{Id: "a"}, {Id: "a"}}}
	for i, x := range lists {
		for k, y := range lists {
			if msg.Same(api.Packet{Ask: api.Ask{Wants: x}}, api.Packet{Ask: api.Ask{Wants: y}}) != (i == k) || msg.Same(api.Packet{Told: api.Told{Wants: x}}, api.Packet{Told: api.Told{Wants: y}}) != (i == k) {
				t.Errorf("Same of wants %d, %d", i, k)
			}
		}
	}
	q := p
	q.Ask.Wants, q.Told.Changes, q.Told.Copy.Path = []api.Want{}, []api.Change{}, []api.Rev{}
	if !msg.Same(p, q) {
		t.Error("nil and empty differ")
	}
}

func encoded(t *testing.T, p api.Packet) []byte {
	t.Helper()
	b, e := msg.Encode(p)
	if e != api.OK {
		t.Fatalf("kind %d, %d, %d: %v", p.Kind, p.Ask.Kind, p.Told.Kind, e)
	}
	return b
}

func TestExamples(t *testing.T) {
	for want, p := range map[string]api.Packet{
		"010175000102010173":          {Kind: api.PacketAsk, Ask: a(api.AskCheck, func(a *api.Ask) { a.Session = "s" })},
		"010175000" + "1f9012c020408": {Kind: api.PacketAsk, Ask: a(api.AskChanges, func(a *api.Ask) { a.N, a.Since, a.Most = 300, 4, 8 })},
		"0200010201000104":            {Kind: api.PacketTold, Told: told(api.AskCheck, func(t *api.Told) { t.Seq = 4 })},
		"0201010305090100":            {Kind: api.PacketTold, Told: told(api.AskForce, func(t *api.Told) { t.Push, t.N, t.Why = 1, 3, 9 })},
	} {
		if got := fmt.Sprintf("%x", encoded(t, p)); got != want {
			t.Errorf("%s, not %s", got, want)
		}
	}
}

// plain writes a packet as the chapter's table says.
func plain(p api.Packet) []byte {
	w := code.NewWriter()
	name := func(x api.Rev) {
		if w.Uint(x.Gen); x.Gen != 0 {
			w.Raw(x.Sum[:])
		}
	}
	list := func(l []api.Want) {
		w.Uint(uint64(len(l)))
		for _, x := range l {
			w.Text(x.Id)
			w.Uint(uint64(len(x.Revs)))
			for _, y := range x.Revs {
				name(y)
			}
		}
	}
	copied := func(c api.Copy) {
		w.Text(c.Id)
		w.Uint(uint64(len(c.Path)))
		for _, y := range c.Path {
			name(y)
		}
		w.Uint(uint64(c.Deleted))
		s, _ := value.Print(c.Body)
		w.Text(s)
	}
	w.U8(uint8(p.Kind))
	if a := p.Ask; p.Kind == api.PacketAsk {
		w.Text(a.User)
		w.Put(uint64(a.Push), a.Inc, a.N, uint64(a.Kind))
		switch a.Kind {
		case api.AskCheck:
			w.Text(a.Session)
		case api.AskChanges:
			w.Put(a.Since, uint64(a.Most))
		case api.AskMissing:
			list(a.Wants)
		case api.AskFetch:
			w.Text(a.Id)
			name(a.Rev)
		case api.AskForce:
			copied(a.Copy)
		case api.AskSet:
			w.Text(a.Session)
			w.Put(a.Seq, a.Life)
		}
		return w.Bytes()
	}
	t := p.Told
	w.Put(uint64(t.Push), t.Inc, t.N, uint64(t.Kind), uint64(t.Why), t.Life)
	switch t.Kind {
	case api.AskCheck:
		w.Uint(t.Seq)
	case api.AskChanges:
		w.Put(t.Seq, uint64(len(t.Changes)))
		for _, c := range t.Changes {
			w.Text(c.Id)
			w.Put(c.Seq, uint64(len(c.Leaves)))
			for _, y := range c.Leaves {
				name(y)
			}
			w.Uint(uint64(c.Gone))
			name(c.Rev)
			w.Text(c.Channel)
		}
	case api.AskMissing:
		list(t.Wants)
	case api.AskFetch:
		if t.Copy.Id == "" {
			w.Uint(0)
		} else {
			w.Uint(1)
			copied(t.Copy)
		}
	case api.AskForce:
		w.Uint(uint64(t.Count))
	}
	return w.Bytes()
}

func TestRoundTrip(t *testing.T) {
	rnd := rand.New(rand.NewSource(1))
	seen := map[string]bool{}
	for i, p := range packets() {
		b := encoded(t, p)
		if !bytes.Equal(b, plain(p)) || seen[string(b)] {
			t.Errorf("packet %d: %x, not %x", i, b, plain(p))
		}
		seen[string(b)] = true
		q, e := msg.Decode(b)
		if e != api.OK || !msg.Same(p, q) {
			t.Errorf("packet %d: %v, %v", i, q, e)
		}
		for k := range min(len(b), 400) {
			if q, e := msg.Decode(b[:k]); e != api.ErrForm || !msg.Same(q, api.Packet{}) {
				t.Errorf("packet %d, cut at %d: %v", i, k, e)
			}
		}
		for c := range 256 {
			if _, e := msg.Decode(append(bytes.Clone(b), byte(c))); e != api.ErrForm {
				t.Errorf("packet %d and %d: %v", i, c, e)
			}
		}
		for range 300 {
			x := bytes.Clone(b)
			x[rnd.Intn(len(x))] = byte(rnd.Intn(256))
			if q, e := msg.Decode(x); e == api.OK && !bytes.Equal(encoded(t, q), x) {
				t.Errorf("packet %d: %x is decoded as %v", i, x, q)
			} else if e != api.OK && (e != api.ErrForm || !msg.Same(q, api.Packet{})) {
				t.Errorf("packet %d: %v, %v", i, q, e)
			}
		}
	}
	for _, b := range [][]byte{nil, {0}, {1}, {3, 1, 'u'}, make([]byte, 100)} {
		if _, e := msg.Decode(b); e != api.ErrForm {
			t.Errorf("%x: %v", b, e)
		}
	}
	for range 3000 {
		b := make([]byte, rnd.Intn(40))
		rnd.Read(b)
		if len(b) > 0 {
			b[0] &= 3
		}
		if q, e := msg.Decode(b); e == api.OK && !bytes.Equal(encoded(t, q), b) {
			t.Errorf("%x is decoded as %v", b, q)
		}
	}
}

// sized is a packet whose encoding has so many bytes, more than 13,200.
func sized(size int) api.Packet {
	p := api.Packet{Kind: api.PacketAsk, Ask: question(api.AskMissing)}
	p.Ask.Wants = wants(24, 32)
	for i := range p.Ask.Wants {
		p.Ask.Wants[i].Revs = slices.Repeat([]api.Rev{r(1)}, 32)
	}
	left := size - len(plain(p))
	for i := range p.Ask.Wants {
		for k := range p.Ask.Wants[i].Revs {
			// A generation of so many bytes more.
			more := min(left, 8)
			left -= more
			gen := &p.Ask.Wants[i].Revs[k].Gen
			if *gen = 1; more == 1 {
				*gen = 248
			} else if more > 1 {
				*gen = 1 << (8 * (more - 1))
			}
		}
	}
	return p
}

func TestLong(t *testing.T) {
	for size := api.MaxFrame - 9; size < api.MaxFrame+9; size++ {
		p := sized(size)
		whole := plain(p)
		if len(whole) != size {
			t.Fatalf("%d bytes, not %d", len(whole), size)
		}
		b, e := msg.Encode(p)
		q, f := msg.Decode(whole)
		if size <= api.MaxFrame {
			if e != api.OK || !bytes.Equal(b, whole) || f != api.OK || !msg.Same(p, q) {
				t.Errorf("%d bytes: %v, %v", size, e, f)
			}
		} else if e != api.ErrLong || len(b) != 0 || f != api.ErrForm || !msg.Same(q, api.Packet{}) {
			t.Errorf("%d bytes: %v, %v", size, e, f)
		}
		p.Told.Count = 1
		refused(t, "both", p)
	}
}

func TestSharing(t *testing.T) {
	l := packets()
	old := fmt.Sprint(l)
	for _, p := range l {
		b := encoded(t, p)
		q, _ := msg.Decode(b)
		for i := range q.Ask.Wants {
			q.Ask.Wants[i].Id = "x"
		}
		for i := range q.Ask.Copy.Path {
			q.Ask.Copy.Path[i].Gen = 77
		}
		for i := range b {
			b[i] = 0
		}
		for i := range q.Told.Changes {
			q.Told.Changes[i].Leaves = nil
		}
	}
	if fmt.Sprint(l) != old {
		t.Error("an argument is modified, or shared")
	}
}

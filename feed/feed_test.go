package feed_test

import (
	"math"
	"math/rand"
	"slices"
	"testing"

	"tidewrack/api"
	"tidewrack/batch"
	"tidewrack/doc"
	"tidewrack/feed"
	"tidewrack/rev"
	"tidewrack/value"
	"tidewrack/views"
)

var none api.Rev

func number(n int) api.Value { return value.List(value.Number(int64(n))) }

// edited puts another revision to a document, in channels, each a letter, with grants, two letters each.
func edited(t *testing.T, s api.State, id string, n int, channels, grants string, users ...string) api.State {
	t.Helper()
	parent := none
	if x, e := doc.Get(s, id, none); e == api.OK {
		parent = x.Rev
	}
	d, _, e := doc.Edit(s, id, parent, 0, number(n))
	if e != api.OK {
		t.Fatal(e)
	}
	d.Channels, d.Grants = nil, nil
	for _, c := range channels {
		d.Channels = append(d.Channels, string(c))
	}
	for i := 0; i < len(grants); i += 2 {
		d.Grants = append(d.Grants, api.Grant{User: grants[i : i+1], Channel: grants[i+1 : i+2]})
	}
	b, e := views.With(s, api.Batch{Docs: []api.Doc{d}}, users...)
	if e != api.OK {
		t.Fatal(e)
	}
	out, e := batch.Apply(s, b)
	if e != api.OK {
		t.Fatal(e)
	}
	return out
}

func entry(user, id string, seq uint64) api.Seen {
	return api.Seen{User: user, Doc: id, Seq: seq, Rev: api.Rev{Gen: 1, Sum: [16]byte{byte(seq)}}}
}

// example is the state of the chapter's examples, but that c has two leaves, and e is seen by nobody.
func example(t *testing.T) api.State {
	s := edited(t, api.State{}, "g", 0, "", "ux")
	for i, id := range []string{"a", "b", "c"} {
		s = edited(t, s, id, i, "x", "")
	}
	s = edited(t, s, "e", 5, "y", "")
	x, _, _ := doc.Edit(api.State{}, "c", none, 0, number(50))
	d, n, e := doc.Force(s, api.Copy{Id: "c", Path: []api.Rev{x.Tree.Nodes[0].Rev}, Body: number(50)})
	if n != 1 || e != api.OK {
		t.Fatal(e)
	}
	s, e = batch.Apply(s, api.Batch{Docs: []api.Doc{d}, Seens: []api.Seen{entry("u", "a", 3), entry("u", "b", 5), entry("u", "c", 5), {User: "u", Doc: "d", Seq: 6, Rev: api.Rev{Gen: 7}, Gone: 1, Channel: "z"}, entry("v", "a", 4)}})
	if e != api.OK {
		t.Fatal(e)
	}
	return s
}

func ids(l []api.Change) string {
	s := ""
	for _, c := range l {
		s += c.Id
	}
	return s
}

func TestChanges(t *testing.T) {
	s := example(t)
	for _, c := range []struct {
		since uint64
		most  int
		want  string
	}{{0, 2, "abc"}, {5, 9, "d"}, {0, 1, "a"}, {0, 3, "abc"}, {0, 4, "abcd"}, {0, math.MaxInt, "abcd"}, {2, 9, "abcd"}, {3, 1, "bc"}, {4, 1, "bc"}, {3, 9, "bcd"}, {6, 9, ""}, {math.MaxUint64, 9, ""}, {0, 0, ""}, {0, -1, ""}} {
		if got := ids(feed.Changes(s, "u", c.since, c.most)); got != c.want {
			t.Errorf("since %d, most %d: %s", c.since, c.most, got)
		}
	}
	l := feed.Changes(s, "u", 0, 9)
	plain := doc.Changes(s, 0, 9)
	leaves := func(id string) []api.Rev {
		i := slices.IndexFunc(plain, func(c api.Change) bool { return c.Id == id })
		return plain[i].Leaves
	}
	want := []api.Change{{Id: "a", Seq: 3, Leaves: leaves("a")}, {Id: "b", Seq: 5, Leaves: leaves("b")}, {Id: "c", Seq: 5, Leaves: leaves("c")}, {Id: "d", Seq: 6, Gone: 1, Rev: api.Rev{Gen: 7}, Channel: "z"}}
	if !slices.EqualFunc(l, want, doc.SameChange) || len(l[2].Leaves) != 2 {
		t.Errorf("%v", l)
	}
	if got := ids(feed.Changes(s, "v", 0, 9)); got != "a" {
		t.Errorf("%s", got)
	}
	for user, want := range map[string]uint64{"u": 6, "v": 4, "w": 0, "": 0} {
		if got := feed.Last(s, user); got != want {
			t.Errorf("Last(%s): %d", user, got)
		}
	}
	s.Locals = []api.Local{{}}
	if feed.Last(s, "u") != 0 || len(feed.Changes(s, "u", 0, 9)) != 0 {
		t.Error("a bad state")
	}
}

func TestOrder(t *testing.T) {
	s := api.State{Seq: 9, Seens: []api.Seen{entry("u", "a", 7), entry("u", "b", 2), entry("u", "c", 9), entry("u", "d", 2), entry("u", "e", 7)}}
	if got := ids(feed.Changes(s, "u", 0, 9)); got != "bdaec" || feed.Last(s, "u") != 9 {
		t.Errorf("%s", got)
	}
	if l := feed.Changes(s, "u", 8, 9); len(l) != 1 || len(l[0].Leaves) != 0 {
		t.Errorf("%v", l)
	}
}

func TestGetAndFetch(t *testing.T) {
	s := example(t)
	for _, r := range feed.Changes(s, "u", 3, 9)[1].Leaves {
		n, e := feed.Get(s, "u", "c", r)
		m, _ := doc.Get(s, "c", r)
		if e != api.OK || n.Rev != r || !value.Same(n.Body, m.Body) {
			t.Errorf("%v, %v", n, e)
		}
		c, e := feed.Fetch(s, "u", "c", r)
		if d, _ := doc.Fetch(s, "c", r); e != api.OK || !doc.SameCopy(c, d) {
			t.Errorf("%v, %v", c, e)
		}
	}
	if n, e := feed.Get(s, "u", "c", none); e != api.OK || n.Has != 1 {
		t.Errorf("%v, %v", n, e)
	}
	bad := batch.Own(s)
	bad.Locals = []api.Local{{}}
	wrong := api.Rev{Sum: [16]byte{1}}
	unknown := api.Rev{Gen: 3}
	for what, c := range map[string]struct {
		s        api.State
		user, id string
		r        api.Rev
		want     api.Errno
	}{"a bad state": {bad, "u", "c", none, api.ErrArg}, "a bad rev": {s, "u", "c", wrong, api.ErrArg}, "a bad rev of what is not seen": {s, "w", "e", wrong, api.ErrArg}, "a bad rev of nothing": {s, "u", "q", wrong, api.ErrArg}, "nothing": {s, "u", "q", none, api.ErrForbidden}, "gone": {s, "u", "d", none, api.ErrForbidden},
		"not seen": {s, "u", "e", none, api.ErrForbidden}, "not seen by w": {s, "w", "a", none, api.ErrForbidden}, "no revision, not seen": {s, "w", "a", unknown, api.ErrForbidden}, "no revision": {s, "u", "a", unknown, api.ErrNone}, "told, not granted": {s, "v", "a", none, api.ErrForbidden}} {
		if n, e := feed.Get(c.s, c.user, c.id, c.r); e != c.want || n.Rev != none || n.Has != 0 {
			t.Errorf("%s: %v, %v", what, n, e)
		}
		if x, e := feed.Fetch(c.s, c.user, c.id, c.r); e != c.want || !doc.SameCopy(x, api.Copy{}) {
			t.Errorf("%s: %v, %v", what, x, e)
		}
	}
	grown := edited(t, s, "a", 9, "x", "")
	root := feed.Changes(s, "u", 0, 1)[0].Leaves[0]
	if _, e := feed.Fetch(grown, "u", "a", root); e != api.ErrNone {
		t.Errorf("not a leaf: %v", e)
	}
	if n, e := feed.Get(grown, "u", "a", root); e != api.OK || n.Rev != root {
		t.Errorf("not a leaf: %v", e)
	}
}

func TestMissing(t *testing.T) {
	s := example(t)
	a, _ := doc.Get(s, "a", none)
	e, _ := doc.Get(s, "e", none)
	unknown := api.Rev{Gen: 3}
	l := []api.Want{{Id: "a", Revs: []api.Rev{a.Rev, unknown}}, {Id: "e", Revs: []api.Rev{e.Rev}}, {Id: "q", Revs: []api.Rev{a.Rev}}, {Id: "b", Revs: []api.Rev{a.Rev}}}
	same := func(x, y api.Want) bool { return x.Id == y.Id && slices.Equal(x.Revs, y.Revs) }
	got, why := feed.Missing(s, "u", l...)
	if want := []api.Want{{Id: "a", Revs: []api.Rev{unknown}}, l[1], l[2], l[3]}; why != api.OK || !slices.EqualFunc(got, want, same) {
		t.Errorf("%v, %v", got, why)
	}
	if got, why := feed.Missing(s, "w", l...); why != api.OK || !slices.EqualFunc(got, l, same) {
		t.Errorf("%v, %v", got, why)
	}
	if got, why := feed.Missing(s, "u", slices.Repeat(l, 7)...); why != api.ErrArg || len(got) != 0 {
		t.Errorf("%v", why)
	}
	if got, why := feed.Missing(s, "u", api.Want{}); why != api.ErrArg || len(got) != 0 {
		t.Errorf("%v", why)
	}
	got, _ = feed.Missing(s, "u", l...)
	got[1].Revs[0] = none
	feed.Changes(s, "u", 0, 9)[0].Leaves[0] = none
	if c, _ := feed.Fetch(s, "u", "a", none); true {
		c.Body.List[0].Num, c.Path[0] = 77, none
	}
	if l[1].Revs[0] != e.Rev || !batch.SameState(s, example(t)) {
		t.Error("an argument is modified, or shared")
	}
	s.Locals = []api.Local{{}}
	if got, why := feed.Missing(s, "u"); why != api.ErrArg || len(got) != 0 {
		t.Errorf("a bad state: %v", why)
	}
}

// TestProperties compares a state with one that differs in what u does not see alone.
func TestProperties(t *testing.T) {
	r := rand.New(rand.NewSource(1))
	for range 60 {
		one := edited(t, api.State{}, "g", 0, "", "ux", "u", "v")
		two := edited(t, api.State{}, "g", 0, "", "uxvz", "u", "v")
		for i := range 14 {
			id := string("abc"[r.Intn(3)])
			channels := []string{"x", "xy", "y", ""}[r.Intn(4)]
			one = edited(t, one, id, i, channels, "", "u", "v")
			two = edited(t, two, id, i, channels, "", "u", "v")
			if r.Intn(3) == 0 {
				one = edited(t, one, "s", i, "y", "", "u", "v")
				two = edited(t, two, "h", i, "z", "", "u", "v")
			}
		}
		// The names in parts.
		var all []api.Change
		for since := uint64(0); ; since = all[len(all)-1].Seq {
			l := feed.Changes(one, "u", since, 1+r.Intn(3))
			if len(l) == 0 {
				break
			}
			all = append(all, l...)
		}
		whole := feed.Changes(one, "u", 0, 99)
		if !slices.EqualFunc(all, whole, doc.SameChange) || len(whole) > 0 && whole[len(whole)-1].Seq != feed.Last(one, "u") {
			t.Fatalf("%v, not %v", all, whole)
		}
		for since := range uint64(30) {
			l := feed.Changes(one, "u", since, 99)
			if !slices.EqualFunc(l, whole[len(whole)-len(l):], doc.SameChange) {
				t.Fatal("no suffix")
			}
			if !slices.EqualFunc(l, feed.Changes(two, "u", since, 99), doc.SameChange) || feed.Last(one, "u") != feed.Last(two, "u") {
				t.Fatal("what u does not see matters")
			}
		}
		for _, id := range []string{"a", "b", "c", "s", "h", "g", "q"} {
			x, e := feed.Fetch(one, "u", id, none)
			y, f := feed.Fetch(two, "u", id, none)
			if id != "g" && (e != f || !doc.SameCopy(x, y)) {
				t.Fatalf("%s: %v, %v", id, e, f)
			}
			w := api.Want{Id: id, Revs: []api.Rev{{Gen: 1}}}
			for _, c := range append(whole, doc.Changes(two, 0, 99)...) {
				w.Revs = append(w.Revs, c.Leaves...)
			}
			slices.SortFunc(w.Revs, rev.Cmp)
			m, _ := feed.Missing(one, "u", w)
			n, _ := feed.Missing(two, "u", w)
			if len(m) != len(n) || len(m) > 0 && !slices.Equal(m[0].Revs, n[0].Revs) {
				t.Fatal("what u does not see matters")
			}
		}
	}
}

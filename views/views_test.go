package views_test

import (
	"fmt"
	"math/rand"
	"slices"
	"testing"

	"tidewrack/api"
	"tidewrack/batch"
	"tidewrack/grants"
	"tidewrack/tree"
	"tidewrack/value"
	"tidewrack/views"
)

func grown(t *testing.T, x api.Tree, parent api.Rev, n int) api.Tree {
	t.Helper()
	y, _, e := tree.Edit(x, parent, 0, value.List(value.Number(int64(n))))
	if e != api.OK {
		t.Fatal(e)
	}
	return y
}

func winner(d api.Doc) api.Rev {
	n, _ := tree.Winner(d.Tree)
	return n.Rev
}

// doc is a document in channels, each a letter, and with grants, two letters each.
func doc(t *testing.T, id string, seq uint64, channels, grants string) api.Doc {
	d := api.Doc{Id: id, Seq: seq, Tree: grown(t, api.Tree{}, api.Rev{}, int(seq))}
	for _, c := range channels {
		d.Channels = append(d.Channels, string(c))
	}
	for i := 0; i < len(grants); i += 2 {
		d.Grants = append(d.Grants, api.Grant{User: grants[i : i+1], Channel: grants[i+1 : i+2]})
	}
	return d
}

func state(seq uint64, docs ...api.Doc) api.State { return api.State{Seq: seq, Docs: docs} }

func seen(user, doc string, seq uint64, rev api.Rev) api.Seen {
	return api.Seen{User: user, Doc: doc, Seq: seq, Rev: rev}
}

func gone(x api.Seen, channel string) api.Seen {
	x.Gone, x.Channel = 1, channel
	return x
}

func TestTold(t *testing.T) {
	r := api.Rev{Gen: 1}
	s := api.State{Seens: []api.Seen{seen("u", "b", 3, r), seen("u", "a", 1, r), seen("v", "a", 2, r), seen("u", "a", 9, r)}}
	if x, ok := views.Told(s, "u", "a"); !ok || x != seen("u", "a", 1, r) {
		t.Errorf("%v", x)
	}
	if x, ok := views.Told(s, "v", "a"); !ok || x.Seq != 2 {
		t.Errorf("%v", x)
	}
	for _, c := range [][2]string{{"v", "b"}, {"w", "a"}, {"", ""}} {
		if x, ok := views.Told(s, c[0], c[1]); ok || x != (api.Seen{}) {
			t.Errorf("%v: %v", c, x)
		}
	}
}

func TestUpdate(t *testing.T) {
	g := doc(t, "g", 1, "", "ucuevc")
	a2, a3 := doc(t, "a", 2, "c", ""), doc(t, "a", 3, "c", "")
	told := func(s api.State, l ...api.Seen) api.State {
		s.Seens = l
		return s
	}
	apart := doc(t, "a", 3, "x", "")
	both := doc(t, "a", 2, "ce", "")
	for what, c := range map[string]struct {
		before, after api.State
		seq           uint64
		users         []string
		want          []api.Seen
	}{
		"created":                {state(1, g), state(2, a2, g), 2, []string{"u", "w"}, []api.Seen{seen("u", "a", 2, winner(a2))}},
		"by all":                 {state(1, g), state(2, a2, g), 2, []string{"v", "u", "v", "w"}, []api.Seen{seen("u", "a", 2, winner(a2)), seen("v", "a", 2, winner(a2))}},
		"no users":               {state(1, g), state(2, a2, g), 2, nil, nil},
		"another seq":            {state(1, g), state(2, a2, g), 77, []string{"u"}, []api.Seen{seen("u", "a", 77, winner(a2))}},
		"changed":                {told(state(2, a2, g), seen("u", "a", 2, winner(a2))), state(3, a3, g), 3, []string{"u"}, []api.Seen{seen("u", "a", 3, winner(a3))}},
		"as it was":              {told(state(2, a2, g), seen("u", "a", 2, winner(a2))), state(4, a2, g), 4, []string{"u"}, nil},
		"told later":             {told(state(2, a2, g), seen("u", "a", 2, winner(a2))), state(4, a3, g), 4, []string{"u"}, nil},
		"left":                   {told(state(2, a2, g), seen("u", "a", 2, winner(a2))), state(3, apart, g), 3, []string{"u"}, []api.Seen{gone(seen("u", "a", 3, winner(a2)), "c")}},
		"left, not told":         {state(2, a2, g), state(3, apart, g), 3, []string{"u"}, nil},
		"left, known to be gone": {told(state(2, a2, g), gone(seen("u", "a", 2, winner(a2)), "c")), state(3, apart, g), 3, []string{"u"}, nil},
		"back":                   {told(state(2, apart2(t), g), gone(seen("u", "a", 2, winner(a2)), "c")), state(3, a2, g), 3, []string{"u"}, []api.Seen{seen("u", "a", 3, winner(a2))}},
		"removed":                {told(state(2, both, g), seen("u", "a", 2, winner(a2))), state(3, g), 3, []string{"u"}, []api.Seen{gone(seen("u", "a", 3, winner(a2)), "c")}},
		"a grant is gone":        {told(state(2, both, g), seen("u", "a", 2, winner(a2))), state(3, both, doc(t, "g", 3, "", "vc")), 3, []string{"u", "v"}, []api.Seen{gone(seen("u", "a", 3, winner(a2)), "c"), seen("v", "a", 3, winner(a2))}},
		"a channel is left":      {told(state(2, both, g), seen("u", "a", 2, winner(a2))), state(3, both, doc(t, "g", 3, "", "ue")), 3, []string{"u"}, nil},
		"never seen":             {told(state(2, apart2(t), g), seen("u", "a", 1, winner(a2))), state(3, apart2(t), g), 3, []string{"u"}, []api.Seen{gone(seen("u", "a", 3, winner(a2)), "")}},
		"in order":               {state(1, g), state(4, doc(t, "b", 2, "c", ""), doc(t, "c", 4, "e", ""), doc(t, "g", 3, "c", "ucuevc")), 4, []string{"v", "u"}, []api.Seen{seen("u", "b", 4, winner(doc(t, "b", 2, "", ""))), seen("u", "c", 4, winner(doc(t, "c", 4, "", ""))), seen("u", "g", 4, winner(doc(t, "g", 3, "", ""))), seen("v", "b", 4, winner(doc(t, "b", 2, "", ""))), seen("v", "g", 4, winner(doc(t, "g", 3, "", "")))}},
		"a bad state before":     {api.State{Docs: []api.Doc{g}}, state(2, a2, g), 2, []string{"u"}, nil},
		"a bad state after":      {state(1, g), state(1, a2, g), 2, []string{"u"}, nil},
	} {
		if got := views.Update(c.before, c.after, c.seq, c.users...); !slices.Equal(got, c.want) {
			t.Errorf("%s: %v, not %v", what, got, c.want)
		}
	}
}

// apart2 is a, at 2, where nobody sees it.
func apart2(t *testing.T) api.Doc { return doc(t, "a", 2, "x", "") }

func TestWith(t *testing.T) {
	g, h := doc(t, "g", 1, "", "uc"), doc(t, "h", 2, "", "ud")
	a := doc(t, "a", 3, "c", "")
	s := state(3, a, g, h)
	s.Seens = []api.Seen{seen("u", "a", 3, winner(a))}
	s.Locals = []api.Local{{Id: "l", Seq: 1}}
	b := doc(t, "b", 4, "d", "")
	junk := []api.Seen{{}}
	got, e := views.With(s, api.Batch{Docs: []api.Doc{b}, Seens: junk, Locals: []api.Local{{Id: "m"}}, Clear: 1, Seq: 4}, "u")
	if want := (api.Batch{Docs: []api.Doc{b}, Seens: []api.Seen{seen("u", "b", 4, winner(b))}, Locals: []api.Local{{Id: "m"}}, Clear: 1, Seq: 4}); e != api.OK || !batch.Same(got, want) {
		t.Errorf("%v, %v", got, e)
	}
	got, e = views.With(s, api.Batch{Docs: []api.Doc{doc(t, "a", 5, "x", "")}, Seq: 9}, "u")
	if want := []api.Seen{gone(seen("u", "a", 9, winner(a)), "c")}; e != api.OK || !slices.Equal(got.Seens, want) {
		t.Errorf("%v, %v", got, e)
	}
	// Who saw a document because of a purged one is told; nobody is told of the purged one.
	both := s
	both.Docs = []api.Doc{a, doc(t, "g", 2, "c", "uc")}
	both.Seens = []api.Seen{seen("u", "a", 3, winner(a)), seen("u", "g", 2, winner(both.Docs[1]))}
	got, e = views.With(both, api.Batch{Purged: []string{"g"}, Clear: 1, Seq: 4}, "u")
	if want := (api.Batch{Purged: []string{"g"}, Clear: 1, Seq: 4, Seens: []api.Seen{gone(seen("u", "a", 4, winner(a)), "c")}}); e != api.OK || !batch.Same(got, want) {
		t.Errorf("%v, %v", got, e)
	}
	for what, c := range map[string]struct {
		s    api.State
		b    api.Batch
		want api.Errno
	}{"a bad state": {api.State{Docs: []api.Doc{g}}, api.Batch{}, api.ErrArg}, "a bad batch": {s, api.Batch{Clear: 2}, api.ErrArg}, "a seq that is taken": {s, api.Batch{Docs: []api.Doc{doc(t, "q", 2, "", "")}}, api.ErrArg}, "full": {crowd(t), api.Batch{Docs: []api.Doc{doc(t, "q", 99, "", "")}}, api.ErrFull}} {
		if got, e := views.With(c.s, c.b, "u"); e != c.want || !batch.Same(got, api.Batch{}) {
			t.Errorf("%s: %v, %v", what, got, e)
		}
	}
}

func crowd(t *testing.T) api.State {
	s := state(24)
	for i := range 24 {
		s.Docs = append(s.Docs, doc(t, fmt.Sprintf("n%02d", i), uint64(i+1), "", ""))
	}
	return s
}

func TestSharing(t *testing.T) {
	g := doc(t, "g", 1, "", "uc")
	fresh := func() (api.State, api.Batch, []string) {
		users := append([]string{"v", "u"}, "x")[:2]
		return state(1, g), api.Batch{Docs: []api.Doc{doc(t, "a", 2, "c", "uc")}, Purged: []string{"q"}, Locals: []api.Local{{Id: "l"}}}, users
	}
	s, b, users := fresh()
	got, _ := views.With(s, b, users...)
	got.Docs[0].Channels[0], got.Docs[0].Grants[0].User, got.Docs[0].Tree.Nodes[0].Body.List[0].Num = "x", "x", 9
	got.Docs[0].Id, got.Purged[0], got.Locals[0].Id = "x", "x", "x"
	s2, b2, users2 := fresh()
	if !batch.SameState(s, s2) || !batch.Same(b, b2) || !slices.Equal(users, users2) {
		t.Error("an argument is modified, or shared")
	}
}

// TestEntriesAreAccurate makes random changes and compares the entries with what the users see.
func TestEntriesAreAccurate(t *testing.T) {
	r := rand.New(rand.NewSource(1))
	users := []string{"u", "v", "w"}
	some := func(s string) string {
		out := ""
		for _, c := range s {
			if r.Intn(3) == 0 {
				out += string(c)
			}
		}
		return out
	}
	for range 100 {
		var s api.State
		for range 20 {
			id := string("abcd"[r.Intn(4)])
			b := api.Batch{Purged: []string{id}, Clear: 1, Seq: s.Seq + 1}
			if old, ok := batch.Find(s, id); !ok || r.Intn(6) > 0 {
				d := doc(t, id, s.Seq+1, some("cde"), "")
				for _, u := range some("uvw") {
					d.Grants = append(d.Grants, api.Grant{User: string(u), Channel: string("cde"[r.Intn(3)])})
				}
				if ok {
					d.Tree = grown(t, old.Tree, winner(old), r.Intn(99))
				}
				if len(d.Tree.Nodes) > api.MaxDepth {
					continue
				}
				b = api.Batch{Docs: []api.Doc{d}}
			}
			x, e := views.With(s, b, users...)
			if e != api.OK {
				t.Fatal(e)
			}
			before := s
			if s, e = batch.Apply(s, x); e != api.OK {
				t.Fatal(e)
			}
			for _, user := range users {
				var visible []string
				for _, y := range s.Seens {
					if y.User != user {
						continue
					}
					if y.Gone == 1 {
						if grants.Sees(s, user, y.Doc) {
							t.Fatal("gone, and seen")
						}
						continue
					}
					visible = append(visible, y.Doc)
					d, _ := batch.Find(s, y.Doc)
					if y.Rev != winner(d) {
						t.Fatal("not the winner")
					}
				}
				if all := grants.All(s, user); !slices.Equal(visible, all) {
					t.Fatalf("%v, not %v", visible, all)
				}
			}
			for _, y := range x.Seens {
				if !grants.Sees(before, y.User, y.Doc) && !grants.Sees(s, y.User, y.Doc) {
					t.Fatal("told of what is not seen")
				}
			}
		}
	}
}

package batch_test

import (
	"bytes"
	"fmt"
	"math/rand"
	"slices"
	"strings"
	"testing"

	"tidewrack/api"
	"tidewrack/batch"
	"tidewrack/code"
	"tidewrack/tree"
	"tidewrack/value"
)

// grown is a tree of one revision, by the number n.
func grown(n int) api.Tree {
	x, _, e := tree.Edit(api.Tree{}, api.Rev{}, 0, value.List(value.Number(int64(n))))
	if e != api.OK {
		panic(e)
	}
	return x
}

func doc(id string, seq uint64) api.Doc { return api.Doc{Id: id, Seq: seq, Tree: grown(int(seq))} }

func seen(user, doc string, seq uint64) api.Seen {
	return api.Seen{User: user, Doc: doc, Seq: seq, Rev: api.Rev{Gen: 1, Sum: [16]byte{byte(seq)}}}
}

func name(i int) string { return fmt.Sprintf("n%02d", i) }

// full has all that a state may have.
func full() api.State {
	s := api.State{Seq: 1000}
	for i := range 24 {
		s.Docs = append(s.Docs, doc(name(i), uint64(i+1)))
	}
	for i := range 16 {
		s.Locals = append(s.Locals, api.Local{Id: name(i), Seq: uint64(i)})
	}
	for u := range 4 {
		for i := range 24 {
			s.Seens = append(s.Seens, seen(name(u), name(i), uint64(i+1)))
		}
	}
	return s
}

// rich has a bit of everything.
func rich() api.State {
	d := doc("a", 3)
	d.Channels, d.Grants = []string{"c", "d"}, []api.Grant{{User: "u", Channel: "c"}, {User: "u", Channel: "d"}, {User: "v", Channel: "c"}}
	e := doc("b", 5)
	e.Gone = 1
	gone := seen("u", "b", 7)
	gone.Gone, gone.Channel = 1, "c"
	return api.State{Seq: 9, Docs: []api.Doc{d, e}, Locals: []api.Local{{Id: "pull", Seq: 4}, {Id: "push"}}, Seens: []api.Seen{seen("u", "a", 3), gone, seen("v", "a", 7)}}
}

func TestMayName(t *testing.T) {
	for _, s := range []string{"a", "!", "~", "a.b", "\"", "\\", strings.Repeat("x", 24)} {
		if !batch.MayName(s) {
			t.Errorf("%q: not valid", s)
		}
	}
	for _, s := range []string{"", " ", "a b", "\x7f", "\n", "é", strings.Repeat("x", 25)} {
		if batch.MayName(s) {
			t.Errorf("%q: valid", s)
		}
	}
}

func TestMayDoc(t *testing.T) {
	var channels []string
	var grants []api.Grant
	for i := range 17 {
		channels = append(channels, name(i))
		grants = append(grants, api.Grant{User: name(i / 4), Channel: name(i)})
	}
	for what, c := range map[string]struct {
		change func(d *api.Doc)
		want   bool
	}{
		"as it is": {func(d *api.Doc) {}, true}, "gone": {func(d *api.Doc) { d.Gone = 1 }, true}, "greatest seq": {func(d *api.Doc) { d.Seq = api.MaxCount }, true},
		"eight channels": {func(d *api.Doc) { d.Channels = channels[:8] }, true}, "16 grants": {func(d *api.Doc) { d.Grants = grants[:16] }, true},
		"no id": {func(d *api.Doc) { d.Id = "" }, false}, "id with a blank": {func(d *api.Doc) { d.Id = "a b" }, false}, "no seq": {func(d *api.Doc) { d.Seq = 0 }, false}, "seq too great": {func(d *api.Doc) { d.Seq = api.MaxCount + 1 }, false},
		"gone 2": {func(d *api.Doc) { d.Gone = 2 }, false}, "gone -1": {func(d *api.Doc) { d.Gone = -1 }, false}, "no tree": {func(d *api.Doc) { d.Tree = api.Tree{} }, false}, "bad tree": {func(d *api.Doc) { d.Tree.Nodes[0].Has = 0 }, false},
		"nine channels": {func(d *api.Doc) { d.Channels = channels[:9] }, false}, "equal channels": {func(d *api.Doc) { d.Channels = []string{"a", "a"} }, false}, "falling channels": {func(d *api.Doc) { d.Channels = []string{"b", "a"} }, false}, "bad channel": {func(d *api.Doc) { d.Channels = []string{""} }, false},
		"17 grants": {func(d *api.Doc) { d.Grants = grants }, false}, "equal grants": {func(d *api.Doc) { d.Grants = []api.Grant{grants[0], grants[0]} }, false}, "falling users": {func(d *api.Doc) { d.Grants = []api.Grant{{User: "b", Channel: "a"}, {User: "a", Channel: "b"}} }, false},
		"falling channels of grants": {func(d *api.Doc) { d.Grants = []api.Grant{{User: "a", Channel: "b"}, {User: "a", Channel: "a"}} }, false}, "grant to nobody": {func(d *api.Doc) { d.Grants = []api.Grant{{Channel: "b"}} }, false}, "grant of nothing": {func(d *api.Doc) { d.Grants = []api.Grant{{User: "b"}} }, false},
	} {
		d := doc("a", 1)
		c.change(&d)
		if batch.MayDoc(d) != c.want {
			t.Errorf("%s: %v", what, !c.want)
		}
		if s := (api.State{Seq: api.MaxCount, Docs: []api.Doc{d}}); batch.MayState(s) != c.want {
			t.Errorf("a state of %s: %v", what, !c.want)
		}
		if b := (api.Batch{Docs: []api.Doc{d}}); batch.May(b) != c.want {
			t.Errorf("a batch of %s: %v", what, !c.want)
		}
	}
}

func TestMayState(t *testing.T) {
	for _, s := range []api.State{{}, full(), rich(), {Seq: api.MaxCount}} {
		if !batch.MayState(s) {
			t.Error("not valid")
		}
	}
	local := func(id string, seq uint64) func(s *api.State) {
		return func(s *api.State) { s.Locals = append(s.Locals, api.Local{Id: id, Seq: seq}) }
	}
	entry := func(change func(x *api.Seen)) func(s *api.State) {
		return func(s *api.State) {
			x := seen("z", "z", 1)
			change(&x)
			s.Seens = append(s.Seens, x)
		}
	}
	for what, change := range map[string]func(s *api.State){
		"a local without a seq": local("z", 0), "a local ahead": local("z", api.MaxCount), "an entry": entry(func(x *api.Seen) {}), "an entry at the end": entry(func(x *api.Seen) { x.Seq = 9 }),
		"gone through nothing": entry(func(x *api.Seen) { x.Gone = 1 }), "gone through a channel": entry(func(x *api.Seen) { x.Gone, x.Channel = 1, "c" }), "an entry of a doc's seq": entry(func(x *api.Seen) { x.Seq = 3 })} {
		s := rich()
		if change(&s); !batch.MayState(s) {
			t.Errorf("%s: not valid", what)
		}
		b := api.Batch{Docs: s.Docs, Locals: s.Locals, Seens: s.Seens}
		if !batch.May(b) {
			t.Errorf("a batch of %s: not valid", what)
		}
	}
	for what, change := range map[string]func(s *api.State){
		"equal ids": func(s *api.State) { s.Docs[1].Id = "a" }, "falling ids": func(s *api.State) { s.Docs[1].Id = "A" }, "equal seqs": func(s *api.State) { s.Docs[1].Seq = 3 },
		"a local without a name": local("", 1), "a local of a bad name": local("z z", 1), "equal locals": local("push", 1), "falling locals": local("a", 1), "a local too great": local("z", api.MaxCount+1),
		"falling users": entry(func(x *api.Seen) { x.User = "a" }), "falling docs": entry(func(x *api.Seen) { x.User, x.Doc = "v", "A" }), "equal entries": entry(func(x *api.Seen) { x.User, x.Doc = "v", "a" }),
		"an entry without a user": entry(func(x *api.Seen) { x.User = "" }), "an entry of a bad user": entry(func(x *api.Seen) { x.User = "z z" }), "an entry without a doc": entry(func(x *api.Seen) { x.Doc = "z z" }), "an entry without a seq": entry(func(x *api.Seen) { x.Seq = 0 }),
		"an entry without a rev": entry(func(x *api.Seen) { x.Rev = api.Rev{} }), "an entry gone 2": entry(func(x *api.Seen) { x.Gone = 2 }), "a channel, not gone": entry(func(x *api.Seen) { x.Channel = "c" }), "a bad channel": entry(func(x *api.Seen) { x.Gone, x.Channel = 1, "c c" }),
		"an entry too great": entry(func(x *api.Seen) { x.Seq = api.MaxCount + 1 }),
	} {
		s := rich()
		if change(&s); batch.MayState(s) {
			t.Errorf("%s: valid", what)
		}
		b := api.Batch{Docs: s.Docs, Locals: s.Locals, Seens: s.Seens}
		if batch.May(b) {
			t.Errorf("a batch of %s: valid", what)
		}
		if x, e := batch.Apply(s, api.Batch{}); e != api.ErrArg || !batch.SameState(x, api.State{}) {
			t.Errorf("%s: Apply: %v", what, e)
		}
		if x, e := batch.Apply(api.State{}, b); e != api.ErrArg || !batch.SameState(x, api.State{}) {
			t.Errorf("%s: Apply: %v", what, e)
		}
		if x := batch.Whole(s); !batch.Same(x, api.Batch{}) {
			t.Errorf("%s: Whole", what)
		}
		if x, e := batch.Encode(b); e != api.ErrArg || len(x) != 0 {
			t.Errorf("%s: Encode: %v", what, e)
		}
	}
	for what, change := range map[string]func(s *api.State){
		"a doc above": func(s *api.State) { s.Docs[1].Seq = 10 }, "an entry above": entry(func(x *api.Seen) { x.Seq = 10 }), "seq too great": func(s *api.State) { s.Seq = api.MaxCount + 1 }, "seq too small": func(s *api.State) { s.Seq = 6 }} {
		s := rich()
		if change(&s); batch.MayState(s) {
			t.Errorf("%s: valid", what)
		}
	}
	for what, change := range map[string]func(s *api.State){
		"25 docs": func(s *api.State) { s.Docs = append(s.Docs, doc("z", 99)) }, "17 locals": local("z", 1),
		"five users": entry(func(x *api.Seen) {}), "25 of a user": entry(func(x *api.Seen) { x.User = name(3) })} {
		s := full()
		if change(&s); batch.MayState(s) {
			t.Errorf("%s: valid", what)
		}
	}
}

func TestMay(t *testing.T) {
	var names []string
	for i := range 25 {
		names = append(names, "p"+name(i))
	}
	for what, c := range map[string]struct {
		b    api.Batch
		want bool
	}{
		"zero": {api.Batch{}, true}, "cleared": {api.Batch{Clear: 1}, true}, "clear 2": {api.Batch{Clear: 2}, false}, "clear -1": {api.Batch{Clear: -1}, false}, "greatest seq": {api.Batch{Seq: api.MaxCount}, true}, "seq too great": {api.Batch{Seq: api.MaxCount + 1}, false},
		"24 purged": {api.Batch{Purged: names[:24]}, true}, "25 purged": {api.Batch{Purged: names}, false}, "equal": {api.Batch{Purged: []string{"a", "a"}}, false}, "falling": {api.Batch{Purged: []string{"b", "a"}}, false}, "bad name": {api.Batch{Purged: []string{""}}, false},
		"purged and put": {api.Batch{Purged: []string{"a", "b"}, Docs: []api.Doc{doc("b", 1)}}, false}, "purged, and another one put": {api.Batch{Purged: []string{"a", "c"}, Docs: []api.Doc{doc("b", 1)}}, true}, "purged and told": {api.Batch{Purged: []string{"a"}, Seens: []api.Seen{seen("u", "a", 1)}}, true},
	} {
		if batch.May(c.b) != c.want {
			t.Errorf("%s: %v", what, !c.want)
		}
	}
	s := full()
	if b := (api.Batch{Docs: s.Docs, Locals: s.Locals, Seens: s.Seens, Purged: names[:24], Clear: 1, Seq: 3}); !batch.May(b) {
		t.Error("a full batch is not valid")
	}
}

func TestSameAndOwn(t *testing.T) {
	base := rich()
	for what, change := range map[string]func(s *api.State){
		"seq": func(s *api.State) { s.Seq++ }, "id": func(s *api.State) { s.Docs[0].Id = "0" }, "doc's seq": func(s *api.State) { s.Docs[0].Seq++ }, "gone": func(s *api.State) { s.Docs[0].Gone = 1 }, "channel": func(s *api.State) { s.Docs[0].Channels[1] = "e" },
		"grant": func(s *api.State) { s.Docs[0].Grants[2].User = "w" }, "grant's channel": func(s *api.State) { s.Docs[0].Grants[2].Channel = "w" }, "tree": func(s *api.State) { s.Docs[1].Tree.Nodes[0].Body.List[0].Num = 77 }, "fewer docs": func(s *api.State) { s.Docs = s.Docs[:1] },
		"local": func(s *api.State) { s.Locals[0].Id = "x" }, "local's seq": func(s *api.State) { s.Locals[1].Seq++ }, "user": func(s *api.State) { s.Seens[0].User = "t" }, "entry's doc": func(s *api.State) { s.Seens[0].Doc = "0" }, "entry's seq": func(s *api.State) { s.Seens[0].Seq++ },
		"rev": func(s *api.State) { s.Seens[0].Rev.Sum[15]++ }, "entry's gone": func(s *api.State) { s.Seens[0].Gone++ }, "entry's channel": func(s *api.State) { s.Seens[1].Channel = "e" }, "fewer entries": func(s *api.State) { s.Seens = s.Seens[1:] },
	} {
		s := batch.Own(base)
		if !batch.SameState(s, base) {
			t.Fatal("Own differs")
		}
		change(&s)
		if batch.SameState(s, base) || batch.SameState(base, s) {
			t.Errorf("%s: the same states", what)
		}
		if what != "seq" && batch.Same(api.Batch{Docs: s.Docs, Locals: s.Locals, Seens: s.Seens}, api.Batch{Docs: base.Docs, Locals: base.Locals, Seens: base.Seens}) {
			t.Errorf("%s: the same batches", what)
		}
		if !batch.SameState(base, rich()) {
			t.Fatalf("%s: Own shares", what)
		}
	}
	for _, b := range []api.Batch{{Clear: 1}, {Seq: 1}, {Purged: []string{"a"}}} {
		if batch.Same(b, api.Batch{}) {
			t.Errorf("%v: the same", b)
		}
	}
	if !batch.Same(api.Batch{}, api.Batch{Docs: []api.Doc{}, Purged: []string{}}) || !batch.SameState(api.State{}, api.State{Seens: []api.Seen{}}) {
		t.Error("nil and empty differ")
	}
}

func apply(t *testing.T, s api.State, b api.Batch) api.State {
	t.Helper()
	out, e := batch.Apply(s, b)
	if e != api.OK || !batch.MayState(out) {
		t.Fatalf("Apply: %v", e)
	}
	again, e := batch.Apply(out, b)
	if e != api.OK || !batch.SameState(again, out) {
		t.Fatalf("applied twice: %v", e)
	}
	return out
}

func TestApply(t *testing.T) {
	s := apply(t, api.State{}, api.Batch{Docs: []api.Doc{doc("a", 1)}})
	if want := (api.State{Seq: 1, Docs: []api.Doc{doc("a", 1)}}); !batch.SameState(s, want) {
		t.Errorf("%v", s)
	}
	if s := apply(t, s, api.Batch{Purged: []string{"a"}}); !batch.SameState(s, api.State{Seq: 1}) {
		t.Errorf("%v", s)
	}
	base := rich()
	if s := apply(t, base, api.Batch{}); !batch.SameState(s, base) {
		t.Error("nothing changes")
	}
	want := rich()
	want.Locals = nil
	if s := apply(t, base, api.Batch{Clear: 1}); !batch.SameState(s, want) {
		t.Error("Clear")
	}
	want.Locals = []api.Local{{Id: "life", Seq: 2}}
	if s := apply(t, base, api.Batch{Clear: 1, Locals: want.Locals}); !batch.SameState(s, want) {
		t.Error("Clear, and a checkpoint")
	}
	want = rich()
	want.Locals = []api.Local{{Id: "a", Seq: 1}, {Id: "pull", Seq: 8}, {Id: "push"}, {Id: "z", Seq: 3}}
	if s := apply(t, base, api.Batch{Locals: []api.Local{{Id: "a", Seq: 1}, {Id: "pull", Seq: 8}, {Id: "z", Seq: 3}}}); !batch.SameState(s, want) {
		t.Error("checkpoints")
	}
	want = rich()
	want.Docs = want.Docs[1:]
	want.Seens = want.Seens[1:2]
	if s := apply(t, base, api.Batch{Purged: []string{"a", "q"}}); !batch.SameState(s, want) {
		t.Error("Purged")
	}
	// What is told of a purged document is put in after it is gone.
	want.Seens = []api.Seen{seen("u", "a", 8), want.Seens[0]}
	if s := apply(t, base, api.Batch{Purged: []string{"a"}, Seens: want.Seens[:1]}); !batch.SameState(s, want) {
		t.Error("Purged, and told")
	}
	want = rich()
	want.Docs = []api.Doc{doc("A", 11), want.Docs[0], doc("b", 12), doc("c", 2)}
	want.Seq = 12
	if s := apply(t, base, api.Batch{Docs: []api.Doc{want.Docs[0], want.Docs[2], want.Docs[3]}}); !batch.SameState(s, want) {
		t.Error("documents")
	}
	want = rich()
	want.Seens = []api.Seen{seen("a", "a", 13), want.Seens[0], seen("u", "b", 2), seen("u", "c", 4), want.Seens[2]}
	want.Seq = 13
	if s := apply(t, base, api.Batch{Seens: []api.Seen{want.Seens[0], want.Seens[2], want.Seens[3]}}); !batch.SameState(s, want) {
		t.Error("entries")
	}
	for seq, want := range map[uint64]uint64{0: 9, 8: 9, 10: 10, api.MaxCount: api.MaxCount} {
		if s := apply(t, base, api.Batch{Seq: seq}); s.Seq != want {
			t.Errorf("Seq %d: %d", seq, s.Seq)
		}
	}
}

func TestApplyErrors(t *testing.T) {
	fails := func(what string, s api.State, b api.Batch, want api.Errno) {
		t.Helper()
		if out, e := batch.Apply(s, b); e != want || !batch.SameState(out, api.State{}) {
			t.Errorf("%s: %v", what, e)
		}
	}
	s := full()
	fails("a bad batch", s, api.Batch{Clear: 2}, api.ErrArg)
	fails("a doc more", s, api.Batch{Docs: []api.Doc{doc("z", 500)}}, api.ErrFull)
	fails("a doc more, of a seq that is taken", s, api.Batch{Docs: []api.Doc{doc("z", 1)}}, api.ErrFull)
	fails("a local more", s, api.Batch{Locals: []api.Local{{Id: "z"}}}, api.ErrFull)
	fails("a user more", s, api.Batch{Seens: []api.Seen{seen("z", "a", 1)}}, api.ErrFull)
	fails("an entry more", s, api.Batch{Seens: []api.Seen{seen(name(1), "z", 1)}}, api.ErrFull)
	fails("a seq that is taken", s, api.Batch{Docs: []api.Doc{doc(name(3), 1)}}, api.ErrArg)
	apply(t, s, api.Batch{Docs: []api.Doc{doc(name(3), 500)}, Locals: []api.Local{{Id: name(3), Seq: 9}}, Seens: []api.Seen{seen(name(1), name(0), 600)}})
	apply(t, s, api.Batch{Docs: []api.Doc{doc("z", 500)}, Purged: []string{name(0)}, Clear: 1, Locals: []api.Local{{Id: "z"}}, Seens: []api.Seen{seen(name(1), "z", 1)}})
	apply(t, s, api.Batch{Docs: []api.Doc{doc(name(3), 5), doc(name(4), 4)}})
}

func TestWhole(t *testing.T) {
	for _, s := range []api.State{{}, rich(), full(), {Seq: 7}} {
		b := batch.Whole(s)
		want := api.Batch{Docs: s.Docs, Locals: s.Locals, Seens: s.Seens, Clear: 1, Seq: s.Seq}
		if !batch.Same(b, want) || !batch.SameState(apply(t, api.State{}, b), s) {
			t.Error("Whole")
		}
	}
}

func TestFindAndLocal(t *testing.T) {
	s := rich()
	if d, ok := batch.Find(s, "b"); !ok || d.Seq != 5 {
		t.Errorf("%v", d)
	}
	if d, ok := batch.Find(s, "c"); ok || d.Id != "" {
		t.Errorf("%v", d)
	}
	if batch.Local(s, "pull") != 4 || batch.Local(s, "q") != 0 {
		t.Error("Local")
	}
	odd := api.State{Docs: []api.Doc{{Id: "z", Seq: 1}, {Id: "a", Seq: 2}, {Id: "z", Seq: 3}}, Locals: []api.Local{{Id: "z", Seq: 1}, {Id: "a", Seq: 2}, {Id: "z", Seq: 3}}}
	if d, _ := batch.Find(odd, "z"); d.Seq != 1 || batch.Local(odd, "z") != 1 || batch.Local(odd, "a") != 2 {
		t.Errorf("%v", d)
	}
}

func TestEncode(t *testing.T) {
	if b, e := batch.Encode(api.Batch{}); e != api.OK || !bytes.Equal(b, make([]byte, 6)) {
		t.Errorf("%v, %v", b, e)
	}
	s := rich()
	w := code.NewWriter()
	w.Uint(2)
	for _, d := range s.Docs {
		w.Text(d.Id)
		w.Put(d.Seq, uint64(d.Gone), uint64(len(d.Channels)))
		for _, c := range d.Channels {
			w.Text(c)
		}
		w.Uint(uint64(len(d.Grants)))
		for _, g := range d.Grants {
			w.Text(g.User)
			w.Text(g.Channel)
		}
		x, _ := tree.Encode(d.Tree)
		w.Text(string(x))
	}
	w.Uint(2)
	w.Text("pull")
	w.Uint(4)
	w.Text("push")
	w.Uint(0)
	w.Uint(3)
	for _, x := range s.Seens {
		w.Text(x.User)
		w.Text(x.Doc)
		w.Put(x.Seq, x.Rev.Gen)
		w.Raw(x.Rev.Sum[:])
		w.Uint(uint64(x.Gone))
		w.Text(x.Channel)
	}
	w.Uint(2)
	w.Text("x")
	w.Text("y")
	w.Put(1, 300)
	b := api.Batch{Docs: s.Docs, Locals: s.Locals, Seens: s.Seens, Purged: []string{"x", "y"}, Clear: 1, Seq: 300}
	got, e := batch.Encode(b)
	if e != api.OK || !bytes.Equal(got, w.Bytes()) {
		t.Fatalf("%x, not %x, %v", got, w.Bytes(), e)
	}
	out, e := batch.Decode(got)
	if e != api.OK || !batch.Same(out, b) {
		t.Fatalf("%v, %v", out, e)
	}
	for i := range got {
		if out, e := batch.Decode(got[:i]); e != api.ErrForm || !batch.Same(out, api.Batch{}) {
			t.Errorf("cut at %d: %v", i, e)
		}
		for _, bit := range []byte{1, 2, 16, 128} {
			x := bytes.Clone(got)
			x[i] ^= bit
			if out, e := batch.Decode(x); e == api.OK {
				if again, _ := batch.Encode(out); !bytes.Equal(again, x) {
					t.Errorf("%d of %d: not the encoding of what is decoded", bit, i)
				}
			} else if e != api.ErrForm || !batch.Same(out, api.Batch{}) {
				t.Errorf("%v with %v", out, e)
			}
		}
	}
	for what, x := range map[string][]byte{"none": nil, "more": append(bytes.Clone(got), 0), "clear 2": {0, 0, 0, 0, 2, 0}, "many": {255, 255, 255, 255, 255, 255, 255, 255, 255, 0, 0, 0}} {
		if _, e := batch.Decode(x); e != api.ErrForm {
			t.Errorf("%s: %v", what, e)
		}
	}
	whole := batch.Whole(full())
	if x, e := batch.Encode(whole); e != api.OK {
		t.Errorf("%v", e)
	} else if out, e := batch.Decode(x); e != api.OK || !batch.Same(out, whole) {
		t.Errorf("%v", e)
	}
}

func TestArgumentsAreKept(t *testing.T) {
	s := rich()
	s.Docs = append(make([]api.Doc, 0, 9), s.Docs...)
	s.Locals = append(make([]api.Local, 0, 9), s.Locals...)
	s.Seens = append(make([]api.Seen, 0, 9), s.Seens...)
	b := api.Batch{Docs: []api.Doc{doc("A", 20), doc("z", 21)}, Locals: []api.Local{{Id: "z"}}, Seens: []api.Seen{seen("z", "z", 22)}, Purged: []string{"q"}}
	out, _ := batch.Apply(s, b)
	spoil := func(docs []api.Doc) {
		for i := range docs {
			docs[i].Id, docs[i].Tree.Nodes[0].Body.List[0].Num = "", 99
			docs[i].Tree.Nodes[0].Deleted = 9
			for k := range docs[i].Channels {
				docs[i].Channels[k] = ""
			}
			for k := range docs[i].Grants {
				docs[i].Grants[k].User = ""
			}
		}
	}
	whole := batch.Whole(s)
	d, _ := batch.Find(s, "a")
	for i := range out.Seens {
		out.Seens[i].User = ""
	}
	for i := range out.Locals {
		out.Locals[i].Id = ""
	}
	spoil(out.Docs)
	spoil(whole.Docs)
	spoil([]api.Doc{d})
	whole.Locals[0].Id, whole.Seens[0].User = "", ""
	if !batch.SameState(s, rich()) || !batch.Same(b, api.Batch{Docs: []api.Doc{doc("A", 20), doc("z", 21)}, Locals: []api.Local{{Id: "z"}}, Seens: []api.Seen{seen("z", "z", 22)}, Purged: []string{"q"}}) {
		t.Error("an argument is modified, or shared")
	}
	if s.Docs[:3][2].Id != "" || s.Locals[:3][2].Id != "" || s.Seens[:4][3].User != "" {
		t.Error("spare capacity is modified")
	}
}

func TestSequencesOfBatches(t *testing.T) {
	r := rand.New(rand.NewSource(1))
	for range 60 {
		var s api.State
		for range 30 {
			var b api.Batch
			for i := range 6 {
				switch r.Intn(9) {
				case 0:
					d := doc(name(i), s.Seq+1+uint64(i))
					d.Gone = r.Intn(2)
					b.Docs = append(b.Docs, d)
				case 1:
					b.Purged = append(b.Purged, name(i))
				case 2:
					b.Locals = append(b.Locals, api.Local{Id: name(i), Seq: uint64(r.Intn(300))})
				case 3:
					b.Seens = append(b.Seens, seen(name(r.Intn(2)), name(i), s.Seq+uint64(r.Intn(9))+1))
				}
			}
			slices.SortFunc(b.Seens, func(x, y api.Seen) int { return strings.Compare(x.User+x.Doc, y.User+y.Doc) })
			b.Clear = r.Intn(2)
			s = apply(t, s, b)
			x, e := batch.Encode(b)
			out, f := batch.Decode(x)
			if e != api.OK || f != api.OK || !batch.Same(out, b) {
				t.Fatalf("round trip: %v, %v", e, f)
			}
		}
		if !batch.SameState(apply(t, api.State{}, batch.Whole(s)), s) {
			t.Fatal("Whole")
		}
	}
}

package db_test

import (
	"bytes"
	"fmt"
	"math/rand"
	"slices"
	"testing"

	"tidewrack/api"
	"tidewrack/batch"
	"tidewrack/db"
	"tidewrack/disk"
	"tidewrack/doc"
	"tidewrack/frame"
	"tidewrack/value"
)

var none api.Rev

func made(t *testing.T, capacity int) *disk.Disk {
	t.Helper()
	d, e := disk.New(capacity)
	if e != api.OK {
		t.Fatal(e)
	}
	return d
}

func open(t *testing.T, d *disk.Disk) *db.Db {
	t.Helper()
	b, e := db.Open(d)
	if e != api.OK || b == nil {
		t.Fatalf("Open: %v", e)
	}
	return b
}

func want(t *testing.T, what string, got, want api.Errno) {
	t.Helper()
	if got != want {
		t.Errorf("%s: %v, not %v", what, got, want)
	}
}

func number(n int) api.Value { return value.List(value.Number(int64(n))) }

func edit(t *testing.T, b *db.Db, id string, parent api.Rev, n int) api.Rev {
	t.Helper()
	r, e := b.Edit(id, parent, 0, number(n))
	if e != api.OK || r.Gen != parent.Gen+1 {
		t.Fatalf("Edit: %v, %v", r, e)
	}
	return r
}

// logged are the batches of the log.
func logged(t *testing.T, d *disk.Disk) []api.Batch {
	t.Helper()
	b, _ := d.Read("log")
	records, tail := frame.All(b)
	if tail.Size != len(b) {
		t.Error("the log does not end with a record")
	}
	var out []api.Batch
	for _, r := range records {
		x, e := batch.Decode(r)
		if e != api.OK {
			t.Errorf("a record that is no batch: %v", e)
		}
		out = append(out, x)
	}
	return out
}

func seen(user, doc string, seq uint64) api.Seen {
	return api.Seen{User: user, Doc: doc, Seq: seq, Rev: api.Rev{Gen: 1}}
}

func TestExamples(t *testing.T) {
	d := made(t, 60000)
	b := open(t, d)
	edit(t, b, "a", none, 0)
	if b.Count() != 1 || b.Size() != d.Size("log") || b.Size() == 0 {
		t.Errorf("%d, %d", b.Count(), b.Size())
	}
	want(t, "Sync", b.Sync(), api.OK)
	if d.Waits() != 0 {
		t.Error("Sync does nothing")
	}
	s := b.State()
	edit(t, b, "b", none, 0)
	d.Crash(0, 0)
	d.Start()
	b = open(t, d)
	if !batch.SameState(b.State(), s) || len(s.Docs) != 1 || s.Docs[0].Id != "a" || s.Seq != 1 {
		t.Errorf("%v", b.State())
	}
	if r, e := b.Edit("a", none, 0, number(1)); e != api.ErrConflict || r != none {
		t.Errorf("%v, %v", r, e)
	}
}

func TestOpen(t *testing.T) {
	if b, e := db.Open(nil); b != nil || e != api.ErrDown {
		t.Errorf("%v", e)
	}
	good, _ := batch.Encode(api.Batch{Seq: 5})
	x := api.Batch{Docs: []api.Doc{func() api.Doc { d, _, _ := doc.Edit(api.State{}, "a", none, 0, number(1)); return d }()}}
	one, _ := batch.Encode(x)
	x.Docs[0].Id = "b"
	two, _ := batch.Encode(x)
	for what, c := range map[string]struct {
		records [][]byte
		want    api.Errno
	}{"none": {nil, api.OK}, "batches": {[][]byte{good, one}, api.OK}, "no batch": {[][]byte{good, {1}}, api.ErrForm}, "nothing": {[][]byte{{}}, api.ErrForm}, "a batch that does not fit": {[][]byte{one, two}, api.ErrForm}} {
		d := made(t, 1000)
		row, _, _ := frame.Row(c.records...)
		d.Put("log", append(row, 9))
		b, e := db.Open(d)
		if e != c.want || (b == nil) != (e != api.OK) {
			t.Errorf("%s: %v", what, e)
		}
		if what == "batches" {
			if s := b.State(); s.Seq != 5 || len(s.Docs) != 1 || b.Count() != 2 || b.Size() != len(row) || d.Size("log") != len(row) {
				t.Errorf("%s: %v", what, s)
			}
		}
	}
	d := made(t, 100)
	d.Fuse(1, 0, 0)
	if b, e := db.Open(d); b != nil || e != api.ErrDown {
		t.Errorf("a fuse: %v", e)
	}
}

func TestOperations(t *testing.T) {
	d := made(t, 60000)
	b := open(t, d)
	var expected []api.Batch
	check := func(what string, add ...api.Batch) {
		t.Helper()
		expected = append(expected, add...)
		got := logged(t, d)
		if !slices.EqualFunc(got, expected, batch.Same) {
			t.Fatalf("%s: %v, not %v", what, got[len(got)-1], expected[len(expected)-1])
		}
		var s api.State
		for _, x := range expected {
			s, _ = batch.Apply(s, x)
		}
		if !batch.SameState(s, b.State()) || b.Count() != len(expected) || b.Size() != d.Size("log") {
			t.Fatalf("%s: %v", what, b.State())
		}
	}
	alone := func(id string) api.Batch {
		d, _ := batch.Find(b.State(), id)
		return api.Batch{Docs: []api.Doc{d}}
	}
	r := edit(t, b, "a", none, 1)
	check("Edit", alone("a"))
	from := b.State()
	c, _ := doc.Fetch(from, "a", none)
	c.Id = "c"
	n, e := b.Force(c)
	if check("Force", alone("c")); n != 1 || e != api.OK {
		t.Errorf("%d, %v", n, e)
	}
	n, e = b.Force(c)
	if check("Force again"); n != 0 || e != api.OK {
		t.Errorf("%d, %v", n, e)
	}
	n, e = b.Mark("c", 1)
	if check("Mark", alone("c")); n != 1 || e != api.OK || b.State().Seq != 2 {
		t.Errorf("%d, %v", n, e)
	}
	n, e = b.Mark("c", 1)
	if check("Mark again"); n != 0 || e != api.OK {
		t.Errorf("%d, %v", n, e)
	}
	n, e = b.Mark("c", 0)
	if check("Mark 0", alone("c")); n != 1 || e != api.OK || b.State().Seq != 3 {
		t.Errorf("%d, %v", n, e)
	}
	want(t, "Check", b.Check("push", 7), api.OK)
	check("Check", api.Batch{Locals: []api.Local{{Id: "push", Seq: 7}}})
	if s := b.State(); s.Seq != 3 || batch.Local(s, "push") != 7 {
		t.Errorf("%v", s)
	}
	x := api.Batch{Seens: []api.Seen{seen("u", "a", 9)}, Seq: 12}
	want(t, "Do", b.Do(x), api.OK)
	check("Do", x)
	want(t, "Purge", b.Purge("a"), api.OK)
	check("Purge", api.Batch{Purged: []string{"a"}, Clear: 1})
	if s := b.State(); len(s.Locals) != 0 || len(s.Docs) != 1 || len(s.Seens) != 0 {
		t.Errorf("%v", s)
	}
	_, e = b.Edit("c", r, 0, api.Value{Kind: 9})
	want(t, "Edit", e, api.ErrArg)
	_, e = b.Edit("c", none, 0, number(1))
	want(t, "Edit", e, api.ErrConflict)
	_, e = b.Force(api.Copy{})
	want(t, "Force", e, api.ErrArg)
	_, e = b.Mark("q", 1)
	want(t, "Mark", e, api.ErrNone)
	_, e = b.Mark("c", 2)
	want(t, "Mark", e, api.ErrArg)
	want(t, "Purge", b.Purge("a"), api.ErrNone)
	want(t, "Check", b.Check("", 7), api.ErrArg)
	want(t, "Check", b.Check("x", api.MaxCount+1), api.ErrArg)
	want(t, "Do", b.Do(api.Batch{Clear: 3}), api.ErrArg)
	check("errors")
	for i := range 16 {
		want(t, "Check", b.Check(fmt.Sprint("s", i), 1), api.OK)
	}
	want(t, "Check", b.Check("z", 1), api.ErrFull)
}

func TestFullDisk(t *testing.T) {
	d := made(t, 150)
	b := open(t, d)
	edit(t, b, "a", none, 1)
	s, size := b.State(), b.Size()
	for i := range 30 {
		r, e := b.Edit(fmt.Sprint("n", i), none, 0, number(i))
		if e == api.OK {
			s, size = b.State(), b.Size()
			continue
		}
		if want(t, "Edit", e, api.ErrFull); r != none || !batch.SameState(b.State(), s) || b.Size() != size || d.Size("log") != size {
			t.Fatal("an error changes the db")
		}
	}
	if size == 0 || size > 150 {
		t.Errorf("%d", size)
	}
	c, _ := doc.Fetch(s, "a", none)
	c.Id = "new"
	if n, e := b.Force(c); n != 0 || e != api.ErrFull {
		t.Errorf("Force: %d, %v", n, e)
	}
	if n, e := b.Mark("a", 1); n != 0 || e != api.ErrFull {
		t.Errorf("Mark: %d, %v", n, e)
	}
	want(t, "Purge", b.Purge("a"), api.OK)
	s, size = b.State(), b.Size()
	want(t, "Compact", b.Compact(), api.ErrFull)
	if !batch.SameState(b.State(), s) || b.Size() != size {
		t.Error("an error changes the db")
	}
}

// big is a document of two leaves of 500 bytes.
func big(t *testing.T, id string, seq uint64) api.Doc {
	text := func(c byte) api.Value { return value.Text(string(bytes.Repeat([]byte{c}, 500))) }
	one, _, _ := doc.Edit(api.State{}, id, none, 0, text('x'))
	two, r, _ := doc.Edit(api.State{}, id, none, 0, text('y'))
	both, n, e := doc.Force(api.State{Seq: 1, Docs: []api.Doc{one}}, api.Copy{Id: id, Path: []api.Rev{r}, Body: two.Tree.Nodes[0].Body})
	if n != 1 || e != api.OK {
		t.Fatalf("%d, %v", n, e)
	}
	both.Seq = seq
	return both
}

func TestLong(t *testing.T) {
	b := open(t, made(t, 60000))
	var x api.Batch
	for i := range 24 {
		x.Docs = append(x.Docs, big(t, fmt.Sprintf("n%02d", i), uint64(i+1)))
	}
	want(t, "Do", b.Do(x), api.ErrLong)
	if b.Count() != 0 || len(b.State().Docs) != 0 {
		t.Error("an error changes the db")
	}
	x.Docs = x.Docs[:12]
	want(t, "Do", b.Do(x), api.OK)
}

func TestCompact(t *testing.T) {
	d := made(t, 60000)
	b := open(t, d)
	a := edit(t, b, "a", none, 1)
	edit(t, b, "a", a, 2)
	edit(t, b, "b", none, 3)
	b.Check("x", 4)
	b.Do(api.Batch{Seens: []api.Seen{seen("u", "a", 1), seen("u", "b", 2), seen("v", "a", 9)}, Seq: 20})
	s := b.State()
	want(t, "Compact", b.Compact(), api.OK)
	expected := []api.Batch{{Clear: 1, Locals: s.Locals, Seq: 20}, {Docs: s.Docs[:1]}, {Docs: s.Docs[1:]}, {Seens: s.Seens[:2]}, {Seens: s.Seens[2:]}}
	if got := logged(t, d); !slices.EqualFunc(got, expected, batch.Same) {
		t.Errorf("%v", got)
	}
	if !batch.SameState(b.State(), s) || b.Count() != 5 || b.Size() != d.Size("log") || d.Waits() != 0 {
		t.Error("Compact changes the state")
	}
	edit(t, b, "c", none, 3)
	if b.Count() != 6 || !batch.SameState(open(t, d).State(), b.State()) {
		t.Error("after Compact")
	}
	empty := open(t, made(t, 100))
	want(t, "Compact", empty.Compact(), api.OK)
	if empty.Count() != 1 || empty.Size() != 14 {
		t.Errorf("%d, %d", empty.Count(), empty.Size())
	}
	d.Fuse(1, 0, 0)
	want(t, "Compact", b.Compact(), api.ErrDown)
}

func TestNoDb(t *testing.T) {
	var none *db.Db
	for _, b := range []*db.Db{none, {}} {
		r, e := b.Edit("a", api.Rev{}, 0, number(1))
		want(t, "Edit", e, api.ErrArg)
		n, f := b.Force(api.Copy{})
		want(t, "Force", f, api.ErrArg)
		m, g := b.Mark("a", 1)
		want(t, "Mark", g, api.ErrArg)
		if r != (api.Rev{}) || n != 0 || m != 0 {
			t.Error("results")
		}
		want(t, "Do", b.Do(api.Batch{}), api.ErrArg)
		want(t, "Purge", b.Purge("a"), api.ErrArg)
		want(t, "Check", b.Check("a", 1), api.ErrArg)
		want(t, "Sync", b.Sync(), api.ErrArg)
		want(t, "Compact", b.Compact(), api.ErrArg)
		if b.Size() != 0 || b.Count() != 0 || !batch.SameState(b.State(), api.State{}) {
			t.Error("a db that Open did not make")
		}
	}
}

func TestSharing(t *testing.T) {
	b := open(t, made(t, 60000))
	body := number(1)
	r, _ := b.Edit("a", none, 0, body)
	x := api.Batch{Seens: []api.Seen{seen("u", "a", 1)}, Locals: []api.Local{{Id: "l"}}}
	b.Do(x)
	c, _ := doc.Fetch(b.State(), "a", none)
	c.Id = "b"
	b.Force(c)
	old := b.State()
	body.List[0].Num, x.Seens[0].User, x.Locals[0].Id, c.Body.List[0].Num, c.Path[0].Gen = 9, "x", "x", 9, 9
	s := b.State()
	s.Docs[0].Tree.Nodes[0].Body.List[0].Num, s.Seens[0].User, s.Locals[0].Id, s.Docs[1].Id = 9, "x", "x", "x"
	if !batch.SameState(b.State(), old) {
		t.Error("the db shares")
	}
	if n, e := doc.Get(b.State(), "a", r); e != api.OK || n.Body.List[0].Num != 1 {
		t.Errorf("%v", e)
	}
}

func TestPrefix(t *testing.T) {
	r := rand.New(rand.NewSource(1))
	for range 250 {
		d := made(t, 6000)
		b := open(t, d)
		states := []api.State{{}} // behind each operation
		synced := 0
		for range r.Intn(25) {
			if r.Intn(15) == 0 {
				d.Fuse(1+r.Intn(4), r.Intn(4), r.Intn(60))
			}
			before := b.State()
			var e api.Errno
			id := string("abc"[r.Intn(3)])
			switch r.Intn(8) {
			case 0:
				e = b.Check(id, uint64(r.Intn(9)))
			case 1:
				_, e = b.Mark(id, r.Intn(2))
			case 2:
				e = b.Purge(id)
			case 3:
				e = b.Sync()
			case 4:
				e = b.Compact()
			default:
				parent := none
				if n, f := doc.Get(before, id, none); f == api.OK {
					parent = n.Rev
				}
				var x api.Rev
				x, e = b.Edit(id, parent, 0, number(r.Intn(100)))
				if e == api.OK && x.Gen != parent.Gen+1 {
					t.Fatal("Gen")
				}
			}
			if e != api.OK && !batch.SameState(b.State(), before) {
				t.Fatal("an error changes the state")
			}
			if e == api.ErrDown {
				break
			}
			states = append(states, b.State())
			if d.Waits() == 0 {
				synced = len(states) - 1
			}
		}
		if !d.Down() {
			d.Crash(r.Intn(6), r.Intn(60))
		}
		d.Start()
		b = open(t, d)
		got := b.State()
		if !batch.SameState(open(t, d).State(), got) {
			t.Fatal("opened twice")
		}
		at := slices.IndexFunc(states[synced:], func(s api.State) bool { return batch.SameState(s, got) })
		// In the midst of an operation, that one may be done, too: then the state is a further one.
		last := states[len(states)-1]
		if at < 0 && got.Seq < last.Seq {
			t.Fatalf("no prefix: %v", got)
		}
		x, e := b.Edit("fresh", none, 0, number(1))
		if e != api.OK && e != api.ErrFull || e == api.OK && x.Gen != 1 {
			t.Fatal(e)
		}
		if e == api.OK {
			f, _ := batch.Find(b.State(), "fresh")
			for _, d := range got.Docs {
				if d.Seq >= f.Seq {
					t.Fatal("a sequence is given again")
				}
			}
		}
	}
}

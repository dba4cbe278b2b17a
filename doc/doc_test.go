package doc_test

import (
	"fmt"
	"math"
	"math/rand"
	"slices"
	"strings"
	"testing"

	"tidewrack/api"
	"tidewrack/batch"
	"tidewrack/doc"
	"tidewrack/rev"
	"tidewrack/tree"
	"tidewrack/value"
)

var none api.Rev

func list(n int) api.Value { return value.List(value.Number(int64(n))) }

func put(t *testing.T, s api.State, d api.Doc) api.State {
	t.Helper()
	out, e := batch.Apply(s, api.Batch{Docs: []api.Doc{d}})
	if e != api.OK {
		t.Fatalf("Apply: %v", e)
	}
	return out
}

func edit(t *testing.T, s api.State, id string, parent api.Rev, deleted int, body api.Value) (api.State, api.Rev) {
	t.Helper()
	d, r, e := doc.Edit(s, id, parent, deleted, body)
	if e != api.OK || d.Id != id || d.Seq != s.Seq+1 || d.Gone != 0 || !batch.MayDoc(d) {
		t.Fatalf("Edit: %v, %v", d, e)
	}
	return put(t, s, d), r
}

// some is a state of a with two leaves, and b; a has channels and grants, b is gone.
func some(t *testing.T) (s api.State, root, low, high, b api.Rev) {
	s, root = edit(t, s, "a", none, 0, list(0))
	s, one := edit(t, s, "a", root, 0, list(1))
	c := api.Copy{Id: "a", Path: []api.Rev{child(t, root, 0, list(2)), root}, Body: list(2)}
	d, n, e := doc.Force(s, c)
	if n != 1 || e != api.OK {
		t.Fatal(e)
	}
	d.Channels, d.Grants = []string{"c"}, []api.Grant{{User: "u", Channel: "c"}}
	s = put(t, s, d)
	s, b = edit(t, s, "b", none, 1, list(3))
	d, _ = batch.Find(s, "b")
	d.Gone = 1
	s = put(t, s, d)
	low, high = one, c.Path[0]
	if rev.Cmp(low, high) > 0 {
		low, high = high, low
	}
	return s, root, low, high, b
}

func child(t *testing.T, parent api.Rev, deleted int, body api.Value) api.Rev {
	t.Helper()
	r, e := rev.Make(parent, deleted, body)
	if e != api.OK {
		t.Fatal(e)
	}
	return r
}

// crowd is a state of as many documents as there may be.
func crowd(t *testing.T) api.State {
	var s api.State
	for i := range api.MaxDocs {
		s, _ = edit(t, s, fmt.Sprintf("n%02d", i), none, 0, list(i))
	}
	return s
}

func bad() api.State { return api.State{Seq: 1, Locals: []api.Local{{}}} }

func TestEdit(t *testing.T) {
	var s api.State
	d, r, e := doc.Edit(s, "a", none, 0, api.Value{})
	if e != api.OK || d.Id != "a" || d.Seq != 1 || r.Gen != 1 || len(d.Tree.Nodes) != 1 || d.Gone != 0 || len(d.Channels)+len(d.Grants) != 0 || r != child(t, none, 0, api.Value{}) {
		t.Fatalf("%v, %v, %v", d, r, e)
	}
	s, root, low, high, _ := some(t)
	d, r, e = doc.Edit(s, "a", low, 0, list(9))
	if e != api.OK || d.Seq != s.Seq+1 || r != child(t, low, 0, list(9)) || !slices.Equal(d.Channels, []string{"c"}) || !slices.Equal(d.Grants, []api.Grant{{User: "u", Channel: "c"}}) || len(d.Tree.Nodes) != 4 {
		t.Errorf("%v, %v", d, e)
	}
	d, _, e = doc.Edit(s, "b", none, 0, list(9))
	if e != api.OK || d.Gone != 0 || d.Seq != s.Seq+1 {
		t.Errorf("a gone document: %v, %v", d, e)
	}
	spent := batch.Own(s)
	spent.Seq = api.MaxCount
	full := crowd(t)
	fullSpent := batch.Own(full)
	fullSpent.Seq = api.MaxCount
	for what, c := range map[string]struct {
		s       api.State
		id      string
		parent  api.Rev
		deleted int
		body    api.Value
		want    api.Errno
	}{
		"a bad state": {bad(), "a", none, 0, list(1), api.ErrArg}, "no name": {s, "", none, 0, list(1), api.ErrArg}, "a bad name": {s, "a b", none, 0, list(1), api.ErrArg}, "deleted 2": {s, "q", none, 2, list(1), api.ErrArg}, "a bad body": {s, "q", none, 0, value.Text("\n"), api.ErrArg},
		"a bad parent": {s, "q", api.Rev{Sum: high.Sum}, 0, list(1), api.ErrArg}, "no parent": {s, "a", none, 0, list(1), api.ErrConflict}, "not a leaf": {s, "a", root, 0, list(1), api.ErrConflict}, "of another document": {s, "b", high, 0, list(1), api.ErrConflict},
		"full": {full, "q", none, 0, list(1), api.ErrFull}, "full and spent": {fullSpent, "q", none, 0, list(1), api.ErrFull}, "full, and a conflict": {full, "q", root, 0, list(1), api.ErrConflict}, "spent": {spent, "a", high, 0, list(8), api.ErrSpent}, "spent, and a conflict": {spent, "a", none, 0, list(1), api.ErrConflict},
		"spent, a new one": {spent, "q", none, 0, list(1), api.ErrSpent},
	} {
		if d, r, e := doc.Edit(c.s, c.id, c.parent, c.deleted, c.body); e != c.want || r != none || d.Id != "" || d.Seq != 0 {
			t.Errorf("%s: %v, %v, %v", what, d, r, e)
		}
	}
	if d, _, e := doc.Edit(full, "n03", full.Docs[3].Tree.Nodes[0].Rev, 0, list(1)); e != api.OK || d.Seq != 25 {
		t.Errorf("a change of a full state: %v", e)
	}
	last := batch.Own(s)
	last.Seq = api.MaxCount - 1
	if d, _, e := doc.Edit(last, "q", none, 0, list(1)); e != api.OK || d.Seq != api.MaxCount {
		t.Errorf("the last sequence: %v", e)
	}
}

func TestForce(t *testing.T) {
	s, root, low, high, _ := some(t)
	fresh := api.Copy{Id: "a", Path: []api.Rev{child(t, low, 1, list(7)), low, root}, Deleted: 1, Body: list(7)}
	d, n, e := doc.Force(s, fresh)
	if e != api.OK || n != 1 || d.Seq != s.Seq+1 || len(d.Tree.Nodes) != 4 || !slices.Equal(d.Channels, []string{"c"}) || len(d.Grants) != 1 || d.Gone != 0 {
		t.Fatalf("%v, %d, %v", d, n, e)
	}
	after := put(t, s, d)
	again, n, e := doc.Force(after, fresh)
	if want, _ := batch.Find(after, "a"); e != api.OK || n != 0 || again.Seq != want.Seq || !tree.Same(again.Tree, want.Tree) || len(again.Channels) != 1 {
		t.Errorf("again: %v, %d, %v", again, n, e)
	}
	own := api.Copy{Id: "b", Path: []api.Rev{child(t, none, 1, list(3))}, Deleted: 1, Body: list(3)}
	if d, n, e := doc.Force(s, own); e != api.OK || n != 0 || d.Gone != 1 || d.Seq != 4 {
		t.Errorf("what a gone document has: %v, %d, %v", d, n, e)
	}
	more := api.Copy{Id: "b", Path: []api.Rev{child(t, none, 0, list(8))}, Body: list(8)}
	if d, n, e := doc.Force(s, more); e != api.OK || n != 1 || d.Gone != 0 || d.Seq != s.Seq+1 {
		t.Errorf("a gone document: %v, %d, %v", d, n, e)
	}
	if d, n, e := doc.Force(s, api.Copy{Id: "new", Path: more.Path, Body: list(8)}); e != api.OK || n != 1 || d.Id != "new" || d.Seq != s.Seq+1 {
		t.Errorf("a new document: %v, %d, %v", d, n, e)
	}
	// A path that gives a parent to a node that had been cut off changes the tree, though no name is new.
	var cut api.State
	long := []api.Rev{}
	parent := none
	for i := range 3 {
		parent = child(t, parent, 0, list(i))
		long = append([]api.Rev{parent}, long...)
	}
	d, n, e = doc.Force(cut, api.Copy{Id: "x", Path: long[:2], Body: list(2)})
	if e != api.OK || n != 1 {
		t.Fatal(e)
	}
	cut = put(t, cut, d)
	if d, n, e := doc.Force(cut, api.Copy{Id: "x", Path: long, Body: list(2)}); e != api.OK || n != 1 || len(d.Tree.Nodes) != 3 {
		t.Errorf("%d, %v", n, e)
	}
	spent := batch.Own(s)
	spent.Seq = api.MaxCount
	full := crowd(t)
	fullSpent := batch.Own(full)
	fullSpent.Seq = api.MaxCount
	for what, c := range map[string]struct {
		s    api.State
		c    api.Copy
		want api.Errno
	}{
		"a bad state": {bad(), fresh, api.ErrArg}, "a bad copy": {s, api.Copy{}, api.ErrArg}, "no name": {s, api.Copy{Path: more.Path, Body: list(8)}, api.ErrArg}, "another body": {s, api.Copy{Id: "a", Path: more.Path, Body: list(9)}, api.ErrArg}, "deleted 2": {s, api.Copy{Id: "a", Path: more.Path, Body: list(8), Deleted: 2}, api.ErrArg},
		"a single name of gen 2": {s, api.Copy{Id: "a", Path: []api.Rev{high}, Body: list(1)}, api.ErrArg}, "full": {full, more, api.ErrFull}, "full and spent": {fullSpent, more, api.ErrFull}, "spent": {spent, fresh, api.ErrSpent},
	} {
		if d, n, e := doc.Force(c.s, c.c); e != c.want || n != 0 || d.Id != "" {
			t.Errorf("%s: %v, %d, %v", what, d, n, e)
		}
	}
	if _, n, e := doc.Force(spent, own); n != 0 || e != api.OK {
		t.Errorf("spent, and nothing new: %d, %v", n, e)
	}
	var leaves api.State
	for i := range api.MaxLeaves {
		d, _, _ := doc.Force(leaves, api.Copy{Id: "x", Path: []api.Rev{child(t, none, 0, list(i))}, Body: list(i)})
		leaves = put(t, leaves, d)
	}
	if _, n, e := doc.Force(leaves, api.Copy{Id: "x", Path: []api.Rev{child(t, none, 0, list(9))}, Body: list(9)}); n != 0 || e != api.ErrFull {
		t.Errorf("nine leaves: %v", e)
	}
}

func TestMark(t *testing.T) {
	s, _, _, _, _ := some(t)
	a, _ := batch.Find(s, "a")
	d, n, e := doc.Mark(s, "a", 1)
	if e != api.OK || n != 1 || d.Gone != 1 || d.Seq != a.Seq || !tree.Same(d.Tree, a.Tree) || len(d.Channels) != 1 {
		t.Errorf("%v, %d, %v", d, n, e)
	}
	if d, n, e := doc.Mark(s, "a", 0); e != api.OK || n != 0 || d.Gone != 0 || d.Seq != a.Seq {
		t.Errorf("%v, %d, %v", d, n, e)
	}
	b, _ := batch.Find(s, "b")
	if d, n, e := doc.Mark(s, "b", 1); e != api.OK || n != 0 || d.Gone != 1 || d.Seq != b.Seq {
		t.Errorf("%v, %d, %v", d, n, e)
	}
	if d, n, e := doc.Mark(s, "b", 0); e != api.OK || n != 1 || d.Gone != 0 || d.Seq != s.Seq+1 || !tree.Same(d.Tree, b.Tree) {
		t.Errorf("%v, %d, %v", d, n, e)
	}
	spent := batch.Own(s)
	spent.Seq = api.MaxCount
	if _, n, e := doc.Mark(spent, "a", 1); n != 1 || e != api.OK {
		t.Errorf("%d, %v", n, e)
	}
	for what, c := range map[string]struct {
		s    api.State
		id   string
		gone int
		want api.Errno
	}{"a bad state": {bad(), "a", 1, api.ErrArg}, "gone 2": {s, "a", 2, api.ErrArg}, "gone -1": {s, "q", -1, api.ErrArg}, "none": {s, "q", 1, api.ErrNone}, "no name": {s, "", 0, api.ErrNone}, "spent": {spent, "b", 0, api.ErrSpent}} {
		if d, n, e := doc.Mark(c.s, c.id, c.gone); e != c.want || n != 0 || d.Id != "" {
			t.Errorf("%s: %v, %d, %v", what, d, n, e)
		}
	}
}

func TestPurge(t *testing.T) {
	s, _, _, _, _ := some(t)
	b, e := doc.Purge(s, "a")
	if e != api.OK || !batch.Same(b, api.Batch{Purged: []string{"a"}, Clear: 1}) {
		t.Errorf("%v, %v", b, e)
	}
	after, _ := batch.Apply(s, b)
	if _, e := doc.Get(after, "a", none); e != api.ErrNone {
		t.Errorf("%v", e)
	}
	if b, e := doc.Purge(s, "q"); e != api.ErrNone || !batch.Same(b, api.Batch{}) {
		t.Errorf("%v", e)
	}
	if b, e := doc.Purge(bad(), "a"); e != api.ErrArg || !batch.Same(b, api.Batch{}) {
		t.Errorf("%v", e)
	}
}

func TestGetAndFetch(t *testing.T) {
	s, root, low, high, b := some(t)
	for _, c := range []struct {
		id      string
		r, want api.Rev
	}{{"a", none, high}, {"a", low, low}, {"a", high, high}, {"b", none, b}} {
		d, _ := batch.Find(s, c.id)
		n, e := doc.Get(s, c.id, c.r)
		m, _ := tree.Find(d.Tree, c.want)
		if e != api.OK || n.Rev != c.want || n.Has != 1 || !value.Same(n.Body, m.Body) || n.Parent != m.Parent {
			t.Errorf("%v: %v, %v", c, n, e)
		}
		path, _ := tree.Path(d.Tree, c.want)
		if x, e := doc.Fetch(s, c.id, c.r); e != api.OK || !doc.SameCopy(x, api.Copy{Id: c.id, Path: path, Deleted: m.Deleted, Body: m.Body}) {
			t.Errorf("%v: %v, %v", c, x, e)
		}
	}
	if n, e := doc.Get(s, "a", root); e != api.OK || n.Rev != root || n.Has != 0 {
		t.Errorf("%v, %v", n, e)
	}
	other := child(t, none, 0, list(55))
	for what, c := range map[string]struct {
		s           api.State
		id          string
		r           api.Rev
		want, fetch api.Errno
	}{"a bad state": {bad(), "a", none, api.ErrArg, api.ErrArg}, "a bad rev": {s, "q", api.Rev{Sum: low.Sum}, api.ErrArg, api.ErrArg}, "no document": {s, "q", none, api.ErrNone, api.ErrNone}, "no name": {s, "", none, api.ErrNone, api.ErrNone}, "no revision": {s, "a", other, api.ErrNone, api.ErrNone},
		"of another document": {s, "a", b, api.ErrNone, api.ErrNone}, "no leaf": {s, "a", root, api.OK, api.ErrNone}} {
		if n, e := doc.Get(c.s, c.id, c.r); e != c.want || e != api.OK && n.Rev != none {
			t.Errorf("%s: %v, %v", what, n, e)
		}
		if x, e := doc.Fetch(c.s, c.id, c.r); e != c.fetch || !doc.SameCopy(x, api.Copy{}) {
			t.Errorf("%s: %v, %v", what, x, e)
		}
	}
}

func TestChanges(t *testing.T) {
	s, _, low, high, b := some(t)
	a := api.Change{Id: "a", Seq: 3, Leaves: []api.Rev{high, low}}
	c := api.Change{Id: "b", Seq: 4, Leaves: []api.Rev{b}, Gone: 1}
	for _, x := range []struct {
		since uint64
		most  int
		want  []api.Change
	}{{0, 9, []api.Change{a, c}}, {2, 9, []api.Change{a, c}}, {3, 9, []api.Change{c}}, {4, 9, nil}, {math.MaxUint64, 9, nil}, {0, 1, []api.Change{a}}, {0, 2, []api.Change{a, c}}, {0, 0, nil}, {0, -1, nil}, {0, math.MinInt, nil}, {0, math.MaxInt, []api.Change{a, c}}} {
		if got := doc.Changes(s, x.since, x.most); !slices.EqualFunc(got, x.want, doc.SameChange) {
			t.Errorf("since %d, most %d: %v", x.since, x.most, got)
		}
	}
	s, r := edit(t, s, "0", none, 0, list(1))
	s, _ = edit(t, s, "a", high, 0, list(1))
	if got := doc.Changes(s, 0, 9); len(got) != 3 || got[0].Id != "b" || got[1].Id != "0" || got[1].Leaves[0] != r || got[2].Id != "a" {
		t.Errorf("%v", got)
	}
	s.Locals = []api.Local{{}}
	if got := doc.Changes(s, 0, 9); len(got) != 0 {
		t.Errorf("a bad state: %v", got)
	}
}

func TestMissing(t *testing.T) {
	s, root, low, high, b := some(t)
	x, y := child(t, none, 0, list(50)), child(t, high, 0, list(51))
	l, e := doc.Missing(s, api.Want{Id: "a", Revs: []api.Rev{x, low, y, root, x}}, api.Want{Id: "b", Revs: []api.Rev{b}}, api.Want{Id: "q", Revs: []api.Rev{low}}, api.Want{Id: "a"}, api.Want{Id: "b", Revs: []api.Rev{high}})
	want := []api.Want{{Id: "a", Revs: []api.Rev{x, y, x}}, {Id: "q", Revs: []api.Rev{low}}, {Id: "b", Revs: []api.Rev{high}}}
	if e != api.OK || !slices.EqualFunc(l, want, func(a, b api.Want) bool { return a.Id == b.Id && slices.Equal(a.Revs, b.Revs) }) {
		t.Errorf("%v, %v", l, e)
	}
	if l, e := doc.Missing(s); e != api.OK || len(l) != 0 {
		t.Errorf("%v, %v", l, e)
	}
	if l, e := doc.Missing(s, slices.Repeat([]api.Want{{Id: "q", Revs: []api.Rev{low}}}, 24)...); e != api.OK || len(l) != 24 {
		t.Errorf("%v", e)
	}
	for what, c := range map[string]struct {
		s api.State
		l []api.Want
	}{"a bad state": {bad(), nil}, "25 wants": {s, slices.Repeat([]api.Want{{Id: "a"}}, 25)}, "a bad want": {s, []api.Want{{Id: "a"}, {}}}, "a bad rev": {s, []api.Want{{Id: "a", Revs: []api.Rev{none}}}}} {
		if l, e := doc.Missing(c.s, c.l...); e != api.ErrArg || len(l) != 0 {
			t.Errorf("%s: %v, %v", what, l, e)
		}
	}
}

func TestMayAndSame(t *testing.T) {
	r := api.Rev{Gen: 2}
	for what, c := range map[string]struct {
		w    api.Want
		want bool
	}{"none": {api.Want{Id: "a"}, true}, "32": {api.Want{Id: "a", Revs: slices.Repeat([]api.Rev{r}, 32)}, true}, "33": {api.Want{Id: "a", Revs: slices.Repeat([]api.Rev{r}, 33)}, false}, "no name": {api.Want{Revs: []api.Rev{r}}, false}, "long name": {api.Want{Id: strings.Repeat("a", 25)}, false},
		"zero rev": {api.Want{Id: "a", Revs: []api.Rev{r, none}}, false}, "great rev": {api.Want{Id: "a", Revs: []api.Rev{{Gen: api.MaxCount + 1}}}, false}} {
		if doc.MayWant(c.w) != c.want {
			t.Errorf("%s: %v", what, !c.want)
		}
	}
	for what, c := range map[string]struct {
		c    api.Copy
		want bool
	}{"a copy": {api.Copy{Id: "a", Path: []api.Rev{r, {Gen: 1}}, Deleted: 1, Body: list(1)}, true}, "a single name of gen 2": {api.Copy{Id: "a", Path: []api.Rev{r}}, true}, "no name": {api.Copy{Path: []api.Rev{r}}, false}, "no path": {api.Copy{Id: "a"}, false}, "no chain": {api.Copy{Id: "a", Path: []api.Rev{r, r}}, false},
		"deleted 2": {api.Copy{Id: "a", Path: []api.Rev{r}, Deleted: 2}, false}, "deleted -1": {api.Copy{Id: "a", Path: []api.Rev{r}, Deleted: -1}, false}, "a bad body": {api.Copy{Id: "a", Path: []api.Rev{r}, Body: value.Text("\n")}, false}} {
		if doc.MayCopy(c.c) != c.want {
			t.Errorf("%s: %v", what, !c.want)
		}
	}
	changes := []api.Change{{}, {Id: "a"}, {Seq: 1}, {Leaves: []api.Rev{r}}, {Leaves: []api.Rev{{Gen: 3}}}, {Gone: 1}, {Rev: r}, {Channel: "c"}}
	for i, a := range changes {
		for k, b := range changes {
			if doc.SameChange(a, b) != (i == k) {
				t.Errorf("SameChange of %d, %d", i, k)
			}
		}
	}
	copies := []api.Copy{{}, {Id: "a"}, {Path: []api.Rev{r}}, {Path: []api.Rev{r, r}}, {Deleted: 1}, {Body: list(1)}, {Body: list(2)}}
	for i, a := range copies {
		for k, b := range copies {
			if doc.SameCopy(a, b) != (i == k) {
				t.Errorf("SameCopy of %d, %d", i, k)
			}
		}
	}
	if !doc.SameChange(api.Change{}, api.Change{Leaves: []api.Rev{}}) || !doc.SameCopy(api.Copy{}, api.Copy{Path: []api.Rev{}}) {
		t.Error("nil and empty differ")
	}
}

func TestArgumentsAreKept(t *testing.T) {
	s, root, low, high, _ := some(t)
	old := batch.Own(s)
	body := list(7)
	c := api.Copy{Id: "a", Path: []api.Rev{child(t, low, 0, body), low, root}, Body: body}
	want := api.Want{Id: "a", Revs: []api.Rev{child(t, low, 0, body)}}
	d1, _, _ := doc.Edit(s, "a", high, 0, body)
	d2, _, _ := doc.Force(s, c)
	d3, _, _ := doc.Force(s, api.Copy{Id: "a", Path: []api.Rev{high, root}, Body: func() api.Value { n, _ := doc.Get(s, "a", high); return n.Body }()})
	d4, _, _ := doc.Mark(s, "a", 1)
	d5, _, _ := doc.Mark(s, "b", 0)
	for _, d := range []api.Doc{d1, d2, d3, d4, d5} {
		for i := range d.Channels {
			d.Channels[i], d.Grants[i].User = "", ""
		}
		for i := range d.Tree.Nodes {
			d.Tree.Nodes[i].Deleted = 9
			if d.Tree.Nodes[i].Has == 1 {
				d.Tree.Nodes[i].Body.List[0].Num = 99
			}
		}
	}
	n, _ := doc.Get(s, "a", high)
	n.Body.List[0].Num = 99
	x, _ := doc.Fetch(s, "a", high)
	x.Body.List[0].Num, x.Path[0] = 99, none
	doc.Changes(s, 0, 9)[0].Leaves[0] = none
	l, _ := doc.Missing(s, want)
	l[0].Revs[0] = none
	if !batch.SameState(s, old) || body.List[0].Num != 7 || c.Path[0] == none || want.Revs[0] == none {
		t.Error("an argument is modified, or shared")
	}
}

func TestCopyingAndEachOnce(t *testing.T) {
	r := rand.New(rand.NewSource(1))
	for range 40 {
		var one, two api.State
		for i := range 25 {
			id := string("abcd"[r.Intn(4)])
			parent := none
			if c := doc.Changes(one, 0, 99); len(c) > 0 {
				for _, x := range c {
					if x.Id == id {
						parent = x.Leaves[r.Intn(len(x.Leaves))]
					}
				}
			}
			d, _, e := doc.Edit(one, id, parent, r.Intn(3)/2, list(i))
			if e == api.ErrFull {
				continue
			}
			if e != api.OK {
				t.Fatal(e)
			}
			one = put(t, one, d)
			if r.Intn(3) > 0 {
				continue
			}
			for _, x := range doc.Changes(one, 0, 99) {
				for _, leaf := range x.Leaves {
					c, e := doc.Fetch(one, x.Id, leaf)
					if e != api.OK {
						t.Fatal(e)
					}
					d, n, e := doc.Force(two, c)
					if e != api.OK {
						continue
					}
					if n == 1 {
						two = put(t, two, d)
					}
					if _, n, e := doc.Force(two, c); n != 0 || e != api.OK {
						t.Fatalf("forced again: %d, %v", n, e)
					}
					if l, _ := doc.Missing(two, api.Want{Id: x.Id, Revs: []api.Rev{leaf}}); len(l) != 0 {
						t.Fatal("still missing")
					}
					if y, e := doc.Fetch(two, x.Id, leaf); e == api.OK && (!value.Same(y.Body, c.Body) || y.Deleted != c.Deleted || !slices.Equal(y.Path, c.Path) && len(c.Path) < api.MaxDepth) {
						t.Fatalf("%v is fetched as %v", c, y)
					}
				}
			}
		}
		all := doc.Changes(one, 0, 99)
		if len(all) != len(one.Docs) {
			t.Fatal("not each once")
		}
		for i, c := range all {
			if i > 0 && all[i-1].Seq >= c.Seq || !slices.EqualFunc(doc.Changes(one, c.Seq, 99), all[i+1:], doc.SameChange) {
				t.Fatal("not in order")
			}
		}
	}
}

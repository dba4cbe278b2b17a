package tree_test

import (
	"bytes"
	"math/rand"
	"slices"
	"testing"

	"tidewrack/api"
	"tidewrack/code"
	"tidewrack/rev"
	"tidewrack/tree"
	"tidewrack/value"
)

var none api.Rev

func number(n int) api.Value { return value.Number(int64(n)) }

func name(t *testing.T, parent api.Rev, deleted int, body api.Value) api.Rev {
	t.Helper()
	r, e := rev.Make(parent, deleted, body)
	if e != api.OK {
		t.Fatal(e)
	}
	return r
}

// line makes the names of a path of n revisions, the last one first; the bodies are numbers from start on.
func line(t *testing.T, from api.Rev, start, n int) []api.Rev {
	l := []api.Rev{}
	if from != none {
		l = append(l, from)
	}
	for i := range n {
		from = name(t, from, 0, number(start+i))
		l = append([]api.Rev{from}, l...)
	}
	return l
}

func insert(t *testing.T, x api.Tree, path []api.Rev, deleted int, body api.Value, count int) api.Tree {
	t.Helper()
	y, n, e := tree.Insert(x, path, deleted, body)
	if e != api.OK || n != count || !tree.May(y) {
		t.Fatalf("Insert: %d, %v, not %d", n, e, count)
	}
	return y
}

func refused(t *testing.T, what string, x api.Tree, path []api.Rev, deleted int, body api.Value, want api.Errno) {
	t.Helper()
	if y, n, e := tree.Insert(x, path, deleted, body); e != want || n != 0 || len(y.Nodes) != 0 {
		t.Errorf("%s: %v, %d, %v", what, y, n, e)
	}
}

func revs(l []api.Node) []api.Rev {
	var out []api.Rev
	for _, n := range l {
		out = append(out, n.Rev)
	}
	return out
}

func sorted(l ...api.Rev) []api.Rev {
	l = slices.Clone(l)
	slices.SortFunc(l, rev.Cmp)
	return l
}

// small is a tree of a, of its children b and c (deleted), and of d, a child of b.
func small(t *testing.T) (x api.Tree, a, b, c, d api.Rev) {
	a = name(t, none, 0, number(1))
	b = name(t, a, 0, value.List(number(2)))
	c = name(t, a, 1, number(3))
	d = name(t, b, 0, number(4))
	x = insert(t, x, []api.Rev{b, a}, 0, value.List(number(2)), 2)
	x = insert(t, x, []api.Rev{c, a}, 1, number(3), 1)
	x = insert(t, x, []api.Rev{d, b, a}, 0, number(4), 1)
	return x, a, b, c, d
}

func TestMay(t *testing.T) {
	x, a, b, c, d := small(t)
	if !tree.May(x) || !tree.May(api.Tree{}) || len(x.Nodes) != 4 {
		t.Fatal("not valid")
	}
	at := func(r api.Rev) int { return slices.Index(revs(x.Nodes), r) }
	for what, change := range map[string]func(y *api.Tree){
		"not rising":             func(y *api.Tree) { y.Nodes[1], y.Nodes[2] = y.Nodes[2], y.Nodes[1] },
		"twice":                  func(y *api.Tree) { y.Nodes = append(y.Nodes, y.Nodes[3]) },
		"no generation":          func(y *api.Tree) { y.Nodes[0].Rev.Gen = 0 },
		"zero node":              func(y *api.Tree) { y.Nodes = append([]api.Node{{}}, y.Nodes...) },
		"deleted 2":              func(y *api.Tree) { y.Nodes[at(a)].Deleted = 2 },
		"deleted -1":             func(y *api.Tree) { y.Nodes[at(b)].Deleted = -1 },
		"leaf deleted otherwise": func(y *api.Tree) { y.Nodes[at(c)].Deleted = 0 },
		"leaf without a body":    func(y *api.Tree) { y.Nodes[at(d)].Has, y.Nodes[at(d)].Body = 0, api.Value{} },
		"leaf has 2":             func(y *api.Tree) { y.Nodes[at(d)].Has = 2 },
		"leaf of another body":   func(y *api.Tree) { y.Nodes[at(d)].Body = number(5) },
		"leaf of a bad body":     func(y *api.Tree) { y.Nodes[at(d)].Body = api.Value{Kind: 9} },
		"inner has a body":       func(y *api.Tree) { y.Nodes[at(b)].Has = 1 },
		"inner with a value":     func(y *api.Tree) { y.Nodes[at(b)].Body = value.List(number(2)) },
		"inner, all of a leaf":   func(y *api.Tree) { y.Nodes[at(b)].Has, y.Nodes[at(b)].Body = 1, value.List(number(2)) },
		"parent is no node":      func(y *api.Tree) { y.Nodes[at(b)].Parent.Sum[0]++ },
		"parent of that gen":     func(y *api.Tree) { y.Nodes[at(b)].Parent = c },
		"parent is itself":       func(y *api.Tree) { y.Nodes[at(a)].Parent = a },
		"parent without a gen":   func(y *api.Tree) { y.Nodes[at(a)].Parent = api.Rev{Sum: a.Sum} },
		"leaf without a parent":  func(y *api.Tree) { y.Nodes[at(c)].Parent = none },
		"removed node":           func(y *api.Tree) { y.Nodes = y.Nodes[1:] },
		"leaf that was a parent": func(y *api.Tree) { y.Nodes = slices.Delete(y.Nodes, at(d), at(d)+1) },
	} {
		y := tree.Own(x)
		change(&y)
		if tree.May(y) {
			t.Errorf("%s: valid", what)
		}
		if len(tree.Leaves(y)) != 0 {
			t.Errorf("%s: leaves", what)
		}
		if n, ok := tree.Winner(y); ok || n.Has != 0 {
			t.Errorf("%s: a winner", what)
		}
		if n, ok := tree.Find(y, b); ok || n.Rev != none {
			t.Errorf("%s: Find", what)
		}
		if p, e := tree.Path(y, b); e != api.ErrArg || len(p) != 0 {
			t.Errorf("%s: Path: %v", what, e)
		}
		if l := tree.Missing(y, b, a); !slices.Equal(l, []api.Rev{b, a}) {
			t.Errorf("%s: Missing: %v", what, l)
		}
		if _, e := tree.Merge(y, x); e != api.ErrArg {
			t.Errorf("%s: Merge: %v", what, e)
		}
		if z, e := tree.Merge(x, y); e != api.ErrArg || len(z.Nodes) != 0 {
			t.Errorf("%s: Merge: %v", what, e)
		}
		if z, r, e := tree.Edit(y, none, 0, number(1)); e != api.ErrArg || r != none || len(z.Nodes) != 0 {
			t.Errorf("%s: Edit: %v", what, e)
		}
		if b, e := tree.Encode(y); e != api.ErrArg || len(b) != 0 {
			t.Errorf("%s: Encode: %v", what, e)
		}
		refused(t, what, y, []api.Rev{name(t, none, 0, number(9))}, 0, number(9), api.ErrArg)
	}
	y := tree.Own(x)
	y.Nodes[at(b)].Parent = none // as if it had been cut off
	if !tree.May(y) {
		t.Error("an inner node without a parent is not valid")
	}
	y.Nodes[at(a)].Deleted, y.Nodes[at(b)].Deleted = 1, 1
	if !tree.May(y) {
		t.Error("inner deleted nodes are not valid")
	}
}

func TestMayDepth(t *testing.T) {
	p := line(t, none, 0, 17)
	var x api.Tree
	for i := range p {
		n := api.Node{Rev: p[16-i]}
		if i > 0 {
			n.Parent = p[17-i]
		}
		x.Nodes = append(x.Nodes, n)
	}
	x.Nodes[16].Has, x.Nodes[16].Body = 1, number(16)
	if tree.May(x) {
		t.Error("17 on a path")
	}
	x.Nodes = x.Nodes[1:]
	x.Nodes[0].Parent = none
	if !tree.May(x) {
		t.Error("16 on a path are not valid")
	}
}

func TestMayLimits(t *testing.T) {
	leaf := func(i int) api.Node {
		return api.Node{Rev: name(t, none, 0, number(i)), Has: 1, Body: number(i)}
	}
	made := func(l []api.Node) api.Tree {
		slices.SortFunc(l, func(a, b api.Node) int { return rev.Cmp(a.Rev, b.Rev) })
		return api.Tree{Nodes: l}
	}
	var l []api.Node
	for i := range 9 {
		l = append(l, leaf(i))
	}
	if !tree.May(made(slices.Clone(l[:8]))) || tree.May(made(slices.Clone(l))) {
		t.Error("nine leaves")
	}
	// Two paths of 16, and leaves of one node.
	l = nil
	for _, start := range []int{0, 100} {
		p := line(t, none, start, 16)
		for i, r := range p {
			n := api.Node{Rev: r}
			if i+1 < len(p) {
				n.Parent = p[i+1]
			}
			if i == 0 {
				n.Has, n.Body = 1, number(start+15)
			}
			l = append(l, n)
		}
	}
	if !tree.May(made(slices.Clone(l))) || tree.May(made(append(slices.Clone(l), leaf(500)))) {
		t.Error("33 nodes")
	}
}

func TestSameAndOwn(t *testing.T) {
	x, a, _, _, d := small(t)
	for what, change := range map[string]func(y *api.Tree){
		"rev": func(y *api.Tree) { y.Nodes[0].Rev.Sum[3]++ }, "parent": func(y *api.Tree) { y.Nodes[1].Parent.Gen++ }, "deleted": func(y *api.Tree) { y.Nodes[0].Deleted++ },
		"has": func(y *api.Tree) { y.Nodes[0].Has++ }, "body": func(y *api.Tree) { y.Nodes[0].Body.Num++ }, "more": func(y *api.Tree) { y.Nodes = append(y.Nodes, api.Node{}) },
		"less": func(y *api.Tree) { y.Nodes = y.Nodes[1:] }} {
		y := tree.Own(x)
		if !tree.Same(x, y) {
			t.Fatal("Own differs")
		}
		if change(&y); tree.Same(x, y) || tree.Same(y, x) {
			t.Errorf("%s: the same", what)
		}
	}
	if !tree.Same(api.Tree{}, api.Tree{Nodes: []api.Node{}}) {
		t.Error("nil and empty differ")
	}
	y, _, _ := tree.Insert(api.Tree{}, []api.Rev{name(t, a, 0, value.List(number(2))), a}, 0, value.List(number(2)))
	z := tree.Own(y)
	z.Nodes[1].Body.List[0].Num = 9
	z.Nodes[0].Rev = d
	if y.Nodes[1].Body.List[0].Num != 2 || y.Nodes[0].Rev != a {
		t.Error("Own shares")
	}
}

func TestInsert(t *testing.T) {
	x, a, b, c, d := small(t)
	if !slices.Equal(revs(x.Nodes), sorted(a, b, c, d)) {
		t.Errorf("%v", revs(x.Nodes))
	}
	for _, r := range []struct {
		r, parent    api.Rev
		deleted, has int
		body         api.Value
	}{{a, none, 0, 0, api.Value{}}, {b, a, 0, 0, api.Value{}}, {c, a, 1, 1, number(3)}, {d, b, 0, 1, number(4)}} {
		n, ok := tree.Find(x, r.r)
		if !ok || n.Rev != r.r || n.Parent != r.parent || n.Deleted != r.deleted || n.Has != r.has || !value.Same(n.Body, r.body) {
			t.Errorf("%v: %v", r, n)
		}
	}
	for _, again := range []struct {
		path    []api.Rev
		deleted int
		body    api.Value
	}{{[]api.Rev{a}, 0, number(1)}, {[]api.Rev{b, a}, 0, value.List(number(2))}, {[]api.Rev{c, a}, 1, number(3)}, {[]api.Rev{d, b}, 0, number(4)}, {[]api.Rev{d, b, a}, 0, number(4)}} {
		if y := insert(t, x, again.path, again.deleted, again.body, 0); !tree.Same(x, y) {
			t.Errorf("%v inserted again changes", again)
		}
	}
	other := name(t, none, 0, number(8))
	refused(t, "no path", x, nil, 0, number(1), api.ErrArg)
	refused(t, "no chain", x, []api.Rev{d, a}, 0, number(4), api.ErrArg)
	refused(t, "a single name of gen 2", x, []api.Rev{b}, 0, value.List(number(2)), api.ErrArg)
	refused(t, "another body", x, []api.Rev{d, b, a}, 0, number(5), api.ErrArg)
	refused(t, "deleted otherwise", x, []api.Rev{d, b, a}, 1, number(4), api.ErrArg)
	refused(t, "deleted 2", x, []api.Rev{d, b, a}, 2, number(4), api.ErrArg)
	refused(t, "a bad body", x, []api.Rev{d, b, a}, 0, value.Text("\n"), api.ErrArg)
	refused(t, "another parent", api.Tree{}, []api.Rev{d, c, a}, 0, number(4), api.ErrArg)
	refused(t, "a node of another parent", x, []api.Rev{d, b, other}, 0, number(4), api.ErrArg)
	wrong := name(t, b, 0, number(6))
	refused(t, "a new name on another path", x, []api.Rev{wrong, b, other}, 0, number(6), api.ErrArg)
	refused(t, "too long a path", api.Tree{}, line(t, none, 0, 17), 0, number(16), api.ErrArg)
}

func TestInsertDeep(t *testing.T) {
	p := line(t, none, 0, 20)
	x := insert(t, api.Tree{}, p[4:], 0, number(15), 16)
	if len(x.Nodes) != 16 || x.Nodes[0].Parent != none || x.Nodes[0].Rev != p[19] {
		t.Fatalf("%d", len(x.Nodes))
	}
	x = insert(t, x, p[3:5], 0, number(16), 1)
	if n, _ := tree.Find(x, p[18]); len(x.Nodes) != 16 || n.Parent != none || len(tree.Missing(x, p[19])) != 1 {
		t.Errorf("the deepest node stays: %v", x.Nodes[0])
	}
	// A path that goes on below what there is gives a parent to the deepest node, which is cut off again.
	y := insert(t, api.Tree{}, p[2:5], 0, number(17), 3)
	y = insert(t, y, p[2:10], 0, number(17), 5)
	if n, _ := tree.Find(y, p[4]); len(y.Nodes) != 8 || n.Parent != p[5] {
		t.Errorf("%v", n)
	}
	z := insert(t, x, p[3:19], 0, number(16), 0)
	if !tree.Same(x, z) {
		t.Error("a path that is there changes")
	}
	z = insert(t, x, append(slices.Clone(p[2:4]), p[4:18]...), 0, number(17), 1)
	if len(z.Nodes) != 16 || len(tree.Missing(z, p[17])) != 0 || len(tree.Missing(z, p[18])) != 1 {
		t.Errorf("%d nodes", len(z.Nodes))
	}
	// A new leaf that meets the deepest node: names below it are removed at once.
	side := name(t, p[18], 0, number(99))
	w := insert(t, x, []api.Rev{side, p[18], p[19]}, 0, number(99), 2)
	if n, _ := tree.Find(w, p[18]); len(w.Nodes) != 18 || n.Parent != p[19] {
		t.Errorf("%d, %v", len(w.Nodes), n)
	}
	if q, e := tree.Path(w, p[3]); e != api.OK || len(q) != 16 || q[15] != p[18] {
		t.Errorf("%d, %v", len(q), e)
	}
	// Deeper than MaxDepth, nothing of a path that only adds what is cut off again stays.
	v := insert(t, x, append(slices.Clone(p[4:19]), p[19]), 0, number(15), 0)
	if !tree.Same(v, x) {
		t.Error("names that are too deep stay")
	}
}

func TestInsertFull(t *testing.T) {
	var x api.Tree
	for i := range 8 {
		x = insert(t, x, []api.Rev{name(t, none, 0, number(i))}, 0, number(i), 1)
	}
	ninth := name(t, none, 0, number(8))
	refused(t, "nine leaves", x, []api.Rev{ninth}, 0, number(8), api.ErrFull)
	first := name(t, none, 0, number(0))
	child := name(t, first, 0, number(50))
	insert(t, x, []api.Rev{child, first}, 0, number(50), 1)
	var y api.Tree
	y = insert(t, y, line(t, none, 0, 16), 0, number(15), 16)
	y = insert(t, y, line(t, none, 100, 15), 0, number(114), 15)
	one := name(t, none, 0, number(1000))
	full := insert(t, y, []api.Rev{one}, 0, number(1000), 1)
	if len(full.Nodes) != 32 {
		t.Fatalf("%d", len(full.Nodes))
	}
	two := name(t, none, 0, number(1001))
	refused(t, "33 nodes", full, []api.Rev{two}, 0, number(1001), api.ErrFull)
	// A node is added, another one removed: there is room.
	top := line(t, none, 0, 17)
	if z := insert(t, full, top[:2], 0, number(16), 1); len(z.Nodes) != 32 {
		t.Errorf("%d", len(z.Nodes))
	}
	if _, r, e := tree.Edit(full, one, 0, number(1)); e != api.ErrFull || r != none {
		t.Errorf("Edit: %v, %v", r, e)
	}
}

func TestEdit(t *testing.T) {
	x, r, e := tree.Edit(api.Tree{}, none, 0, number(1))
	if want := name(t, none, 0, number(1)); e != api.OK || r != want || len(x.Nodes) != 1 {
		t.Fatalf("%v, %v", r, e)
	}
	fails := func(what string, x api.Tree, parent api.Rev, deleted int, body api.Value, want api.Errno) {
		t.Helper()
		if y, r, e := tree.Edit(x, parent, deleted, body); e != want || r != none || len(y.Nodes) != 0 {
			t.Errorf("%s: %v, %v", what, r, e)
		}
	}
	fails("there is a winner", x, none, 0, number(2), api.ErrConflict)
	fails("deleted 2", x, none, 2, number(2), api.ErrArg)
	fails("deleted -1", x, r, -1, number(2), api.ErrArg)
	fails("a bad body", x, r, 0, api.Value{Kind: 7}, api.ErrArg)
	fails("a parent without a generation", x, api.Rev{Sum: r.Sum}, 0, number(2), api.ErrArg)
	fails("a parent of too great a generation", x, api.Rev{Gen: api.MaxCount + 1}, 0, number(2), api.ErrArg)
	fails("an unknown parent", x, api.Rev{Gen: 1}, 0, number(2), api.ErrConflict)
	fails("an unknown parent at the end", api.Tree{}, api.Rev{Gen: api.MaxCount}, 0, number(2), api.ErrConflict)
	y, r2, e := tree.Edit(x, r, 1, api.Value{})
	if e != api.OK || r2 != name(t, r, 1, api.Value{}) || len(y.Nodes) != 2 {
		t.Fatalf("%v, %v", r2, e)
	}
	fails("not a leaf", y, r, 0, number(2), api.ErrConflict)
	z, r3, e := tree.Edit(y, none, 0, number(3))
	if e != api.OK || r3 != name(t, r2, 0, number(3)) || r3.Gen != 3 {
		t.Fatalf("upon what is deleted: %v, %v", r3, e)
	}
	if n, _ := tree.Find(z, r3); n.Parent != r2 {
		t.Errorf("%v", n)
	}
	both := insert(t, z, []api.Rev{name(t, r, 0, number(7)), r}, 0, number(7), 1)
	if _, r4, e := tree.Edit(both, name(t, r, 0, number(7)), 0, number(8)); e != api.OK || r4.Gen != 3 {
		t.Errorf("upon a leaf that does not win: %v, %v", r4, e)
	}
	fails("a bad body, and a conflict", x, none, 0, api.Value{Kind: 7}, api.ErrArg)
	fails("a bad body, and a parent that is no leaf", y, r, 0, api.Value{Kind: 7}, api.ErrArg)
	// Of two leaves, the greater one deleted, the other one wins.
	fails("the winner is not deleted", insert(t, y, []api.Rev{name(t, none, 0, number(6))}, 0, number(6), 1), none, 0, number(2), api.ErrConflict)
}

func TestEditAgain(t *testing.T) {
	// The name that an edit would make is a node already: a child of the same body that has grown since.
	a := name(t, none, 0, number(1))
	b := name(t, a, 1, number(2))
	x := insert(t, api.Tree{}, []api.Rev{b, a}, 1, number(2), 2)
	y, _, e := tree.Edit(x, b, 1, number(3))
	if e != api.OK {
		t.Fatal(e)
	}
	z, c, e := tree.Edit(y, none, 0, number(4))
	if e != api.OK || c.Gen != 4 || len(z.Nodes) != 4 {
		t.Fatalf("%v, %v", c, e)
	}
	// The root that was cut off comes again as a leaf: its child is a node already.
	deep := line(t, none, 0, 17)
	cut := insert(t, api.Tree{}, deep[:16], 0, number(16), 16)
	cut = insert(t, cut, deep[16:], 0, number(0), 1)
	if v, r, e := tree.Edit(cut, deep[16], 0, number(1)); e != api.ErrConflict || r != none || len(v.Nodes) != 0 {
		t.Errorf("%v, %v", r, e)
	}
	if _, r, e := tree.Edit(cut, deep[16], 0, number(2)); e != api.OK || r.Gen != 2 {
		t.Errorf("%v, %v", r, e)
	}
	p := line(t, none, 0, 16)
	w := insert(t, api.Tree{}, p, 0, number(15), 16)
	spent := api.Node{Rev: api.Rev{Gen: api.MaxCount}}
	if _, _, e := tree.Edit(api.Tree{Nodes: []api.Node{spent}}, spent.Rev, 0, number(1)); e != api.ErrArg {
		t.Errorf("%v", e)
	}
	if _, r, e := tree.Edit(w, p[0], 0, number(16)); e != api.OK || r.Gen != 17 {
		t.Errorf("%v, %v", r, e)
	}
}

// TestSpent: the names of parents can be chosen, so a leaf can be of the greatest generation.
func TestSpent(t *testing.T) {
	parent := api.Rev{Gen: api.MaxCount - 1, Sum: [16]byte{1}}
	last := name(t, parent, 0, number(1))
	x := insert(t, api.Tree{}, []api.Rev{last, parent}, 0, number(1), 2)
	if y, r, e := tree.Edit(x, last, 0, number(2)); e != api.ErrSpent || r != none || len(y.Nodes) != 0 {
		t.Errorf("%v, %v", r, e)
	}
	gone := name(t, parent, 1, number(1))
	x = insert(t, api.Tree{}, []api.Rev{gone, parent}, 1, number(1), 2)
	if _, r, e := tree.Edit(x, none, 0, number(2)); e != api.ErrSpent || r != none {
		t.Errorf("%v, %v", r, e)
	}
}

func TestLeaves(t *testing.T) {
	var l []api.Rev
	var x api.Tree
	for i := range 4 {
		r := name(t, none, 0, number(i))
		l = append(l, r)
		x = insert(t, x, []api.Rev{r}, 0, number(i), 1)
	}
	want := sorted(l...)
	slices.Reverse(want)
	if got := tree.Leaves(x); !slices.Equal(revs(got), want) || got[0].Has != 1 || got[0].Body.Kind != api.Number {
		t.Errorf("%v", got)
	}
	n, ok := tree.Winner(x)
	if !ok || n.Rev != want[0] {
		t.Errorf("%v", n)
	}
	// A deleted leaf comes behind all others, however great; a longer one ahead.
	gone := name(t, want[3], 1, number(9))
	y := insert(t, x, []api.Rev{gone, want[3]}, 1, number(9), 1)
	if got := revs(tree.Leaves(y)); !slices.Equal(got, []api.Rev{want[0], want[1], want[2], gone}) {
		t.Errorf("%v", got)
	}
	long := name(t, want[2], 0, number(9))
	y = insert(t, y, []api.Rev{long, want[2]}, 0, number(9), 1)
	if got := revs(tree.Leaves(y)); !slices.Equal(got, []api.Rev{long, want[0], want[1], gone}) {
		t.Errorf("%v", got)
	}
	for _, r := range []api.Rev{want[0], want[1], long} {
		d := name(t, r, 1, api.Value{})
		y = insert(t, y, []api.Rev{d, r}, 1, api.Value{}, 1)
	}
	if n, ok := tree.Winner(y); !ok || n.Deleted != 1 || n.Rev.Gen != 3 {
		t.Errorf("all deleted: %v", n)
	}
	if n, ok := tree.Winner(api.Tree{}); ok || n.Rev != none {
		t.Error("the empty tree has a winner")
	}
}

func TestFindPathMissing(t *testing.T) {
	x, a, b, c, d := small(t)
	for _, p := range [][]api.Rev{{d, b, a}, {c, a}, {b, a}, {a}} {
		if got, e := tree.Path(x, p[0]); e != api.OK || !slices.Equal(got, p) {
			t.Errorf("%v, %v", got, e)
		}
	}
	other := name(t, none, 0, number(77))
	for _, r := range []api.Rev{other, none} {
		if p, e := tree.Path(x, r); e != api.ErrNone || len(p) != 0 {
			t.Errorf("%v: %v", r, e)
		}
		if n, ok := tree.Find(x, r); ok || n.Rev != none {
			t.Errorf("%v is found", r)
		}
	}
	if l := tree.Missing(x, d, other, a, none, other); !slices.Equal(l, []api.Rev{other, none, other}) {
		t.Errorf("%v", l)
	}
	if l := tree.Missing(x); len(l) != 0 {
		t.Errorf("%v", l)
	}
	l := []api.Rev{other}
	m := tree.Missing(api.Tree{}, l...)
	m[0] = none
	if l[0] != other {
		t.Error("Missing shares")
	}
	m = tree.Missing(api.Tree{Nodes: []api.Node{{}}}, l...)
	m[0] = none
	if l[0] != other {
		t.Error("Missing of a bad tree shares")
	}
}

func TestEncode(t *testing.T) {
	if b, e := tree.Encode(api.Tree{}); e != api.OK || !bytes.Equal(b, []byte{0}) {
		t.Errorf("%v, %v", b, e)
	}
	x, a, b, c, d := small(t)
	w := code.NewWriter()
	w.Uint(4)
	for _, r := range sorted(a, b, c, d) {
		w.Uint(r.Gen)
		w.Raw(r.Sum[:])
		switch r {
		case a:
			w.U8(0)
		case b:
			w.U8(1)
			w.Raw(a.Sum[:])
		case c:
			w.U8(7)
			w.Raw(a.Sum[:])
			w.Text("3")
		case d:
			w.U8(5)
			w.Raw(b.Sum[:])
			w.Text("4")
		}
	}
	got, e := tree.Encode(x)
	if e != api.OK || !bytes.Equal(got, w.Bytes()) {
		t.Fatalf("%x, not %x", got, w.Bytes())
	}
	y, e := tree.Decode(got)
	if e != api.OK || !tree.Same(x, y) {
		t.Fatalf("%v, %v", y, e)
	}
	for i := range got {
		if y, e := tree.Decode(got[:i]); e != api.ErrForm || len(y.Nodes) != 0 {
			t.Errorf("cut at %d: %v", i, e)
		}
		for _, bit := range []byte{1, 2, 4, 8, 128} {
			z := bytes.Clone(got)
			z[i] ^= bit
			if y, e := tree.Decode(z); e == api.OK {
				if again, _ := tree.Encode(y); !bytes.Equal(again, z) {
					t.Errorf("%d of %d: not the encoding of what is decoded", bit, i)
				}
			} else if len(y.Nodes) != 0 {
				t.Errorf("%v with %v", y, e)
			}
		}
	}
	for what, z := range map[string][]byte{"none": nil, "more": append(bytes.Clone(got), 0), "33": {33}, "huge": {255, 255, 255, 255, 255, 255, 255, 255, 255}} {
		if _, e := tree.Decode(z); e != api.ErrForm {
			t.Errorf("%s: %v", what, e)
		}
	}
	one := name(t, none, 0, number(5))
	v := code.NewWriter()
	v.Put(1, 1)
	v.Raw(one.Sum[:])
	v.U8(5)
	v.Raw(make([]byte, 16))
	v.Text("5")
	if _, e := tree.Decode(v.Bytes()); e != api.ErrForm {
		t.Errorf("a parent that is the zero name: %v", e)
	}
}

func TestArgumentsAreKept(t *testing.T) {
	x, a, b, _, d := small(t)
	old := tree.Own(x)
	body := value.List(number(5))
	r := name(t, d, 0, body)
	path := []api.Rev{r, d, b, a}
	roomy := api.Tree{Nodes: append(make([]api.Node, 0, 20), x.Nodes...)}
	y, _, _ := tree.Insert(roomy, path, 0, body)
	z, _, _ := tree.Edit(roomy, d, 0, body)
	m, _ := tree.Merge(roomy, y)
	for _, y := range []api.Tree{y, z, m} {
		n, _ := tree.Find(y, r)
		n.Body.List[0].Num = 99
		p, _ := tree.Path(y, r)
		p[0] = none
		l := tree.Leaves(y)
		for i := range l {
			if l[i].Body.Kind == api.List {
				l[i].Body.List[0].Num = 98
			}
		}
		w, _ := tree.Winner(y)
		w.Body.List[0].Num = 97
		if !tree.May(y) {
			t.Fatal("a result shares with the tree")
		}
		for i := range y.Nodes {
			y.Nodes[i].Deleted = 9
			if y.Nodes[i].Body.Kind == api.List {
				y.Nodes[i].Body.List[0].Num = 99
			}
		}
	}
	if !tree.Same(x, old) || !tree.Same(roomy, old) || body.List[0].Num != 5 || path[0] != r || roomy.Nodes[:20][4].Rev != none {
		t.Error("an argument is modified, or shared")
	}
}

// copied is a revision as Insert takes it.
type copied struct {
	path    []api.Rev
	deleted int
	body    api.Value
}

// random makes a tree of random revisions, and lists them.
func random(t *testing.T, r *rand.Rand, deep int) (api.Tree, []copied) {
	var x api.Tree
	var l []copied
	for i := range 3 + r.Intn(14) {
		var path []api.Rev
		if len(l) > 0 && r.Intn(5) > 0 {
			path = l[r.Intn(len(l))].path
		}
		parent := none
		if len(path) > 0 {
			parent = path[0]
		}
		c := copied{deleted: r.Intn(4) / 3, body: number(i)}
		c.path = append([]api.Rev{name(t, parent, c.deleted, c.body)}, path...)
		if len(c.path) > deep {
			continue
		}
		y, _, e := tree.Insert(x, c.path, c.deleted, c.body)
		if e == api.ErrFull {
			continue
		}
		if e != api.OK || !tree.May(y) {
			t.Fatalf("%v", e)
		}
		if again, n, e := tree.Insert(y, c.path, c.deleted, c.body); e != api.OK || n != 0 || !tree.Same(again, y) {
			t.Fatalf("inserted again: %d, %v", n, e)
		}
		x = y
		l = append(l, c)
	}
	return x, l
}

func TestConsistentGrowth(t *testing.T) {
	r := rand.New(rand.NewSource(1))
	for range 150 {
		x, l := random(t, r, 16)
		r.Shuffle(len(l), func(i, k int) { l[i], l[k] = l[k], l[i] })
		var y api.Tree
		for i, c := range l {
			// What comes ahead of its ancestors tells of them, though not whether they are deleted.
			z, _, e := tree.Insert(y, c.path, c.deleted, c.body)
			if e == api.ErrFull {
				y = api.Tree{}
				break
			}
			if e != api.OK || !tree.May(z) {
				t.Fatalf("%d: %v", i, e)
			}
			y = z
		}
		if len(y.Nodes) > 0 && (!slices.Equal(revs(y.Nodes), revs(x.Nodes)) || !slices.Equal(revs(tree.Leaves(x)), revs(tree.Leaves(y)))) {
			t.Fatalf("another order makes another tree")
		}
		for i := range y.Nodes {
			if y.Nodes[i].Parent != x.Nodes[i].Parent || y.Nodes[i].Has != x.Nodes[i].Has || !value.Same(y.Nodes[i].Body, x.Nodes[i].Body) {
				t.Fatalf("another order makes another node")
			}
		}
		b, e := tree.Encode(x)
		z, f := tree.Decode(b)
		if e != api.OK || f != api.OK || !tree.Same(x, z) {
			t.Fatalf("round trip: %v, %v", e, f)
		}
	}
}

func TestMerge(t *testing.T) {
	r := rand.New(rand.NewSource(2))
	fulls := 0
	for range 150 {
		x, _ := random(t, r, 4)
		y, _ := random(t, r, 4)
		m, e := tree.Merge(x, y)
		w, f := tree.Merge(y, x)
		if e == api.ErrFull || f == api.ErrFull {
			fulls++
			if e == api.ErrFull && len(m.Nodes) != 0 {
				t.Fatal("a tree with an error")
			}
			continue
		}
		if e != api.OK || f != api.OK || !tree.May(m) || !slices.Equal(revs(m.Nodes), revs(w.Nodes)) {
			t.Fatalf("%v, %v", e, f)
		}
		all := sorted(append(revs(x.Nodes), revs(y.Nodes)...)...)
		if !slices.Equal(revs(m.Nodes), slices.Compact(all)) {
			t.Fatal("Merge loses, or invents")
		}
		if again, e := tree.Merge(m, y); e != api.OK || !tree.Same(again, m) {
			t.Fatalf("merged again: %v", e)
		}
	}
	if fulls == 150 {
		t.Fatal("nothing was merged")
	}
	x, _, _, _, _ := small(t)
	if m, e := tree.Merge(api.Tree{}, x); e != api.OK || !slices.Equal(revs(m.Nodes), revs(x.Nodes)) {
		t.Errorf("%v", e)
	}
	m, e := tree.Merge(x, api.Tree{})
	if e != api.OK || !tree.Same(m, x) {
		t.Errorf("%v", e)
	}
	m.Nodes[0].Deleted = 1
	if x.Nodes[0].Deleted != 0 {
		t.Error("Merge shares")
	}
	if m, e := tree.Merge(api.Tree{Nodes: []api.Node{{}}}, api.Tree{}); e != api.ErrArg || len(m.Nodes) != 0 {
		t.Errorf("a bad tree, and nothing: %v", e)
	}
}

func TestAnotherLeaf(t *testing.T) {
	r := rand.New(rand.NewSource(3))
	for range 200 {
		x, l := random(t, r, 12)
		n, _ := tree.Winner(x)
		c := l[r.Intn(len(l))]
		deleted := r.Intn(2)
		fresh := name(t, c.path[0], deleted, number(500))
		y, _, e := tree.Insert(x, append([]api.Rev{fresh}, c.path...), deleted, number(500))
		if e != api.OK || c.path[0] == n.Rev {
			continue
		}
		want := n.Rev
		if deleted < n.Deleted || deleted == n.Deleted && rev.Cmp(fresh, n.Rev) > 0 {
			want = fresh
		}
		if w, _ := tree.Winner(y); w.Rev != want {
			t.Fatalf("%v wins, not %v", w.Rev, want)
		}
	}
}

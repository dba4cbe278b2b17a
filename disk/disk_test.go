package disk_test

import (
	"fmt"
	"math"
	"math/rand"
	"slices"
	"strings"
	"testing"

	"tidewrack/api"
	"tidewrack/disk"
)

func made(t *testing.T, capacity int) *disk.Disk {
	t.Helper()
	d, e := disk.New(capacity)
	if e != api.OK || d == nil {
		t.Fatalf("New(%d): %v", capacity, e)
	}
	return d
}

func want(t *testing.T, what string, got, want api.Errno) {
	t.Helper()
	if got != want {
		t.Errorf("%s: %v, not %v", what, got, want)
	}
}

// look is what the disk has, as a text.
func look(d *disk.Disk) string {
	s := ""
	for _, name := range d.Names() {
		b, e := d.Read(name)
		if e != api.OK || d.Size(name) != len(b) {
			return "Read does not agree with Names, or Size"
		}
		s += name + "=" + string(b) + ";"
	}
	return s
}

func TestNew(t *testing.T) {
	for _, n := range []int{-1, 65537, math.MinInt, math.MaxInt} {
		if d, e := disk.New(n); d != nil || e != api.ErrArg {
			t.Errorf("%d: %v", n, e)
		}
	}
	for _, n := range []int{0, 1, 65536} {
		d := made(t, n)
		if d.Capacity() != n || d.Down() || len(d.Names()) != 0 || d.Bytes() != 0 || d.Waits() != 0 {
			t.Errorf("%d: not empty", n)
		}
	}
}

func TestExamples(t *testing.T) {
	d := made(t, 10)
	want(t, "Append", d.Append("a", []byte("xy")), api.OK)
	want(t, "Append", d.Append("a", []byte("z")), api.OK)
	want(t, "Sync", d.Sync(), api.OK)
	want(t, "Append", d.Append("a", []byte("uvw")), api.OK)
	if d.Waits() != 1 {
		t.Errorf("Waits: %d", d.Waits())
	}
	want(t, "Crash", d.Crash(0, 2), api.OK)
	_, e := d.Read("a")
	want(t, "Read", e, api.ErrDown)
	want(t, "Start", d.Start(), api.OK)
	if s := look(d); s != "a=xyzuv;" || d.Bytes() != 5 {
		t.Errorf("%s", s)
	}
	want(t, "Put", d.Put("b", []byte("123456")), api.ErrFull)
	want(t, "Put", d.Put("a", nil), api.OK)
	want(t, "Put", d.Put("b", []byte("123456")), api.OK)
	want(t, "Rename", d.Rename("b", "a"), api.OK)
	if s := look(d); s != "a=123456;" {
		t.Errorf("%s", s)
	}
	want(t, "Fuse", d.Fuse(2, 1, 0), api.OK)
	want(t, "Append", d.Append("c", []byte("p")), api.OK)
	want(t, "Append", d.Append("c", []byte("q")), api.ErrDown)
	want(t, "Start", d.Start(), api.OK)
	_, e = d.Read("c")
	want(t, "Read", e, api.ErrNone)
}

func TestErrors(t *testing.T) {
	d := made(t, 4)
	d.Put("a", []byte("xyz"))
	for _, name := range []string{"", "A", "a b", "a_", "é", "a/b", "-", strings.Repeat("a", 17), "a\x00", "a\n"} {
		want(t, "Append "+name, d.Append(name, nil), api.ErrArg)
		want(t, "Put "+name, d.Put(name, make([]byte, 9)), api.ErrArg)
		want(t, "Rename from "+name, d.Rename(name, "q"), api.ErrArg)
		want(t, "Rename to "+name, d.Rename("q", name), api.ErrArg)
		want(t, "Remove "+name, d.Remove(name), api.ErrArg)
		b, e := d.Read(name)
		if want(t, "Read "+name, e, api.ErrArg); len(b) != 0 || d.Size(name) != 0 {
			t.Errorf("%q is there", name)
		}
	}
	for _, name := range []string{strings.Repeat("z", 16), ".", "..", "09az."} {
		want(t, "Put "+name, d.Put(name, nil), api.OK)
		want(t, "Remove "+name, d.Remove(name), api.OK)
	}
	before := look(d)
	waits := d.Waits()
	want(t, "Rename", d.Rename("b", "a"), api.ErrNone)
	want(t, "Rename to itself", d.Rename("b", "b"), api.ErrNone)
	want(t, "Remove", d.Remove("b"), api.ErrNone)
	_, e := d.Read("b")
	want(t, "Read", e, api.ErrNone)
	want(t, "Append", d.Append("a", []byte("12")), api.ErrFull)
	want(t, "Append", d.Append("b", []byte("12")), api.ErrFull)
	want(t, "Put", d.Put("a", []byte("12345")), api.ErrFull)
	want(t, "Put", d.Put("b", []byte("12")), api.ErrFull)
	want(t, "Start", d.Start(), api.ErrState)
	want(t, "Fuse", d.Fuse(-1, 0, 0), api.ErrArg)
	if look(d) != before || d.Waits() != waits || d.Size("b") != 0 {
		t.Errorf("errors change: %s", look(d))
	}
	want(t, "Append", d.Append("b", []byte("1")), api.OK)
	want(t, "Put", d.Put("a", []byte("123")), api.OK)
	want(t, "Append of nothing", d.Append("c", nil), api.OK)
	if d.Bytes() != 4 || look(d) != "a=123;b=1;c=;" {
		t.Errorf("%s", look(d))
	}
}

func TestDown(t *testing.T) {
	d := made(t, 100)
	d.Put("a", []byte("x"))
	d.Sync()
	d.Put("b", []byte("y"))
	want(t, "Crash", d.Crash(9, 0), api.OK)
	var zero disk.Disk
	var none *disk.Disk
	for name, d := range map[string]*disk.Disk{"down": d, "zero": &zero, "nil": none} {
		want(t, name+" Append", d.Append("", nil), api.ErrDown)
		want(t, name+" Put", d.Put("a", nil), api.ErrDown)
		want(t, name+" Rename", d.Rename("a", "b"), api.ErrDown)
		want(t, name+" Remove", d.Remove("a"), api.ErrDown)
		want(t, name+" Sync", d.Sync(), api.ErrDown)
		_, e := d.Read("")
		want(t, name+" Read", e, api.ErrDown)
		want(t, name+" Crash", d.Crash(0, 0), api.ErrDown)
		want(t, name+" Fuse", d.Fuse(-1, 0, 0), api.ErrDown)
		if d.Size("a") != 0 || len(d.Names()) != 0 || d.Bytes() != 0 || d.Waits() != 0 || !d.Down() {
			t.Errorf("%s: has files", name)
		}
	}
	want(t, "zero Start", zero.Start(), api.ErrArg)
	want(t, "nil Start", none.Start(), api.ErrArg)
	if !zero.Down() || zero.Copy() != nil || none.Copy() != nil || zero.Capacity() != 0 || none.Capacity() != 0 || d.Capacity() != 100 {
		t.Error("a disk that New did not make")
	}
	want(t, "Start", d.Start(), api.OK)
	if look(d) != "a=x;b=y;" || d.Waits() != 0 {
		t.Errorf("%s, %d", look(d), d.Waits())
	}
}

func TestCrash(t *testing.T) {
	for _, c := range []struct{ keep, torn int }{{-5, 0}, {0, 0}, {0, -3}, {0, 1}, {0, 2}, {0, 99}, {1, 0}, {1, 5},
		{2, 0}, {2, 1}, {2, 9}, {3, 9}, {4, 9}, {5, 1}, {6, 0}, {6, 1}, {6, 2}, {7, 1}, {8, 0}, {99, 99}} {
		d := made(t, 100)
		d.Put("a", []byte("12"))
		d.Sync()
		d.Append("a", []byte("34"))
		d.Append("a", nil)
		d.Append("c", []byte("p"))
		d.Rename("a", "c")
		d.Append("b", nil)
		d.Remove("b")
		d.Append("b", []byte("uv"))
		d.Remove("b")
		if d.Waits() != 8 {
			t.Fatalf("Waits: %d", d.Waits())
		}
		// The versions are those of the eight calls above: keep is counted over them.
		wants := []string{"a=12;", "a=1234;", "a=1234;", "a=1234;c=p;", "c=1234;", "b=;c=1234;", "c=1234;", "b=uv;c=1234;", "c=1234;"}
		k := min(max(c.keep, 0), 8)
		s := wants[k]
		switch {
		case k == 0 && c.torn == 1:
			s = "a=123;"
		case k == 0 && c.torn > 1:
			s = "a=1234;"
		case k == 2 && c.torn > 0:
			s = "a=1234;c=p;"
		case k == 6 && c.torn == 1:
			s = "b=u;c=1234;"
		case k == 6 && c.torn > 1:
			s = "b=uv;c=1234;"
		}
		d.Fuse(5, 0, 0)
		want(t, "Crash", d.Crash(c.keep, c.torn), api.OK)
		d.Start()
		if look(d) != s || d.Waits() != 0 {
			t.Errorf("%d, %d: %s, not %s", c.keep, c.torn, look(d), s)
		}
		for range 9 {
			want(t, "after the fuse is gone", d.Append("z", nil), api.OK)
		}
		d.Crash(0, 0)
		d.Start()
		if look(d) != s {
			t.Errorf("what a crash leaves is not durable: %s", look(d))
		}
	}
}

func TestFuse(t *testing.T) {
	calls := []struct {
		name  string
		call  func(d *disk.Disk) api.Errno
		keep1 string
	}{
		{"Append", func(d *disk.Disk) api.Errno { return d.Append("a", []byte("yz")) }, "a=xyz;"},
		{"Put", func(d *disk.Disk) api.Errno { return d.Put("a", []byte("yz")) }, "a=yz;"},
		{"Rename", func(d *disk.Disk) api.Errno { return d.Rename("a", "b") }, "b=x;"},
		{"Rename to itself", func(d *disk.Disk) api.Errno { return d.Rename("a", "a") }, "a=x;"},
		{"Remove", func(d *disk.Disk) api.Errno { return d.Remove("a") }, ""},
		{"Sync", func(d *disk.Disk) api.Errno { return d.Sync() }, "a=x;"},
	}
	for _, c := range calls {
		for keep := range 2 {
			d := made(t, 9)
			d.Put("a", []byte("x"))
			d.Sync()
			d.Fuse(3, 0, 0)
			want(t, "Fuse", d.Fuse(1, keep, 0), api.OK)
			want(t, "refused", d.Remove("q"), api.ErrNone)
			want(t, "refused", d.Put("q", make([]byte, 99)), api.ErrFull)
			want(t, c.name, c.call(d), api.ErrDown)
			if !d.Down() {
				t.Errorf("%s: up", c.name)
			}
			d.Start()
			s := "a=x;"
			if keep == 1 {
				s = c.keep1
			}
			if look(d) != s {
				t.Errorf("%s keeping %d: %s", c.name, keep, look(d))
			}
		}
	}
	d := made(t, 9)
	d.Append("a", []byte("x"))
	d.Fuse(1, 0, 0)
	want(t, "Sync", d.Sync(), api.ErrDown)
	d.Start()
	if look(d) != "" {
		t.Errorf("a Sync that crashes takes effect: %s", look(d))
	}
	d.Fuse(1, 0, 1)
	want(t, "torn", d.Append("a", []byte("xyz")), api.ErrDown)
	d.Start()
	if look(d) != "a=x;" {
		t.Errorf("torn by a fuse: %s", look(d))
	}
	d.Fuse(1, 0, 0)
	want(t, "Fuse of 0", d.Fuse(0, 0, 0), api.OK)
	want(t, "without a fuse", d.Sync(), api.OK)
	d.Fuse(3, 0, 0)
	want(t, "1", d.Rename("a", "a"), api.OK)
	want(t, "2", d.Sync(), api.OK)
	want(t, "3", d.Sync(), api.ErrDown)
	if d.Start(); d.Waits() != 0 {
		t.Error("a Rename of a file to its own name makes a version")
	}
}

func TestCopyAndSharing(t *testing.T) {
	d := made(t, 50)
	b := []byte("xy")
	d.Append("a", b)
	d.Sync()
	d.Append("a", b)
	d.Put("p", b)
	d.Fuse(2, 1, 1)
	b[0] = 'z'
	c := d.Copy()
	c.Fuse(0, 0, 0)
	c.Append("a", []byte("more"))
	c.Sync()
	if look(d) != "a=xyxy;p=xy;" || d.Waits() != 2 || c.Capacity() != 50 {
		t.Errorf("%s, %d", look(d), d.Waits())
	}
	r, _ := d.Read("a")
	r[0] = 'q'
	_ = append(r, 1)
	names := d.Names()
	names[0] = "q"
	if look(d) != "a=xyxy;p=xy;" {
		t.Errorf("shares: %s", look(d))
	}
	e := d.Copy()
	want(t, "first", e.Append("a", []byte("1")), api.OK)
	want(t, "second", e.Append("a", []byte("2")), api.ErrDown)
	if !e.Copy().Down() || d.Down() {
		t.Error("Copy of a disk that is down")
	}
	e.Start()
	if look(e) != "a=xyxy;" {
		t.Errorf("%s", look(e))
	}
	d.Crash(0, 0)
	d.Start()
	if look(d) != "a=xy;" {
		t.Errorf("%s", look(d))
	}
}

func TestRenameToItself(t *testing.T) {
	d := made(t, 50)
	d.Put("a", []byte("x"))
	want(t, "Rename", d.Rename("a", "a"), api.OK)
	if d.Waits() != 1 || look(d) != "a=x;" {
		t.Errorf("%d versions wait: %s", d.Waits(), look(d))
	}
}

func TestVersionsAreApart(t *testing.T) {
	// What was passed may be written to, before a crash makes the versions again.
	d := made(t, 500)
	b, c := []byte("abc"), []byte("def")
	d.Put("p", b)
	d.Append("q", c)
	clear(b)
	clear(c)
	d.Crash(9, 0)
	d.Start()
	if look(d) != "p=abc;q=def;" {
		t.Errorf("%q", look(d))
	}
	// Two disks go on from the same contents.
	for _, sync := range []bool{false, true} {
		one := made(t, 500)
		for range 5 {
			one.Append("a", []byte("xyz"))
		}
		one.Put("p", []byte("12345"))
		if sync {
			one.Sync()
		}
		two := one.Copy()
		one.Append("a", []byte("1"))
		two.Append("a", []byte("2"))
		one.Append("p", []byte("1"))
		two.Append("p", []byte("2"))
		for i, d := range []*disk.Disk{one, two} {
			s := fmt.Sprintf("a=xyzxyzxyzxyzxyz%d;p=12345%d;", i+1, i+1)
			if look(d) != s {
				t.Errorf("%s", look(d))
			}
		}
		one.Crash(99, 0)
		two.Crash(99, 0)
		one.Start()
		two.Start()
		one.Append("p", []byte("1"))
		two.Append("p", []byte("2"))
		one.Sync()
		two.Sync()
		if look(one) != "a=xyzxyzxyzxyzxyz1;p=1234511;" || look(two) != "a=xyzxyzxyzxyzxyz2;p=1234522;" {
			t.Errorf("%s, %s", look(one), look(two))
		}
	}
}

// TestPrefix compares a disk with a plain model: the text of each version.
func TestPrefix(t *testing.T) {
	r := rand.New(rand.NewSource(5))
	for round := range 300 {
		d := made(t, 30)
		versions := []string{""}
		var torn string
		for range r.Intn(12) {
			name, other := string("abc"[r.Intn(3)]), string("abc"[r.Intn(3)])
			b := []byte(strings.Repeat(string("uvwxyz"[r.Intn(6)]), r.Intn(8)))
			old, waits, used := look(d), d.Waits(), d.Bytes()
			e, grows := api.OK, 0
			kind := r.Intn(6)
			switch kind {
			case 0, 1:
				grows = len(b)
				e = d.Append(name, b)
			case 2:
				grows = len(b) - d.Size(name)
				e = d.Put(name, b)
			case 3:
				e = d.Rename(name, other)
			case 4:
				e = d.Remove(name)
			case 5:
				want(t, "Sync", d.Sync(), api.OK)
				versions, waits = []string{look(d)}, 0
			}
			if (e == api.ErrFull) != (used+grows > 30) {
				t.Fatalf("%v: %d and %d", e, used, grows)
			}
			if e != api.OK && (look(d) != old || d.Waits() != waits) {
				t.Fatalf("round %d: %v changes", round, e)
			}
			if d.Waits() > waits {
				versions = append(versions, look(d))
			}
			if d.Waits() != len(versions)-1 {
				t.Fatalf("round %d: %d versions wait, not %d", round, d.Waits(), len(versions)-1)
			}
		}
		keep := r.Intn(len(versions))
		d.Crash(keep, 0)
		d.Start()
		if torn = look(d); torn != versions[keep] {
			t.Fatalf("round %d: keeping %d: %s, not %s", round, keep, torn, versions[keep])
		}
		if !slices.IsSorted(d.Names()) || fmt.Sprint(d.Names()) != fmt.Sprint(slices.Compact(d.Names())) {
			t.Fatal("names")
		}
	}
}

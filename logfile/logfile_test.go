package logfile_test

import (
	"bytes"
	"fmt"
	"math/rand"
	"slices"
	"testing"

	"tidewrack/api"
	"tidewrack/disk"
	"tidewrack/frame"
	"tidewrack/logfile"
)

func made(t *testing.T, capacity int) *disk.Disk {
	t.Helper()
	d, e := disk.New(capacity)
	if e != api.OK {
		t.Fatal(e)
	}
	return d
}

func open(t *testing.T, d *disk.Disk) *logfile.Log {
	t.Helper()
	l, e := logfile.Open(d, "log")
	if e != api.OK || l == nil {
		t.Fatalf("Open: %v", e)
	}
	return l
}

func want(t *testing.T, what string, got, want api.Errno) {
	t.Helper()
	if got != want {
		t.Errorf("%s: %v, not %v", what, got, want)
	}
}

func has(t *testing.T, l *logfile.Log, payloads ...string) {
	t.Helper()
	size := 0
	for i, p := range payloads {
		size += 8 + len(p)
		if b, ok := l.At(i); !ok || string(b) != p {
			t.Errorf("At(%d): %q, %v", i, b, ok)
		}
	}
	if got := fmt.Sprintf("%q", l.Records()); got != fmt.Sprintf("%q", payloads) || l.Count() != len(payloads) || l.Size() != size {
		t.Errorf("%s, %d, %d, not %q", got, l.Count(), l.Size(), payloads)
	}
	for _, i := range []int{-1, len(payloads), len(payloads) + 5} {
		if b, ok := l.At(i); ok || b != nil {
			t.Errorf("At(%d): %q, %v", i, b, ok)
		}
	}
}

func TestExamples(t *testing.T) {
	d := made(t, 100)
	l := open(t, d)
	has(t, l)
	if len(d.Names()) != 0 || l.Name() != "log" {
		t.Error("Open makes a file")
	}
	want(t, "Append", l.Append([]byte("a")), api.OK)
	want(t, "Append", l.Append([]byte("bc")), api.OK)
	has(t, l, "a", "bc")
	row, _, _ := frame.Row([]byte("a"), []byte("bc"))
	if b, _ := d.Read("log"); !bytes.Equal(b, row) || d.Waits() != 2 {
		t.Errorf("%x, %d", b, d.Waits())
	}
	want(t, "Sync", l.Sync(), api.OK)
	if d.Waits() != 0 {
		t.Error("Sync does nothing")
	}
	want(t, "Append", l.Append([]byte("d")), api.OK)
	d.Crash(0, 3)
	want(t, "Append while down", l.Append(make([]byte, api.MaxRecord+1)), api.ErrDown)
	want(t, "Sync while down", l.Sync(), api.ErrDown)
	has(t, l, "a", "bc", "d")
	d.Start()
	if d.Size("log") != 22 {
		t.Fatalf("%d", d.Size("log"))
	}
	l = open(t, d)
	has(t, l, "a", "bc")
	if d.Size("log") != 19 || d.Waits() != 1 {
		t.Errorf("%d, %d", d.Size("log"), d.Waits())
	}
	want(t, "a full disk", l.Append(make([]byte, 80)), api.ErrFull)
	want(t, "too long", l.Append(make([]byte, api.MaxRecord+1)), api.ErrLong)
	has(t, l, "a", "bc")
	if d.Size("log") != 19 || d.Waits() != 1 {
		t.Error("an error changes the disk")
	}
	want(t, "to the last byte", l.Append(make([]byte, 73)), api.OK)
	has(t, open(t, d), "a", "bc", string(make([]byte, 73)))
	if d.Waits() != 2 {
		t.Error("Open writes though nothing is to be cut off")
	}
}

func TestOpen(t *testing.T) {
	d := made(t, 30000)
	for _, name := range []string{"", "A", "a b", "abcdefghijklmnopq"} {
		if l, e := logfile.Open(d, name); l != nil || e != api.ErrArg {
			t.Errorf("%q: %v", name, e)
		}
	}
	var zero disk.Disk
	for _, down := range []*disk.Disk{nil, &zero} {
		if l, e := logfile.Open(down, ""); l != nil || e != api.ErrDown {
			t.Errorf("%v", e)
		}
	}
	row, _, _ := frame.Row([]byte("x"), nil)
	d.Put("log", append(bytes.Clone(row), 1, 2, 3))
	d.Put("a", []byte("garbage, no record"))
	d.Put("b", nil)
	l := open(t, d)
	has(t, l, "x", "")
	if b, _ := d.Read("log"); !bytes.Equal(b, row) {
		t.Errorf("%x", b)
	}
	want(t, "Append", l.Append(make([]byte, api.MaxRecord)), api.OK)
	if l, e := logfile.Open(d, "a"); e != api.OK || l.Count() != 0 || d.Size("a") != 0 || l.Name() != "a" {
		t.Errorf("garbage: %v, %d", e, d.Size("a"))
	}
	waits := d.Waits()
	if l, e := logfile.Open(d, "b"); e != api.OK || l.Count() != 0 || d.Waits() != waits {
		t.Errorf("an empty file: %v", e)
	}
	d.Put("log", []byte("garbage"))
	d.Fuse(1, 0, 0)
	if l, e := logfile.Open(d, "log"); l != nil || e != api.ErrDown || !d.Down() {
		t.Errorf("a fuse in Open: %v", e)
	}
	if l, e := logfile.Open(d, ""); l != nil || e != api.ErrDown {
		t.Errorf("down: %v", e)
	}
}

func TestFuse(t *testing.T) {
	d := made(t, 100)
	l := open(t, d)
	l.Append([]byte("a"))
	d.Fuse(1, 9, 0)
	want(t, "Append", l.Append([]byte("b")), api.ErrDown)
	has(t, l, "a")
	d.Start()
	has(t, open(t, d), "a", "b")
	d.Fuse(1, 0, 0)
	want(t, "Sync", l.Sync(), api.ErrDown)
}

func TestNoLog(t *testing.T) {
	var none *logfile.Log
	for _, l := range []*logfile.Log{none, {}} {
		want(t, "Append", l.Append(make([]byte, api.MaxRecord+1)), api.ErrDown)
		want(t, "Sync", l.Sync(), api.ErrDown)
		has(t, l)
		if l.Name() != "" {
			t.Error("a name")
		}
	}
}

func TestSharing(t *testing.T) {
	d := made(t, 100)
	l := open(t, d)
	b := []byte("abc")
	l.Append(b)
	b[0] = 'x'
	l.Records()[0][1] = 'x'
	p, _ := l.At(0)
	p[2] = 'x'
	has(t, l, "abc")
	two := open(t, d)
	two.Append([]byte("two"))
	l.Append([]byte("one"))
	has(t, l, "abc", "one")
	has(t, two, "abc", "two")
}

func TestCrashes(t *testing.T) {
	r := rand.New(rand.NewSource(1))
	for range 400 {
		d := made(t, 200)
		var all []string
		synced := 0
		l := open(t, d)
		for range r.Intn(4) {
			for range r.Intn(6) {
				p := make([]byte, r.Intn(12))
				r.Read(p)
				before, size := d.Waits(), d.Size("log")
				switch e := l.Append(p); {
				case e == api.OK:
					all = append(all, string(p))
				case e != api.ErrFull || d.Waits() != before || d.Size("log") != size || size+8+len(p) <= 200:
					t.Fatalf("%v", e)
				}
				if r.Intn(4) == 0 {
					want(t, "Sync", l.Sync(), api.OK)
					synced = len(all)
				}
			}
			d.Crash(r.Intn(5), r.Intn(12))
			d.Start()
			l = open(t, d)
			n := l.Count()
			if n < synced || n > len(all) {
				t.Fatalf("%d records, of %d, %d of them synced", n, len(all), synced)
			}
			all = all[:n]
			has(t, l, all...)
			has(t, open(t, d), all...)
			synced = 0
			if r.Intn(2) == 0 {
				l.Sync()
				synced = n
			} else if n > 0 {
				// What Open cut off may come back in part, but no record does.
				d.Crash(0, 0)
				d.Start()
				l = open(t, d)
				if l.Count() != n || !slices.EqualFunc(l.Records(), all, func(b []byte, s string) bool { return string(b) == s }) {
					t.Fatalf("%d records, not %d", l.Count(), n)
				}
				synced = n
			}
		}
	}
}

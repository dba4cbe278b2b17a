package store_test

import (
	"bytes"
	"fmt"
	"math"
	"math/rand"
	"slices"
	"strings"
	"testing"

	"tidewrack/api"
	"tidewrack/disk"
	"tidewrack/frame"
	"tidewrack/store"
)

func made(t *testing.T, capacity int) *disk.Disk {
	t.Helper()
	d, e := disk.New(capacity)
	if e != api.OK {
		t.Fatal(e)
	}
	return d
}

func open(t *testing.T, d *disk.Disk) *store.Store {
	t.Helper()
	s, e := store.Open(d)
	if e != api.OK || s == nil {
		t.Fatalf("Open: %v", e)
	}
	return s
}

func want(t *testing.T, what string, got, want api.Errno) {
	t.Helper()
	if got != want {
		t.Errorf("%s: %v, not %v", what, got, want)
	}
}

func text(l [][]byte) string { return fmt.Sprintf("%q", l) }

func has(t *testing.T, s *store.Store, records ...string) {
	t.Helper()
	size := 0
	for _, r := range records {
		size += 8 + len(r)
	}
	if got := text(s.Records()); got != fmt.Sprintf("%q", records) || s.Count() != len(records) || s.Size() != size {
		t.Errorf("%s, %d, %d, not %q", got, s.Count(), s.Size(), records)
	}
}

func TestExamples(t *testing.T) {
	d := made(t, 100)
	s := open(t, d)
	has(t, s)
	for _, r := range []string{"a", "b", "c"} {
		want(t, "Append", s.Append([]byte(r)), api.OK)
	}
	if s.Size() != 27 || s.Free() != 73 || s.Down() {
		t.Errorf("%d, %d", s.Size(), s.Free())
	}
	want(t, "Compact", s.Compact([]byte("ab")), api.OK)
	has(t, s, "ab")
	if s.Free() != 90 || d.Waits() != 0 || !slices.Equal(d.Names(), []string{"log"}) {
		t.Errorf("%d, %d, %v", s.Free(), d.Waits(), d.Names())
	}
	want(t, "Append", s.Append([]byte("x")), api.OK)
	d.Crash(0, 4)
	d.Start()
	s = open(t, d)
	has(t, s, "ab")
	want(t, "Compact", s.Compact(make([]byte, 60)), api.OK)
	want(t, "Compact", s.Compact(make([]byte, 30)), api.ErrFull)
	has(t, s, string(make([]byte, 60)))
	want(t, "Append after Compact", s.Append([]byte("y")), api.OK)
	has(t, s, string(make([]byte, 60)), "y")
	has(t, open(t, d), string(make([]byte, 60)), "y")
	want(t, "Compact to nothing", s.Compact(), api.OK)
	has(t, s)
}

func TestOpen(t *testing.T) {
	var zero disk.Disk
	for _, d := range []*disk.Disk{nil, &zero} {
		if s, e := store.Open(d); s != nil || e != api.ErrDown {
			t.Errorf("%v", e)
		}
	}
	fresh := func() *disk.Disk {
		d := made(t, 100)
		row, _, _ := frame.Row([]byte("r"))
		d.Put("log", append(row, 1, 2))
		d.Put("log.new", []byte("whatever"))
		d.Put("other", []byte("o"))
		d.Sync()
		return d
	}
	d := fresh()
	s := open(t, d)
	has(t, s, "r")
	if d.Waits() != 0 || d.Size("log") != 9 || !slices.Equal(d.Names(), []string{"log", "other"}) || s.Free() != 90 {
		t.Errorf("%d, %v", d.Waits(), d.Names())
	}
	// Open takes three calls: Remove, Put, Sync.
	for n := 1; n <= 4; n++ {
		d := fresh()
		d.Fuse(n, 9, 0)
		s, e := store.Open(d)
		if n == 4 {
			want(t, "Open", e, api.OK)
			continue
		}
		if s != nil || e != api.ErrDown {
			t.Errorf("fuse %d: %v", n, e)
		}
		d.Start()
		if _, e := d.Read("log.new"); e != api.ErrNone {
			t.Errorf("fuse %d: log.new: %v", n, e)
		}
		if size := d.Size("log"); (size == 9) != (n > 1) {
			t.Errorf("fuse %d: %d bytes", n, size)
		}
	}
	d = made(t, 100)
	d.Append("log", nil)
	s = open(t, d)
	if d.Waits() != 0 {
		t.Error("Open does not sync")
	}
	want(t, "Sync", s.Append([]byte("q")), api.OK)
	want(t, "Sync", s.Sync(), api.OK)
	if d.Waits() != 0 {
		t.Error("Sync does not sync")
	}
}

func TestErrors(t *testing.T) {
	d := made(t, 100)
	s := open(t, d)
	s.Append([]byte("a"))
	long := make([]byte, api.MaxRecord+1)
	want(t, "Append", s.Append(long), api.ErrLong)
	want(t, "Append", s.Append(make([]byte, 84)), api.ErrFull)
	want(t, "Compact", s.Compact([]byte("b"), long), api.ErrLong)
	want(t, "Compact", s.Compact(make([]byte, 84)), api.ErrFull)
	has(t, s, "a")
	if !slices.Equal(d.Names(), []string{"log"}) || d.Size("log") != 9 || d.Waits() != 1 {
		t.Errorf("an error changes the disk: %v", d.Names())
	}
	want(t, "Compact to the last byte", s.Compact(make([]byte, 83)), api.OK)
	d.Crash(0, 0)
	if s.Free() != 0 || !s.Down() {
		t.Errorf("down: %d", s.Free())
	}
	want(t, "Append", s.Append(long), api.ErrDown)
	want(t, "Sync", s.Sync(), api.ErrDown)
	want(t, "Compact", s.Compact(long), api.ErrDown)
	var none *store.Store
	for _, s := range []*store.Store{none, {}} {
		want(t, "Append", s.Append(nil), api.ErrDown)
		want(t, "Sync", s.Sync(), api.ErrDown)
		want(t, "Compact", s.Compact(), api.ErrDown)
		if has(t, s); len(s.Since(-1)) != 0 || s.Free() != 0 || !s.Down() {
			t.Error("a store that Open did not make")
		}
	}
}

func TestCompactCrashes(t *testing.T) {
	for n := 1; n <= 5; n++ {
		for keep := range 3 {
			d := made(t, 200)
			s := open(t, d)
			s.Append([]byte("a"))
			s.Append([]byte("b"))
			s.Sync()
			s.Append([]byte("c"))
			d.Fuse(n, keep, 3)
			e := s.Compact([]byte("abc"))
			if n == 5 {
				want(t, "Compact", e, api.OK)
				continue
			}
			want(t, "Compact", e, api.ErrDown)
			has(t, s, "a", "b", "c")
			d.Start()
			got := text(open(t, d).Records())
			wants := map[int][]string{1: {`["a" "b"]`, `["a" "b" "c"]`, `["a" "b" "c"]`}, 2: {`["a" "b"]`, `["a" "b" "c"]`, `["a" "b" "c"]`},
				3: {`["a" "b" "c"]`, `["abc"]`, `["abc"]`}, 4: {`["a" "b" "c"]`, `["abc"]`, `["abc"]`}}
			if got != wants[n][keep] {
				t.Errorf("fuse %d, keeping %d: %s", n, keep, got)
			}
		}
	}
}

func TestSinceAndSharing(t *testing.T) {
	d := made(t, 9000)
	s := open(t, d)
	b := []byte("zero")
	s.Append(b)
	b[0] = 'x'
	for i := 1; i < 12; i++ {
		s.Append([]byte(fmt.Sprint(i)))
	}
	for n, want := range map[int]string{10: `["10" "11"]`, 11: `["11"]`, 12: `[]`, math.MaxInt: `[]`, 9: `["9" "10" "11"]`} {
		if got := text(s.Since(n)); got != want {
			t.Errorf("Since(%d): %s", n, got)
		}
	}
	for _, n := range []int{0, -1, math.MinInt} {
		if got := text(s.Since(n)); got != text(s.Records()) || s.Count() != 12 {
			t.Errorf("Since(%d): %s", n, got)
		}
	}
	s.Records()[0][0] = 'y'
	s.Since(0)[0][1] = 'y'
	if got := s.Records()[0]; string(got) != "zero" {
		t.Errorf("%s", got)
	}
	r := []byte("r")
	s.Compact(r)
	r[0] = 'q'
	has(t, s, "r")
}

func TestRecovery(t *testing.T) {
	r := rand.New(rand.NewSource(1))
	for range 600 {
		d := made(t, 300)
		s := open(t, d)
		var all []string // what was appended
		synced := 0      // so many of these are durable
		var other []string
		compacting := false
		for range r.Intn(20) {
			if r.Intn(12) == 0 {
				d.Fuse(1+r.Intn(3), r.Intn(4), r.Intn(15))
			}
			var e api.Errno
			switch r.Intn(6) {
			case 0:
				if e = s.Sync(); e == api.OK {
					synced = len(all)
				}
			case 1:
				other = []string{strings.Join(all, "")[:min(20, len(strings.Join(all, "")))]}
				before := text(s.Records())
				if e = s.Compact([]byte(other[0])); e == api.OK {
					all, synced = other, 1
				} else if text(s.Records()) != before {
					t.Fatal("a Compact that fails changes the records")
				}
				compacting = e == api.ErrDown
			default:
				p := strings.Repeat(string("uvwxyz"[r.Intn(6)]), r.Intn(14))
				before := text(s.Records())
				if e = s.Append([]byte(p)); e == api.OK {
					all = append(all, p)
				} else if text(s.Records()) != before {
					t.Fatal("an Append that fails changes the records")
				}
				if e == api.ErrDown {
					all = append(all, p)
				}
			}
			if e == api.ErrDown {
				break
			}
		}
		if !d.Down() {
			d.Crash(r.Intn(5), r.Intn(15))
		}
		d.Start()
		d.Fuse(r.Intn(4), r.Intn(3), 0)
		if _, e := store.Open(d); e == api.ErrDown {
			d.Start()
		}
		d.Fuse(0, 0, 0)
		s = open(t, d)
		got := s.Records()
		again := open(t, d)
		if text(again.Records()) != text(got) {
			t.Fatal("opening again yields other records")
		}
		if compacting && text(got) == fmt.Sprintf("%q", other) {
			continue
		}
		if len(got) < synced || len(got) > len(all) || text(got) != fmt.Sprintf("%q", all[:len(got)]) {
			t.Fatalf("%q, not a prefix of %q, %d of them durable", got, all, synced)
		}
	}
}

func TestCompactToLessThanHalf(t *testing.T) {
	r := rand.New(rand.NewSource(2))
	for range 200 {
		d := made(t, 100)
		s := open(t, d)
		for s.Size() < 30 {
			s.Append(bytes.Repeat([]byte{1}, r.Intn(12)))
		}
		p := bytes.Repeat([]byte{2}, r.Intn(42))
		if s.Size() < 50 && len(p)+8 < 50 {
			want(t, "Compact", s.Compact(p), api.OK)
		}
	}
}

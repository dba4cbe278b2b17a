package frame_test

import (
	"bytes"
	"encoding/binary"
	"hash/crc32"
	"math/rand"
	"slices"
	"testing"

	"tidewrack/api"
	"tidewrack/frame"
)

func equal(a, b [][]byte) bool { return slices.EqualFunc(a, b, bytes.Equal) }

// record is the record of p after a tail with that Sum.
func record(sum uint32, p []byte) ([]byte, uint32) {
	length := binary.BigEndian.AppendUint32(nil, uint32(len(p)))
	c := crc32.Checksum(slices.Concat(binary.LittleEndian.AppendUint32(nil, sum), length, p), crc32.MakeTable(crc32.Castagnoli))
	return slices.Concat(length, binary.BigEndian.AppendUint32(nil, c), p), c
}

func some(r *rand.Rand) [][]byte {
	var l [][]byte
	for range 1 + r.Intn(5) {
		p := make([]byte, r.Intn(20))
		r.Read(p)
		l = append(l, p)
	}
	return l
}

func TestCheck(t *testing.T) {
	if frame.Check() != 0 || frame.Check(nil, []byte{}) != 0 {
		t.Error("of nothing")
	}
	for _, parts := range [][][]byte{{[]byte("123456789")}, {[]byte("1234"), []byte("56789")}, {[]byte("12"), nil, []byte("345678"), []byte("9")}} {
		if c := frame.Check(parts...); c != 0xE3069283 {
			t.Errorf("%q: %x", parts, c)
		}
	}
	if c := frame.Check(make([]byte, 32)); c != 0x8A9136AA {
		t.Errorf("%x", c)
	}
	r := rand.New(rand.NewSource(1))
	for range 200 {
		b := make([]byte, r.Intn(100))
		r.Read(b)
		k := r.Intn(len(b) + 1)
		if c := frame.Check(b[:k], b[k:]); c != crc32.Checksum(b, crc32.MakeTable(crc32.Castagnoli)) {
			t.Fatalf("%x: %x", b, c)
		}
	}
}

func TestPut(t *testing.T) {
	for _, tail := range []api.Tail{{}, {Count: 3, Size: 50, Sum: 0x01020304}, {Count: -1, Size: -9, Sum: 0xffffffff}} {
		for _, n := range []int{0, 1, 300, api.MaxRecord} {
			p := bytes.Repeat([]byte{7}, n)
			want, sum := record(tail.Sum, p)
			b, next, e := frame.Put(tail, p)
			if e != api.OK || !bytes.Equal(b, want) || next != (api.Tail{Count: tail.Count + 1, Size: tail.Size + 8 + n, Sum: sum}) {
				t.Errorf("%v, %d: %v, %v", tail, n, next, e)
			}
			b[len(b)-1]++
			if n > 0 && p[n-1] != 7 {
				t.Error("Put shares")
			}
		}
		if b, next, e := frame.Put(tail, make([]byte, api.MaxRecord+1)); e != api.ErrLong || len(b) != 0 || next != (api.Tail{}) {
			t.Errorf("%v, %v", next, e)
		}
	}
}

func TestRow(t *testing.T) {
	b, tail, e := frame.Row([]byte("a"), nil, []byte("bc"))
	one, s1 := record(0, []byte("a"))
	two, s2 := record(s1, nil)
	three, s3 := record(s2, []byte("bc"))
	if e != api.OK || !bytes.Equal(b, slices.Concat(one, two, three)) || tail != (api.Tail{Count: 3, Size: 27, Sum: s3}) {
		t.Errorf("%x, %v, %v", b, tail, e)
	}
	if b, tail, e := frame.Row(); e != api.OK || len(b) != 0 || tail != (api.Tail{}) {
		t.Errorf("no payload: %v, %v", tail, e)
	}
	if b, tail, e := frame.Row([]byte("a"), make([]byte, api.MaxRecord+1), []byte("b")); e != api.ErrLong || len(b) != 0 || tail != (api.Tail{}) {
		t.Errorf("a long one: %v, %v", tail, e)
	}
	if _, tail, e := frame.Row(make([]byte, api.MaxRecord)); e != api.OK || tail.Size != api.MaxRecord+8 {
		t.Errorf("the longest: %v, %v", tail, e)
	}
}

func TestSize(t *testing.T) {
	for _, n := range []int{0, 2, api.MaxRecord, api.MaxRecord + 1} {
		if s := frame.Size(make([]byte, n)); s != n+8 {
			t.Errorf("%d: %d", n, s)
		}
	}
}

func TestAll(t *testing.T) {
	b, want, _ := frame.Row([]byte("a"), nil, []byte("bc"))
	l, tail := frame.All(b)
	if !equal(l, [][]byte{[]byte("a"), {}, []byte("bc")}) || tail != want || tail.Count != 3 || tail.Size != 27 {
		t.Errorf("%q, %v", l, tail)
	}
	for _, b := range [][]byte{nil, b[9:], b[1:], make([]byte, 8), make([]byte, 7), {0, 0, 0, 0, 0, 0, 0}} {
		if l, tail := frame.All(b); len(l) != 0 || tail != (api.Tail{}) {
			t.Errorf("%x: %q, %v", b, l, tail)
		}
	}
	long, _ := record(0, make([]byte, api.MaxRecord+1))
	if l, tail := frame.All(long); len(l) != 0 || tail != (api.Tail{}) {
		t.Errorf("a payload that is too long is read: %v", tail)
	}
	most, _ := record(0, make([]byte, api.MaxRecord))
	if l, tail := frame.All(most); len(l) != 1 || tail.Size != api.MaxRecord+8 {
		t.Errorf("the longest payload: %v", tail)
	}
	l[0][0], l[2][0] = 'z', 'z'
	_ = append(l[0], 1, 2, 3)
	if again, _ := frame.All(b); string(again[0]) != "a" || string(again[2]) != "bc" {
		t.Error("All shares")
	}
}

func TestAppendingAndTruncation(t *testing.T) {
	r := rand.New(rand.NewSource(2))
	for range 100 {
		l := some(r)
		k := r.Intn(len(l) + 1)
		b, tail, _ := frame.Row(l[:k]...)
		ends := []int{}
		for i := range k {
			part, _, _ := frame.Row(l[:i+1]...)
			ends = append(ends, len(part))
		}
		for _, p := range l[k:] {
			var next []byte
			next, tail, _ = frame.Put(tail, p)
			b = append(b, next...)
			ends = append(ends, len(b))
		}
		got, last := frame.All(b)
		if !equal(got, l) || last != tail || last.Size != len(b) {
			t.Fatalf("%x, %v", got, last)
		}
		for cut := range len(b) + 1 {
			n := 0
			for n < len(ends) && ends[n] <= cut {
				n++
			}
			if got, last := frame.All(b[:cut]); !equal(got, l[:n]) || last.Count != n {
				t.Fatalf("cut at %d: %x", cut, got)
			}
		}
		if got, last := frame.All(append(bytes.Clone(b), make([]byte, r.Intn(20))...)); !equal(got, l) || last != tail {
			t.Fatal("bytes behind change what is read")
		}
	}
}

func TestChain(t *testing.T) {
	one, s1 := record(0, []byte("one"))
	two, s2 := record(s1, []byte("two"))
	three, _ := record(s2, []byte("three"))
	other, _ := record(77, []byte("other"))
	for name, c := range map[string]struct {
		b []byte
		n int
	}{"removed first": {slices.Concat(two, three), 0}, "removed second": {slices.Concat(one, three), 1}, "inserted": {slices.Concat(one, other, two, three), 1},
		"reordered": {slices.Concat(one, three, two), 1}, "doubled": {slices.Concat(one, one, two, three), 1}} {
		if l, _ := frame.All(c.b); len(l) != c.n {
			t.Errorf("%s: %q", name, l)
		}
	}
}

func TestCorruption(t *testing.T) {
	r := rand.New(rand.NewSource(3))
	for range 2000 {
		l := some(r)
		b, _, _ := frame.Row(l...)
		bad := r.Intn(len(l))
		start := 0
		for _, p := range l[:bad] {
			start += frame.Size(p)
		}
		bits := map[int]bool{}
		for range 1 + r.Intn(3) {
			bits[r.Intn(8*(4+len(l[bad])))] = true
		}
		for i := range bits {
			b[start+4+i/8] ^= 1 << (i % 8)
		}
		if got, _ := frame.All(b); !equal(got, l[:bad]) {
			t.Fatalf("%v inverted in record %d: %d read", bits, bad, len(got))
		}
	}
}

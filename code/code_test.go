package code_test

import (
	"bytes"
	"fmt"
	"math"
	"math/rand"
	"slices"
	"strings"
	"testing"

	"tidewrack/api"
	"tidewrack/code"
)

func encoded(l ...uint64) []byte {
	w := code.NewWriter()
	w.Put(l...)
	return w.Bytes()
}

// edges are numbers around those at which the encoding gets longer.
func edges() []uint64 {
	l := []uint64{0, 1, 2, 246, 247, 248, 249, 254, 255, 256, 257, 300}
	for n := 16; n <= 56; n += 8 {
		l = append(l, 1<<n-1, 1<<n, 1<<n+1)
	}
	return append(l, math.MaxInt64, math.MaxUint64-1, math.MaxUint64)
}

func TestWriter(t *testing.T) {
	for x, want := range map[uint64]string{0: "00", 247: "f7", 248: "f8f8", 255: "f8ff", 256: "f90100", 300: "f9012c", 65535: "f9ffff", 65536: "fa010000",
		1 << 24: "fb01000000", 1 << 32: "fc0100000000", 1 << 40: "fd010000000000", 1 << 48: "fe01000000000000", 1 << 56: "ff0100000000000000", math.MaxUint64: "ffffffffffffffffff"} {
		w := code.NewWriter()
		w.Uint(x)
		if got := fmt.Sprintf("%x", w.Bytes()); got != want {
			t.Errorf("%d: %s", x, got)
		}
	}
	w := code.NewWriter()
	if len(w.Bytes()) != 0 {
		t.Error("a new Writer has bytes")
	}
	w.U8(200)
	w.U32(258)
	w.U32(0xfedcba98)
	w.Text("ab")
	w.Text("")
	w.Text(strings.Repeat("x", 248))
	w.Put()
	w.Put(1, 300, 2)
	w.Raw([]byte{9, 8})
	w.Raw(nil)
	want := "c8" + "00000102" + "fedcba98" + "026162" + "00" + "f8f8" + strings.Repeat("78", 248) + "01f9012c02" + "0908"
	if got := fmt.Sprintf("%x", w.Bytes()); got != want {
		t.Errorf("%s", got)
	}
	b := w.Bytes()
	b[0] = 1
	if w.Bytes()[0] != 200 {
		t.Error("Bytes shares")
	}
	raw := []byte{7}
	w.Raw(raw)
	raw[0] = 8
	if b := w.Bytes(); b[len(b)-1] != 7 {
		t.Error("Raw retains")
	}
	var none *code.Writer
	none.U8(1)
	none.U32(1)
	none.Uint(1)
	none.Put(1, 2)
	none.Text("x")
	none.Raw([]byte{1})
	if len(none.Bytes()) != 0 {
		t.Error("a nil Writer has bytes")
	}
}

func TestSize(t *testing.T) {
	for _, x := range edges() {
		if n := code.Size(x); n != len(encoded(x)) {
			t.Errorf("%d: %d", x, n)
		}
	}
}

func TestReader(t *testing.T) {
	r := code.NewReader([]byte{5, 0, 0, 1, 2, 0xf9, 1, 0x2c, 2, 'a', 'b', 7, 8, 0})
	if x := r.U8(); x != 5 || r.At() != 1 {
		t.Errorf("U8: %d at %d", x, r.At())
	}
	if x := r.U32(); x != 258 || r.At() != 5 {
		t.Errorf("U32: %d at %d", x, r.At())
	}
	if x := r.Uint(); x != 300 || r.At() != 8 {
		t.Errorf("Uint: %d at %d", x, r.At())
	}
	if x := r.Text(2); x != "ab" || r.At() != 11 {
		t.Errorf("Text: %q at %d", x, r.At())
	}
	if x := r.Raw(2); !bytes.Equal(x, []byte{7, 8}) || r.At() != 13 {
		t.Errorf("Raw: %v at %d", x, r.At())
	}
	if x := r.Raw(0); len(x) != 0 || r.Err() != api.OK {
		t.Errorf("Raw of none: %v", r.Err())
	}
	if x := r.Text(0); x != "" || r.Err() != api.OK || r.At() != 14 || r.End() != api.OK {
		t.Errorf("the end: %q, %d, %v", x, r.At(), r.Err())
	}
	if x := r.U8(); x != 0 || r.Err() != api.ErrForm || r.At() != 14 || r.End() != api.ErrForm {
		t.Errorf("behind the end: %d, %v", x, r.Err())
	}
}

// reads is each call of a Reader, and whether it returns nothing.
func reads(r *code.Reader) map[string]bool {
	return map[string]bool{"U8": r.U8() == 0, "U32": r.U32() == 0, "Uint": r.Uint() == 0, "Text": r.Text(9) == "", "Raw": len(r.Raw(1)) == 0}
}

func TestReaderFails(t *testing.T) {
	one := []byte{1}
	for name, c := range map[string]struct {
		b    []byte
		call func(*code.Reader) bool
	}{
		"U8 of none":            {one, func(r *code.Reader) bool { return r.U8() == 0 }},
		"U32 of three":          {[]byte{1, 1, 2, 3}, func(r *code.Reader) bool { return r.U32() == 0 }},
		"Uint of none":          {one, func(r *code.Reader) bool { return r.Uint() == 0 }},
		"f8 alone":              {[]byte{1, 0xf8}, func(r *code.Reader) bool { return r.Uint() == 0 }},
		"f8 07":                 {[]byte{1, 0xf8, 7, 1}, func(r *code.Reader) bool { return r.Uint() == 0 }},
		"f8 f7":                 {[]byte{1, 0xf8, 0xf7, 1}, func(r *code.Reader) bool { return r.Uint() == 0 }},
		"f9 00 ff":              {[]byte{1, 0xf9, 0, 0xff}, func(r *code.Reader) bool { return r.Uint() == 0 }},
		"f9 01":                 {[]byte{1, 0xf9, 1}, func(r *code.Reader) bool { return r.Uint() == 0 }},
		"ff and seven":          {[]byte{1, 0xff, 1, 2, 3, 4, 5, 6, 7}, func(r *code.Reader) bool { return r.Uint() == 0 }},
		"ff 00":                 {[]byte{1, 0xff, 0, 2, 3, 4, 5, 6, 7, 8}, func(r *code.Reader) bool { return r.Uint() == 0 }},
		"Text of none":          {one, func(r *code.Reader) bool { return r.Text(9) == "" }},
		"Text cut":              {[]byte{1, 2, 'a'}, func(r *code.Reader) bool { return r.Text(9) == "" }},
		"Text too long":         {[]byte{1, 2, 'a', 'b'}, func(r *code.Reader) bool { return r.Text(1) == "" }},
		"Text of most -1":       {[]byte{1, 0}, func(r *code.Reader) bool { return r.Text(-1) == "" }},
		"Text of a bad length":  {[]byte{1, 0xf8, 1, 'a'}, func(r *code.Reader) bool { return r.Text(9) == "" }},
		"Text of a huge length": {append([]byte{1}, encoded(math.MaxUint64)...), func(r *code.Reader) bool { return r.Text(math.MaxInt) == "" }},
		"Raw of -1":             {[]byte{1, 2}, func(r *code.Reader) bool { return len(r.Raw(-1)) == 0 }},
		"Raw of too many":       {[]byte{1, 2}, func(r *code.Reader) bool { return len(r.Raw(2)) == 0 }},
		"Raw of MaxInt":         {[]byte{1, 2}, func(r *code.Reader) bool { return len(r.Raw(math.MaxInt)) == 0 }},
		"Fail":                  {[]byte{1, 2}, func(r *code.Reader) bool { r.Fail(); return true }},
	} {
		r := code.NewReader(c.b)
		r.U8()
		if r.Err() != api.OK || !c.call(r) || r.Err() != api.ErrForm || r.At() != 1 {
			t.Errorf("%s: %v at %d", name, r.Err(), r.At())
		}
		for call, none := range reads(r) {
			if !none || r.At() != 1 || r.Err() != api.ErrForm || r.End() != api.ErrForm {
				t.Errorf("%s, then %s: at %d", name, call, r.At())
			}
		}
	}
	r := code.NewReader([]byte{1, 2})
	if r.U8(); r.End() != api.ErrForm || r.Err() != api.ErrForm || r.U8() != 0 || r.At() != 1 {
		t.Error("End ahead of the end")
	}
	var none *code.Reader
	if none.Fail(); none.At() != 0 || none.Err() != api.ErrForm || none.End() != api.ErrForm {
		t.Error("a nil Reader has not failed")
	}
	for call, ok := range reads(none) {
		if !ok {
			t.Errorf("a nil Reader: %s", call)
		}
	}
	var zero code.Reader
	if zero.At() != 0 || zero.Err() != api.OK || zero.End() != api.OK || zero.U8() != 0 || zero.Err() != api.ErrForm {
		t.Error("a zero Reader is not at the end of no bytes")
	}
}

func TestReaderIsApart(t *testing.T) {
	b := []byte{1, 2, 3}
	r := code.NewReader(b)
	b[0] = 9
	x := r.Raw(2)
	if x[0] != 1 {
		t.Error("NewReader retains")
	}
	x[1] = 9
	_ = append(x, 9)
	if r.Raw(1)[0] != 3 || b[1] != 2 {
		t.Error("Raw shares")
	}
}

func TestRoundTrip(t *testing.T) {
	r := rand.New(rand.NewSource(1))
	for range 500 {
		w := code.NewWriter()
		var kinds, sizes []int
		var numbers []uint64
		for range r.Intn(6) {
			k, n, x := r.Intn(5), r.Intn(300), r.Uint64()>>r.Intn(64)
			kinds, sizes, numbers = append(kinds, k), append(sizes, n), append(numbers, x)
			switch k {
			case 0:
				w.U8(uint8(x))
			case 1:
				w.U32(uint32(x))
			case 2:
				w.Uint(x)
			case 3:
				w.Text(strings.Repeat("s", n))
			case 4:
				w.Raw(bytes.Repeat([]byte{byte(x)}, n))
			}
		}
		d := code.NewReader(w.Bytes())
		for i, k := range kinds {
			n, x, ok := sizes[i], numbers[i], false
			switch k {
			case 0:
				ok = d.U8() == uint8(x)
			case 1:
				ok = d.U32() == uint32(x)
			case 2:
				ok = d.Uint() == x
			case 3:
				ok = d.Text(n) == strings.Repeat("s", n)
			case 4:
				ok = bytes.Equal(d.Raw(n), bytes.Repeat([]byte{byte(x)}, n))
			}
			if !ok {
				t.Fatalf("kind %d, %d, %d", k, n, x)
			}
		}
		if d.End() != api.OK {
			t.Fatal("not at the end")
		}
	}
}

func TestOrder(t *testing.T) {
	l := edges()
	r := rand.New(rand.NewSource(2))
	for range 100 {
		l = append(l, r.Uint64()>>r.Intn(64))
	}
	var rows [][]uint64
	for range 200 {
		var row []uint64
		for range r.Intn(4) {
			row = append(row, l[r.Intn(len(l))]>>(8*r.Intn(2)))
		}
		rows = append(rows, row)
	}
	for _, x := range l {
		rows = append(rows, []uint64{x})
	}
	for _, a := range rows {
		for _, b := range rows {
			if bytes.Compare(encoded(a...), encoded(b...)) != slices.Compare(a, b) {
				t.Fatalf("%v, %v", a, b)
			}
		}
	}
}

func TestOneEncodingAndItsLength(t *testing.T) {
	for _, x := range edges() {
		b := encoded(x)
		if n := max(0, int(b[0])-247) + 1; n != len(b) {
			t.Errorf("%d: the first byte says %d", x, n)
		}
		for i := range b {
			for c := range 256 {
				other := bytes.Clone(b)
				other[i] = byte(c)
				r := code.NewReader(other)
				y := r.Uint()
				if r.Err() == api.OK && (y == x) != bytes.Equal(b, other) {
					t.Fatalf("%x is read as %d", other, y)
				}
				if r.Err() == api.OK && !bytes.Equal(encoded(y), other[:r.At()]) {
					t.Fatalf("%x is read as %d in another encoding", other, y)
				}
			}
		}
	}
}

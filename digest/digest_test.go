package digest_test

import (
	"bytes"
	"encoding/binary"
	"encoding/hex"
	"math"
	"math/bits"
	"math/rand"
	"reflect"
	"testing"

	"tidewrack/api"
	"tidewrack/digest"
)

func counting(n int) []byte {
	b := make([]byte, n)
	for i := range b {
		b[i] = byte(i)
	}
	return b
}

// plainMix is the chapter's mixing, written out once more.
func plainMix(h [8]uint32, b []byte, n uint64, last bool) [8]uint32 {
	iv := [8]uint32{0x6a09e667, 0xbb67ae85, 0x3c6ef372, 0xa54ff53a, 0x510e527f, 0x9b05688c, 0x1f83d9ab, 0x5be0cd19}
	rows := []string{"0123456789abcdef", "ea489fd61c02b753", "b8c052fdae367194", "7931dcbe265a40f8", "905724afe1bc683d",
		"2c6a0b834d75fe19", "c51fed4a0763928b", "db7ec13950f4862a", "6fe9b308c2d714a5", "a2847615fb9e3cd0"}
	var v [16]uint32
	copy(v[:8], h[:])
	copy(v[8:], iv[:])
	v[12] ^= uint32(n)
	v[13] ^= uint32(n >> 32)
	if last {
		v[14] ^= 0xffffffff
	}
	g := func(a, b, c, d int, x, y uint32) {
		v[a] = v[a] + v[b] + x
		v[d] = bits.RotateLeft32(v[d]^v[a], -16)
		v[c] = v[c] + v[d]
		v[b] = bits.RotateLeft32(v[b]^v[c], -12)
		v[a] = v[a] + v[b] + y
		v[d] = bits.RotateLeft32(v[d]^v[a], -8)
		v[c] = v[c] + v[d]
		v[b] = bits.RotateLeft32(v[b]^v[c], -7)
	}
	for _, row := range rows {
		m := func(i int) uint32 {
			k, _ := hex.DecodeString("0" + row[i:i+1])
			return binary.LittleEndian.Uint32(b[4*k[0]:])
		}
		g(0, 4, 8, 12, m(0), m(1))
		g(1, 5, 9, 13, m(2), m(3))
		g(2, 6, 10, 14, m(4), m(5))
		g(3, 7, 11, 15, m(6), m(7))
		g(0, 5, 10, 15, m(8), m(9))
		g(1, 6, 11, 12, m(10), m(11))
		g(2, 7, 8, 13, m(12), m(13))
		g(3, 4, 9, 14, m(14), m(15))
	}
	for i := range h {
		h[i] ^= v[i] ^ v[i+8]
	}
	return h
}

// plainOf is the digest by plainMix.
func plainOf(size int, b []byte) []byte {
	s, _ := digest.Begin(size)
	h, n := s.H, uint64(0)
	for len(b) > 64 {
		n += 64
		h = plainMix(h, b[:64], n, false)
		b = b[64:]
	}
	h = plainMix(h, append(bytes.Clone(b), make([]byte, 64-len(b))...), n+uint64(len(b)), true)
	var out []byte
	for _, w := range h {
		out = binary.LittleEndian.AppendUint32(out, w)
	}
	return out[:size]
}

func TestMix(t *testing.T) {
	r := rand.New(rand.NewSource(1))
	for range 200 {
		var h [8]uint32
		for i := range h {
			h[i] = r.Uint32()
		}
		b := make([]byte, 64)
		r.Read(b)
		n := r.Uint64() >> r.Intn(64)
		old := bytes.Clone(b)
		for last := range 2 {
			got, e := digest.Mix(h, b, n, last)
			if e != api.OK || got != plainMix(h, b, n, last == 1) || !bytes.Equal(b, old) {
				t.Fatalf("Mix(%x, %x, %d, %d): %x, %v", h, b, n, last, got, e)
			}
		}
	}
	for _, c := range []struct{ size, last int }{{0, 0}, {63, 0}, {65, 1}, {128, 0}, {64, 2}, {64, -1}} {
		if h, e := digest.Mix([8]uint32{1}, make([]byte, c.size), 0, c.last); e != api.ErrArg || h != [8]uint32{} {
			t.Errorf("%v: %v, %v", c, h, e)
		}
	}
}

func TestBegin(t *testing.T) {
	for size := 1; size <= 32; size++ {
		s, e := digest.Begin(size)
		want := api.Digest{H: [8]uint32{0x6a09e667 ^ 0x01010000 ^ uint32(size), 0xbb67ae85, 0x3c6ef372, 0xa54ff53a, 0x510e527f, 0x9b05688c, 0x1f83d9ab, 0x5be0cd19}, Size: size}
		if e != api.OK || s.H != want.H || s.N != 0 || s.Size != size || len(s.Rest) != 0 {
			t.Errorf("%d: %v, %v", size, s, e)
		}
	}
	for _, size := range []int{0, -1, 33, math.MaxInt, math.MinInt} {
		if s, e := digest.Begin(size); e != api.ErrArg || !reflect.DeepEqual(s, api.Digest{}) {
			t.Errorf("%d: %v, %v", size, s, e)
		}
		if b, e := digest.Of(size, []byte("x")); e != api.ErrArg || len(b) != 0 {
			t.Errorf("%d: %v, %v", size, b, e)
		}
		if b := digest.Sum(api.Digest{Size: size}); len(b) != 0 {
			t.Errorf("Sum of size %d: %v", size, b)
		}
	}
}

func TestKnown(t *testing.T) {
	for in, want := range map[string]string{"abc": "508c5e8c327c14e2e1a72ba34eeb452f37458b209ed63a294d999b4c86675982",
		"": "69217a3079908094e11121d042354a7c1f55b6482ca1a51e1b250dfd1ed0eef9"} {
		if b, e := digest.Of(32, []byte(in)); e != api.OK || hex.EncodeToString(b) != want {
			t.Errorf("%q: %x, %v", in, b, e)
		}
	}
}

func TestWholeAndParts(t *testing.T) {
	r := rand.New(rand.NewSource(2))
	for _, n := range []int{0, 1, 3, 63, 64, 65, 127, 128, 129, 191, 192, 193, 300} {
		b := counting(n)
		for _, size := range []int{1, 16, 20, 31, 32} {
			want := plainOf(size, b)
			if got, e := digest.Of(size, b); e != api.OK || !bytes.Equal(got, want) {
				t.Fatalf("Of(%d) of %d bytes: %x, %v", size, n, got, e)
			}
			for range 10 {
				s, _ := digest.Begin(size)
				var parts [][]byte
				for rest := b; len(rest) > 0; {
					k := r.Intn(len(rest) + 1)
					parts = append(parts, rest[:k])
					s = digest.Write(s, rest[:k])
					rest = rest[k:]
				}
				if got := digest.Sum(s); !bytes.Equal(got, want) {
					t.Fatalf("parts of %d bytes: %x", n, got)
				}
				if got, _ := digest.Of(size, parts...); !bytes.Equal(got, want) {
					t.Fatalf("Of parts of %d bytes: %x", n, got)
				}
			}
		}
		short := digest.Short(b[:n/2], b[n/2:])
		if !bytes.Equal(short[:], plainOf(16, b)) {
			t.Errorf("Short of %d bytes: %x", n, short)
		}
	}
	if short := digest.Short(); !bytes.Equal(short[:], plainOf(16, nil)) {
		t.Errorf("Short of nothing: %x", short)
	}
}

func TestHeldBack(t *testing.T) {
	for n, want := range map[int][2]int{0: {0, 0}, 1: {0, 1}, 64: {0, 64}, 65: {64, 1}, 128: {64, 64}, 129: {128, 1}, 300: {256, 44}} {
		s, _ := digest.Begin(16)
		begun := s.H
		s = digest.Write(s, counting(n))
		if s.N != uint64(want[0]) || len(s.Rest) != want[1] || s.Size != 16 || (s.H == begun) != (want[0] == 0) {
			t.Errorf("%d bytes: %d, %d", n, s.N, len(s.Rest))
		}
		if !bytes.Equal(s.Rest, counting(n)[want[0]:]) {
			t.Errorf("%d bytes: Rest %v", n, s.Rest)
		}
	}
}

func TestAnyFields(t *testing.T) {
	h := [8]uint32{1, 2, 3, 4, 5, 6, 7, 8}
	b := counting(150)
	s := api.Digest{H: h, Rest: b, N: math.MaxUint64 - 63, Size: 99}
	h1 := plainMix(h, b[:64], 0, false)
	h2 := plainMix(h1, b[64:128], 64, false)
	if w := digest.Write(s, nil); w.H != h2 || w.N != 64 || len(w.Rest) != 22 || w.Size != 99 {
		t.Errorf("%v", w)
	}
	s.Size = 32
	h3 := plainMix(h2, append(bytes.Clone(b[128:]), make([]byte, 42)...), 64+22, true)
	var want []byte
	for _, w := range h3 {
		want = binary.LittleEndian.AppendUint32(want, w)
	}
	if got := digest.Sum(s); !bytes.Equal(got, want) {
		t.Errorf("%x, not %x", got, want)
	}
	wrap := api.Digest{H: h, Rest: b[:10], N: math.MaxUint64 - 4, Size: 32}
	h4 := plainMix(h, append(bytes.Clone(b[:10]), make([]byte, 54)...), 5, true)
	if got := digest.Sum(wrap); binary.LittleEndian.Uint32(got) != h4[0] {
		t.Error("the byte count does not wrap")
	}
}

func TestArgumentsAreKept(t *testing.T) {
	s, _ := digest.Begin(16)
	roomy := make([]byte, 10, 200)
	s.Rest = roomy
	b := []byte{1, 2, 3}
	one := digest.Write(s, b)
	two := digest.Write(s, []byte{4, 5, 6})
	b[0] = 99
	if !bytes.Equal(one.Rest, append(make([]byte, 10), 1, 2, 3)) || !bytes.Equal(two.Rest, append(make([]byte, 10), 4, 5, 6)) {
		t.Errorf("%v, %v", one.Rest, two.Rest)
	}
	if !bytes.Equal(roomy[:200], make([]byte, 200)) || len(s.Rest) != 10 {
		t.Error("Write writes to its argument")
	}
	one.Rest[0] = 7
	if roomy[0] != 0 {
		t.Error("Write shares")
	}
	none := digest.Write(s, nil)
	none.Rest[0] = 7
	if roomy[0] != 0 {
		t.Error("Write of nothing shares")
	}
	sum := digest.Sum(two)
	sum[0]++
	if bytes.Equal(sum, digest.Sum(two)) || len(two.Rest) != 13 {
		t.Error("Sum shares")
	}
	parts := [][]byte{make([]byte, 2, 9), {5}}
	digest.Of(16, parts...)
	if parts[0][:3][2] != 0 {
		t.Error("Of writes to spare capacity")
	}
}

func TestSizesDiffer(t *testing.T) {
	seen := map[[8]uint32]int{}
	for size := 1; size <= 32; size++ {
		s, _ := digest.Begin(size)
		s = digest.Write(s, counting(64))
		if other := seen[s.H]; other != 0 {
			t.Errorf("%d begins as %d", size, other)
		}
		seen[s.H] = size
	}
	long, _ := digest.Of(32, []byte("x"))
	short, _ := digest.Of(16, []byte("x"))
	if bytes.HasPrefix(long, short) {
		t.Error("a digest is a prefix of a longer one")
	}
}

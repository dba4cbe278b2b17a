package rev_test

import (
	"encoding/binary"
	"math"
	"math/rand"
	"strings"
	"testing"

	"tidewrack/api"
	"tidewrack/digest"
	"tidewrack/rev"
	"tidewrack/value"
)

func named(gen uint64, sum ...byte) api.Rev {
	r := api.Rev{Gen: gen}
	copy(r.Sum[:], sum)
	return r
}

func TestMay(t *testing.T) {
	for gen, want := range map[uint64]bool{0: false, 1: true, 2: true, 1<<62 - 1: true, 1 << 62: false, math.MaxUint64: false} {
		if rev.May(named(gen)) != want || rev.May(named(gen, 7)) != want {
			t.Errorf("%d", gen)
		}
	}
}

func TestMake(t *testing.T) {
	for _, text := range []string{"null", "true", `{"a":[1,"x"]}`, `"` + strings.Repeat("y", 510) + `"`} {
		body, _ := value.Parse(text)
		for _, parent := range []api.Rev{{}, named(1, 5), named(0x0102030405060708, 1, 2, 3), named(api.MaxCount-1, 9)} {
			for deleted := range 2 {
				r, e := rev.Make(parent, deleted, body)
				gen := binary.BigEndian.AppendUint64(nil, parent.Gen)
				want := digest.Short([]byte{byte(deleted)}, gen, parent.Sum[:], []byte(text))
				if e != api.OK || r.Gen != parent.Gen+1 || r.Sum != want {
					t.Errorf("%v, %d, %s: %v, %v", parent, deleted, text, r, e)
				}
			}
		}
	}
	bad := value.Text("\n")
	for name, c := range map[string]struct {
		parent  api.Rev
		deleted int
		body    api.Value
		want    api.Errno
	}{"parent without a generation": {named(0, 1), 0, api.Value{}, api.ErrArg}, "generation too great": {named(api.MaxCount + 1), 0, api.Value{}, api.ErrArg},
		"deleted 2": {api.Rev{}, 2, api.Value{}, api.ErrArg}, "deleted -1": {api.Rev{}, -1, api.Value{}, api.ErrArg}, "deleted 256": {api.Rev{}, 256, api.Value{}, api.ErrArg},
		"bad body": {api.Rev{}, 0, bad, api.ErrArg}, "spent": {named(api.MaxCount), 0, api.Value{}, api.ErrSpent},
		"spent, and a bad body": {named(api.MaxCount), 0, bad, api.ErrArg}, "spent, and deleted 2": {named(api.MaxCount), 2, api.Value{}, api.ErrArg}} {
		if r, e := rev.Make(c.parent, c.deleted, c.body); e != c.want || r != (api.Rev{}) {
			t.Errorf("%s: %v, %v", name, r, e)
		}
	}
	body, _ := value.Parse(`{"a":[1]}`)
	rev.Make(api.Rev{}, 0, body)
	if s, _ := value.Print(body); s != `{"a":[1]}` {
		t.Error("Make changes the body")
	}
}

func TestOneName(t *testing.T) {
	seen := map[api.Rev]bool{}
	for _, parent := range []api.Rev{{}, named(1), named(1, 1), named(2), named(256)} {
		for deleted := range 2 {
			for _, text := range []string{"null", "true", "false", "1", "11", `"1"`, "[]", "{}"} {
				body, _ := value.Parse(text)
				r, _ := rev.Make(parent, deleted, body)
				again, _ := rev.Make(parent, deleted, body)
				if seen[r] || r != again || r.Gen != parent.Gen+1 {
					t.Errorf("%v, %d, %s", parent, deleted, text)
				}
				seen[r] = true
			}
		}
	}
}

func TestCmp(t *testing.T) {
	high := named(1)
	high.Sum[15] = 1
	l := []api.Rev{{}, named(0, 1), named(1), high, named(1, 0, 255), named(1, 1), named(1, 2), named(1, 255), named(2), named(256), named(1 << 62), named(math.MaxUint64)}
	for i, a := range l {
		for k, b := range l {
			want := 0
			if i < k {
				want = -1
			} else if i > k {
				want = 1
			}
			if c := rev.Cmp(a, b); c != want {
				t.Errorf("%v, %v: %d", a, b, c)
			}
		}
	}
}

func TestPrintParse(t *testing.T) {
	zeros := strings.Repeat("0", 32)
	if s, e := rev.Print(named(2)); s != "2-"+zeros || e != api.OK {
		t.Errorf("%q, %v", s, e)
	}
	if s, e := rev.Print(named(api.MaxCount, 0x0f, 0xa9)); s != "4611686018427387903-0fa9"+zeros[4:] || e != api.OK {
		t.Errorf("%q, %v", s, e)
	}
	for _, r := range []api.Rev{{}, named(0, 1), named(api.MaxCount + 1)} {
		if s, e := rev.Print(r); s != "" || e != api.ErrArg {
			t.Errorf("%v: %q, %v", r, s, e)
		}
	}
	for _, s := range []string{"", "-", "2-", "2", "-" + zeros, "0-" + zeros, "02-" + zeros, "+2-" + zeros, " 2-" + zeros, "2 -" + zeros, "2--" + zeros[1:], "2-" + zeros[1:], "2-" + zeros + "0",
		"2-" + zeros[1:] + "g", "2-" + zeros[1:] + "A", "2-" + zeros[1:] + " ", "2-" + zeros[1:] + "-", "4611686018427387904-" + zeros, "18446744073709551618-" + zeros, "1_0-" + zeros, "0x2-" + zeros, "2" + zeros, "-2-" + zeros, "2-" + zeros + "\n"} {
		if r, e := rev.Parse(s); e != api.ErrForm || r != (api.Rev{}) {
			t.Errorf("%q: %v, %v", s, r, e)
		}
	}
	r := rand.New(rand.NewSource(1))
	for range 500 {
		x := named(r.Uint64()>>(2+r.Intn(62)) + 1)
		r.Read(x.Sum[:])
		s, e := rev.Print(x)
		y, f := rev.Parse(s)
		if !rev.May(x) {
			continue
		}
		if e != api.OK || f != api.OK || x != y {
			t.Fatalf("%v: %q, %v", x, s, y)
		}
		b := []byte(s)
		b[r.Intn(len(b))] = "0123456789abcdefABgx-+ "[r.Intn(23)]
		if y, e = rev.Parse(string(b)); e == api.OK {
			if p, _ := rev.Print(y); p != string(b) {
				t.Fatalf("%q is read as %v", b, y)
			}
		}
	}
}

func TestChain(t *testing.T) {
	var l []api.Rev
	for gen := uint64(17); gen >= 1; gen-- {
		l = append(l, named(gen, byte(gen)))
	}
	for n := 1; n <= 16; n++ {
		if !rev.Chain(l[:n]...) || !rev.Chain(l[17-n:]...) {
			t.Errorf("%d names", n)
		}
	}
	for name, l := range map[string][]api.Rev{"none": nil, "17": l, "rising": {named(1), named(2)}, "equal": {named(2), named(2)}, "a gap": {named(3), named(1)},
		"the zero name": {{}}, "ending in the zero name": {named(1), {}}, "too great": {named(api.MaxCount + 1)}, "too great, then valid": {named(api.MaxCount + 1), named(api.MaxCount)}} {
		if rev.Chain(l...) {
			t.Errorf("%s: a chain", name)
		}
	}
	if !rev.Chain(named(api.MaxCount), named(api.MaxCount-1)) {
		t.Error("great generations")
	}
}

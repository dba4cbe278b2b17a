package net_test

import (
	"fmt"
	"math/rand"
	"slices"
	"testing"

	"tidewrack/api"
	"tidewrack/net"
)

func made(t *testing.T, replicas int) *net.Net {
	t.Helper()
	n, e := net.New(replicas)
	if e != api.OK || n == nil {
		t.Fatalf("New(%d): %v", replicas, e)
	}
	return n
}

func sent(t *testing.T, n *net.Net, from, to int, s string, id uint64, want api.Errno) {
	t.Helper()
	if got, e := n.Send(from, to, []byte(s)); got != id || e != want {
		t.Errorf("Send(%d, %d): %d, %v, not %d, %v", from, to, got, e, id, want)
	}
}

func delivered(t *testing.T, n *net.Net, id uint64, from, to int, s string, want api.Errno) {
	t.Helper()
	m, e := n.At(id)
	if m.From != from || m.To != to || string(m.Bytes) != s || e != want {
		t.Errorf("At(%d): %v, %v", id, m, e)
	}
	m, e = n.Deliver(id)
	if m.From != from || m.To != to || string(m.Bytes) != s || e != want {
		t.Errorf("Deliver(%d): %v, %v", id, m, e)
	}
}

func TestNew(t *testing.T) {
	for _, k := range []int{0, -1, 5, 100} {
		if n, e := net.New(k); n != nil || e != api.ErrArg {
			t.Errorf("%d: %v", k, e)
		}
	}
	for k := 1; k <= 4; k++ {
		if n := made(t, k); n.Replicas() != k || n.Count() != 0 || len(n.Letters()) != 0 {
			t.Errorf("%d", k)
		}
	}
}

func TestExamples(t *testing.T) {
	n := made(t, 3)
	sent(t, n, 1, 2, "a", 1, api.OK)
	sent(t, n, 2, 1, "b", 2, api.OK)
	if id, e := n.Double(1); id != 3 || e != api.OK || n.Count() != 3 {
		t.Errorf("%d, %v", id, e)
	}
	if l := n.Letters(); !slices.Equal(l, []api.Letter{{Id: 1, From: 1, To: 2, Size: 1}, {Id: 2, From: 2, To: 1, Size: 1}, {Id: 3, From: 1, To: 2, Size: 1}}) {
		t.Errorf("%v", l)
	}
	delivered(t, n, 3, 1, 2, "a", api.OK)
	delivered(t, n, 1, 1, 2, "a", api.OK)
	delivered(t, n, 1, 0, 0, "", api.ErrNone)
	if l := n.Letters(); len(l) != 1 || l[0].Id != 2 {
		t.Errorf("%v", l)
	}
	sent(t, n, 3, 1, "", 4, api.OK)
	sent(t, n, 1, 1, "", 0, api.ErrArg)
	sent(t, n, 1, 4, "", 0, api.ErrArg)
}

func TestErrors(t *testing.T) {
	n := made(t, 2)
	long := string(make([]byte, api.MaxFrame+1))
	for _, c := range [][2]int{{0, 1}, {1, 0}, {3, 1}, {1, 3}, {-1, 2}, {2, 2}, {1 << 40, 1}} {
		sent(t, n, c[0], c[1], long, 0, api.ErrArg)
	}
	sent(t, n, 1, 2, long, 0, api.ErrLong)
	sent(t, n, 1, 2, long[1:], 1, api.OK)
	for id := uint64(2); id <= 32; id++ {
		sent(t, n, 1, 2, "x", id, api.OK)
	}
	sent(t, n, 1, 2, "x", 0, api.ErrFull)
	sent(t, n, 1, 2, long, 0, api.ErrLong)
	if id, e := n.Double(5); id != 0 || e != api.ErrFull {
		t.Errorf("%d, %v", id, e)
	}
	if id, e := n.Double(99); id != 0 || e != api.ErrNone {
		t.Errorf("%d, %v", id, e)
	}
	sent(t, n, 2, 1, "y", 33, api.OK)
	if e := n.Drop(7); e != api.OK || n.Count() != 32 {
		t.Errorf("%v", e)
	}
	if e := n.Drop(7); e != api.ErrNone {
		t.Errorf("%v", e)
	}
	if id, e := n.Double(5); id != 34 || e != api.OK {
		t.Errorf("%d, %v", id, e)
	}
	sent(t, n, 1, 2, "x", 0, api.ErrFull)
	delivered(t, n, 0, 0, 0, "", api.ErrNone)
	if m, e := n.Deliver(34); e != api.OK || string(m.Bytes) != "x" {
		t.Errorf("%v", e)
	}
	sent(t, n, 1, 2, "x", 35, api.OK)
}

func TestNoNet(t *testing.T) {
	var none *net.Net
	for _, n := range []*net.Net{none, {}} {
		sent(t, n, 1, 2, string(make([]byte, api.MaxFrame+1)), 0, api.ErrArg)
		delivered(t, n, 1, 0, 0, "", api.ErrNone)
		if id, e := n.Double(1); id != 0 || e != api.ErrNone {
			t.Errorf("Double: %v", e)
		}
		if e := n.Drop(1); e != api.ErrNone {
			t.Errorf("Drop: %v", e)
		}
		if n.Replicas() != 0 || n.Count() != 0 || len(n.Letters()) != 0 || n.Copy() != nil {
			t.Error("a net that New did not make")
		}
	}
}

func TestCopyAndSharing(t *testing.T) {
	n := made(t, 3)
	b := []byte("abc")
	n.Send(1, 2, b)
	b[0] = 'x'
	m, _ := n.At(1)
	m.Bytes[1] = 'x'
	n.Letters()[0].Size = 9
	n.Double(1)
	c := n.Copy()
	m, _ = n.Deliver(1)
	m.Bytes[2] = 'x'
	if n.Count() != 1 || c.Count() != 2 || c.Replicas() != 3 {
		t.Error("Copy is not independent")
	}
	sent(t, n, 1, 3, "n", 3, api.OK)
	sent(t, c, 1, 3, "c", 3, api.OK)
	delivered(t, c, 3, 1, 3, "c", api.OK)
	delivered(t, n, 3, 1, 3, "n", api.OK)
	delivered(t, n, 2, 1, 2, "abc", api.OK)
	delivered(t, c, 1, 1, 2, "abc", api.OK)
	c.Drop(2)
	for id := uint64(4); id < 4+32; id++ {
		sent(t, c, 1, 2, "z", id, api.OK)
	}
	sent(t, c, 1, 2, "z", 0, api.ErrFull)
	sent(t, n, 1, 2, "z", 4, api.OK)
}

// TestAnyOrder compares a net with a plain list.
func TestAnyOrder(t *testing.T) {
	r := rand.New(rand.NewSource(1))
	for range 50 {
		n := made(t, 4)
		type message struct {
			from, to int
			s        string
		}
		transit := map[uint64]message{}
		last := uint64(0)
		for i := range 400 {
			from, to := 1+r.Intn(4), 1+r.Intn(2)
			room := func(m message) bool {
				k := 0
				for _, x := range transit {
					if x.from == m.from && x.to == m.to {
						k++
					}
				}
				return k < api.MaxLink
			}
			id := uint64(r.Intn(int(last) + 2))
			m, there := transit[id]
			switch r.Intn(9) {
			case 0:
				got, e := n.Deliver(id)
				if (e == api.OK) != there || there && (got.From != m.from || got.To != m.to || string(got.Bytes) != m.s) {
					t.Fatalf("Deliver(%d): %v, %v", id, got, e)
				}
				delete(transit, id)
			case 1:
				if e := n.Drop(id); (e == api.OK) != there {
					t.Fatal(e)
				}
				delete(transit, id)
			case 2:
				fits := there && room(m)
				got, e := n.Double(id)
				if (e == api.OK) != fits || !there && e != api.ErrNone || there && !fits && e != api.ErrFull {
					t.Fatal(e)
				}
				if fits {
					last++
					if got != last {
						t.Fatal("the next number")
					}
					transit[last] = m
				}
			default:
				x := message{from, to, fmt.Sprint(i)}
				got, e := n.Send(from, to, []byte(x.s))
				if from == to && e == api.ErrArg || e == api.ErrFull && !room(x) {
					continue
				}
				if last++; e != api.OK || got != last || !room(x) {
					t.Fatal(e)
				}
				transit[last] = x
			}
			if n.Count() != len(transit) {
				t.Fatal("Count")
			}
		}
		l := n.Letters()
		for i, x := range l {
			if m := transit[x.Id]; m.from != x.From || m.to != x.To || len(m.s) != x.Size || i > 0 && l[i-1].Id >= x.Id {
				t.Fatalf("%v", x)
			}
		}
		if len(l) != len(transit) {
			t.Fatal("Letters")
		}
	}
}

package keys_test

import (
	"fmt"
	"iter"
	"maps"
	"math"
	"math/rand"
	"slices"
	"strings"
	"testing"

	"tidewrack/keys"
)

func scanned[T any](s iter.Seq2[string, T]) string {
	out := []string{}
	for k, v := range s {
		out = append(out, fmt.Sprint(k, " ", v))
	}
	return strings.Join(out, ", ")
}

func of(l ...any) *keys.Index[int] {
	x := keys.New[int]()
	for i := 0; i < len(l); i += 2 {
		x.Set(l[i].(string), l[i+1].(int))
	}
	return x
}

func TestExamples(t *testing.T) {
	x := keys.New[int]()
	if x.Len() != 0 || len(x.Keys()) != 0 {
		t.Error("New is not empty")
	}
	if !x.Set("b", 2) || !x.Set("a", 1) || x.Set("b", 3) {
		t.Error("Set")
	}
	if v, ok := x.Get("b"); v != 3 || !ok || !slices.Equal(x.Keys(), []string{"a", "b"}) || x.Len() != 2 {
		t.Errorf("%d, %v, %v", v, ok, x.Keys())
	}
	if v, ok := x.Get("c"); v != 0 || ok {
		t.Errorf("%d, %v", v, ok)
	}
	if k, ok := x.First("aa"); k != "b" || !ok {
		t.Errorf("%q, %v", k, ok)
	}
	if s := scanned(x.Scan("a", "b")); s != "a 1" {
		t.Errorf("%s", s)
	}
	if s := scanned(keys.Merge(of("a", 1, "c", 3), of("a", 7, "b", 2))); s != "a 1, b 2, c 3" {
		t.Errorf("%s", s)
	}
	if !x.Delete("a") || x.Delete("a") || x.Delete("q") || x.Len() != 1 {
		t.Error("Delete")
	}
}

func TestFirstAndScan(t *testing.T) {
	x := of("", 0, "a", 1, "ab", 2, "b", 3, "é", 4)
	for from, want := range map[string]string{"": "", "a": "a", "aa": "ab", "ab": "ab", "abc": "b", "c": "é", "é": "é"} {
		if k, ok := x.First(from); k != want || !ok {
			t.Errorf("First(%q): %q, %v", from, k, ok)
		}
	}
	if k, ok := x.First("ê"); k != "" || ok {
		t.Errorf("%q, %v", k, ok)
	}
	for _, c := range []struct{ from, to, want string }{{"", "", " 0, a 1, ab 2, b 3, é 4"}, {"a", "", "a 1, ab 2, b 3, é 4"}, {"", "a", " 0"}, {"a", "b", "a 1, ab 2"}, {"aa", "aaa", ""}, {"aa", "abc", "ab 2"}, {"b", "a", ""}, {"b", "b", ""}, {"z", "", "é 4"}, {"ê", "", ""}, {"ê", "ë", ""}} {
		if s := scanned(x.Scan(c.from, c.to)); s != c.want {
			t.Errorf("Scan(%q, %q): %s", c.from, c.to, s)
		}
	}
}

func TestNumber(t *testing.T) {
	for n, want := range map[int]string{42: "0000000042", 0: "0000000000", -1: "0000000000", math.MinInt: "0000000000", 9_999_999_999: "9999999999", 9_999_999_998: "9999999998", 10_000_000_000: "9999999999", math.MaxInt: "9999999999", 1_000_000_000: "1000000000"} {
		if s := keys.Number(n); s != want {
			t.Errorf("%d: %s", n, s)
		}
	}
}

func TestNilAndZero(t *testing.T) {
	var none *keys.Index[int]
	if _, ok := none.Get("a"); ok || none.Set("a", 1) || none.Delete("a") || none.Len() != 0 || len(none.Keys()) != 0 || none.Copy() != nil || scanned(none.Scan("", "")) != "" {
		t.Error("a nil index is not empty")
	}
	if k, ok := none.First(""); k != "" || ok {
		t.Error("First of a nil index")
	}
	var zero keys.Index[int]
	if zero.Len() != 0 || !zero.Set("a", 1) || zero.Len() != 1 || scanned(zero.Scan("", "")) != "a 1" {
		t.Error("a zero index does not work")
	}
	if s := scanned(keys.Merge(none, &zero, nil)); s != "a 1" {
		t.Errorf("%s", s)
	}
	if s := scanned(keys.Merge(of("", 1, "a", 2), of("", 3))); s != " 1, a 2" {
		t.Errorf("%s", s)
	}
	if s := scanned(keys.Merge[int]()); s != "" {
		t.Errorf("%s", s)
	}
}

func TestContentsAtTheBeginning(t *testing.T) {
	x, y := of("a", 1, "b", 2, "c", 3), of("d", 4)
	got := ""
	for k, v := range keys.Merge(x, y) {
		got += fmt.Sprint(k, v)
		x.Set("c", 99)
		x.Delete("b")
		y.Set("e", 5)
	}
	if got != "a1b2c3d4" {
		t.Errorf("Merge: %s", got)
	}
	got = ""
	for k, v := range x.Scan("", "") {
		got += fmt.Sprint(k, v)
		x.Set("c", 1)
		x.Set("d", 1)
		x.Delete("a")
	}
	if got != "a1c99" {
		t.Errorf("Scan: %s", got)
	}
	late := x.Scan("", "")
	x.Set("z", 7)
	if s := scanned(late); s != "c 1, d 1, z 7" {
		t.Errorf("Scan is begun by the call: %s", s)
	}
	l := []*keys.Index[int]{of("a", 1)}
	merge := keys.Merge(l...)
	l[0] = of("q", 1)
	if s := scanned(merge); s != "a 1" {
		t.Errorf("Merge retains its arguments: %s", s)
	}
	for range keys.Merge(of("a", 1, "b", 2), of("c", 1)) {
		break
	}
	for range x.Scan("", "") {
		break
	}
}

func TestCopy(t *testing.T) {
	x := of("a", 1)
	y := x.Copy()
	y.Set("a", 2)
	y.Set("b", 3)
	x.Set("c", 4)
	if scanned(x.Scan("", "")) != "a 1, c 4" || scanned(y.Scan("", "")) != "a 2, b 3" {
		t.Error("Copy is not independent")
	}
	k := x.Keys()
	k[0] = "z"
	if x.Keys()[0] != "a" {
		t.Error("Keys shares")
	}
}

func TestAMap(t *testing.T) {
	r := rand.New(rand.NewSource(1))
	for range 100 {
		x, m := keys.New[int](), map[string]int{}
		for i := range r.Intn(60) {
			k := string("abcd"[r.Intn(4)]) + strings.Repeat("x", r.Intn(3))
			_, had := m[k]
			if r.Intn(3) == 0 {
				if x.Delete(k) != had {
					t.Fatal("Delete")
				}
				delete(m, k)
			} else {
				if x.Set(k, i) == had {
					t.Fatal("Set")
				}
				m[k] = i
			}
			v, ok := x.Get(k)
			if w, had := m[k]; v != w || ok != had || x.Len() != len(m) {
				t.Fatal("Get")
			}
		}
		if want := slices.Sorted(maps.Keys(m)); !slices.Equal(x.Keys(), want) || !maps.Equal(maps.Collect(x.Scan("", "")), m) {
			t.Fatalf("%v, not %v", x.Keys(), want)
		}
	}
}

func TestMerging(t *testing.T) {
	r := rand.New(rand.NewSource(2))
	for range 200 {
		var l []*keys.Index[int]
		for i := range r.Intn(5) {
			x := keys.New[int]()
			for range r.Intn(6) {
				x.Set(string("abcdefg"[r.Intn(7)]), i)
			}
			l = append(l, x)
		}
		all := keys.New[int]()
		for _, x := range slices.Backward(l) {
			for k, v := range x.Scan("", "") {
				all.Set(k, v)
			}
		}
		if got, want := scanned(keys.Merge(l...)), scanned(all.Scan("", "")); got != want {
			t.Fatalf("%s, not %s", got, want)
		}
	}
}

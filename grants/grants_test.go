package grants_test

import (
	"math/rand"
	"reflect"
	"slices"
	"testing"

	"tidewrack/api"
	"tidewrack/grants"
)

func doc(id string, channels []string, l ...string) api.Doc {
	d := api.Doc{Id: id, Channels: channels}
	for i := 0; i < len(l); i += 2 {
		d.Grants = append(d.Grants, api.Grant{User: l[i], Channel: l[i+1]})
	}
	return d
}

func state(l ...api.Doc) api.State { return api.State{Docs: l} }

func by(t *testing.T, s api.State, user, id, want string, ok bool) {
	t.Helper()
	c, got := grants.By(s, user, id)
	if c != want || got != ok || grants.Sees(s, user, id) != ok {
		t.Errorf("By(%s, %s): %q, %v", user, id, c, got)
	}
}

func TestExamples(t *testing.T) {
	s := state(doc("a", []string{"c"}, "u", "d"), doc("b", []string{"d"}))
	if !slices.Equal(grants.Of(s, "u"), []string{"d"}) || !slices.Equal(grants.All(s, "u"), []string{"b"}) || !slices.Equal(grants.Users(s), []string{"u"}) {
		t.Errorf("%v, %v", grants.Of(s, "u"), grants.All(s, "u"))
	}
	by(t, s, "u", "b", "d", true)
	by(t, s, "u", "a", "", false)
	by(t, s, "u", "q", "", false)
	by(t, s, "v", "b", "", false)
}

func TestAnyState(t *testing.T) {
	s := state(doc("z", []string{"e", "c", "d"}, "u", "d", "v", "a", "u", "c", "u", "d"), doc("a", []string{"x"}, "t", "x", "u", "b"), doc("m", nil), doc("", []string{""}, "", ""), doc("z", []string{"x", "b"}, "w", "e", "u", "zz"))
	for user, want := range map[string][]string{"u": {"b", "c", "d", "zz"}, "v": {"a"}, "t": {"x"}, "w": {"e"}, "": {""}, "q": nil} {
		if got := grants.Of(s, user); !slices.Equal(got, want) {
			t.Errorf("Of(%q): %v", user, got)
		}
	}
	if got := grants.Users(s); !slices.Equal(got, []string{"", "t", "u", "v", "w"}) {
		t.Errorf("%q", got)
	}
	for user, want := range map[string][]string{"u": {"z"}, "v": nil, "t": {"a"}, "w": {"z"}, "": {""}, "q": nil} {
		if got := grants.All(s, user); !slices.Equal(got, want) {
			t.Errorf("All(%q): %q", user, got)
		}
	}
	by(t, s, "u", "z", "c", true)
	by(t, s, "w", "z", "e", true)
	by(t, s, "", "", "", true)
	by(t, s, "u", "", "", false)
	if len(grants.Of(api.State{}, "u"))+len(grants.Users(api.State{}))+len(grants.All(api.State{}, "u")) != 0 {
		t.Error("the empty state")
	}
}

func TestOrderAndSharing(t *testing.T) {
	s := state(doc("b", []string{"2", "1"}, "u", "2"), doc("a", []string{"1", "2"}, "u", "1"), doc("c", []string{"1"}))
	old := state(doc("b", []string{"2", "1"}, "u", "2"), doc("a", []string{"1", "2"}, "u", "1"), doc("c", []string{"1"}))
	if got := grants.All(s, "u"); !slices.Equal(got, []string{"a", "b", "c"}) {
		t.Errorf("%v", got)
	}
	by(t, s, "u", "b", "1", true)
	grants.Of(s, "u")[0], grants.All(s, "u")[0], grants.Users(s)[0] = "x", "x", "x"
	if !reflect.DeepEqual(s, old) {
		t.Error("the state is modified")
	}
}

func random(r *rand.Rand, id string) api.Doc {
	pick := func(s string) string { return string(s[r.Intn(len(s))]) }
	var channels, l []string
	for range r.Intn(3) {
		channels = append(channels, pick("cdef"))
	}
	for range r.Intn(3) {
		l = append(l, pick("uvw"), pick("cdef"))
	}
	return doc(id, channels, l...)
}

func TestProperties(t *testing.T) {
	r := rand.New(rand.NewSource(1))
	for range 500 {
		var s api.State
		for _, id := range []string{"a", "b", "c", "d"} {
			if r.Intn(4) > 0 {
				s.Docs = append(s.Docs, random(r, id))
			}
		}
		users := grants.Users(s)
		for _, user := range []string{"u", "v", "w"} {
			own, all := grants.Of(s, user), grants.All(s, user)
			if slices.Contains(users, user) != (len(own) > 0) || !slices.IsSorted(own) || len(slices.Compact(slices.Clone(own))) != len(own) {
				t.Fatalf("%v: %v", users, own)
			}
			for _, d := range s.Docs {
				both := slices.DeleteFunc(slices.Clone(d.Channels), func(c string) bool { return !slices.Contains(own, c) })
				want := ""
				if len(both) > 0 {
					want = slices.Min(both)
				}
				by(t, s, user, d.Id, want, len(both) > 0)
				if slices.Contains(all, d.Id) != (len(both) > 0) {
					t.Fatalf("All: %v", all)
				}
			}
			// A document without the user's channels, and without grants to the user, changes nothing.
			more := s
			more.Docs = append(slices.Clone(s.Docs), doc("z", []string{"zz"}, "x", "c", "x", "d"))
			if !slices.Equal(grants.Of(more, user), own) || !slices.Equal(grants.All(more, user), all) {
				t.Fatal("another document matters")
			}
			// A grant more takes nothing away.
			more.Docs = append(slices.Clone(s.Docs), doc("z", nil, user, "c"))
			for _, id := range all {
				if !grants.Sees(more, user, id) {
					t.Fatal("a grant takes away")
				}
			}
		}
	}
}

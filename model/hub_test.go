package model_test

import (
	"fmt"
	"slices"
	"strings"
	"testing"

	"tidewrack/api"
	"tidewrack/batch"
	"tidewrack/doc"
	"tidewrack/model"
	"tidewrack/rev"
	"tidewrack/rule"
	"tidewrack/tree"
	"tidewrack/value"
	"tidewrack/views"
)

// hubOf is the model of a hub with those rules.
func hubOf(t *testing.T, source string) api.Model {
	t.Helper()
	p, _, e := rule.Parse(source)
	if e != api.OK {
		t.Fatal(e)
	}
	return made(t, 60000, api.Hubbing{Rules: p, Users: []string{"u", "v"}, Life: 1})
}

// puts puts a revision on the winner of a document.
func puts(t *testing.T, m api.Model, id, text string) api.Model {
	t.Helper()
	n, _ := doc.Get(m.State, id, none)
	m, _ = does(t, m, api.Doing{Kind: api.DoEdit, Id: id, Rev: n.Rev, Body: body(t, text)}, api.OK)
	return m
}

func copyOf(t *testing.T, id string, parents []api.Rev, deleted int, text string) api.Copy {
	t.Helper()
	parent := none
	if len(parents) > 0 {
		parent = parents[0]
	}
	r, e := rev.Make(parent, deleted, body(t, text))
	if e != api.OK {
		t.Fatal(e)
	}
	return api.Copy{Id: id, Path: append([]api.Rev{r}, parents...), Deleted: deleted, Body: body(t, text)}
}

func forces(t *testing.T, m api.Model, user string, c api.Copy, count int, want api.Errno) api.Model {
	t.Helper()
	next, done := does(t, m, api.Doing{Kind: api.DoForce, User: user, Copy: c}, want)
	if done.Count != count {
		t.Errorf("%s: %d", c.Id, done.Count)
	}
	ask, told := model.Do(m, api.Doing{Kind: api.DoTold, Ask: api.Ask{User: user, Kind: api.AskForce, Copy: c, N: 3}})
	if w := (api.Told{Kind: api.AskForce, N: 3, Life: 1, Why: want, Count: count}); fmt.Sprint(told.Told) != fmt.Sprint(w) || !model.Same(ask, next) {
		t.Errorf("%s: %v", c.Id, told.Told)
	}
	return next
}

// channels are those of a document.
func channels(m api.Model, id string) string {
	d, _ := batch.Find(m.State, id)
	return strings.Join(d.Channels, ",")
}

func TestHubWinners(t *testing.T) {
	m := hubOf(t, `channel chan ; when has old.chan { channel "was" ; }`)
	one, two := copyOf(t, "a", nil, 0, `{"chan":"x"}`), copyOf(t, "a", nil, 0, `{"chan":"y"}`)
	low, high, lowChan, highChan := one, two, "x", "y"
	if rev.Cmp(one.Path[0], two.Path[0]) > 0 {
		low, high, lowChan, highChan = two, one, "y", "x"
	}
	m = forces(t, m, "u", high, 1, api.OK)
	next, _ := does(t, m, api.Doing{Kind: api.DoEdit, Id: "a", Rev: high.Path[0], Body: body(t, `{"chan":"z"}`)}, api.OK)
	if channels(m, "a") != highChan || channels(next, "a") != "was,z" {
		t.Errorf("the winner: %s, %s", channels(m, "a"), channels(next, "a"))
	}
	if kept := forces(t, next, "u", low, 1, api.OK); channels(kept, "a") != "was,z" {
		t.Errorf("a leaf that does not win: %s", channels(kept, "a"))
	}
	m = forces(t, m, "u", low, 1, api.OK)
	m, _ = does(t, m, api.Doing{Kind: api.DoEdit, Id: "a", Rev: high.Path[0], Deleted: 1}, api.OK)
	if channels(m, "a") != lowChan {
		t.Errorf("another leaf wins: %s", channels(m, "a"))
	}
	// The other leaf is rejected by now: the document is in no channel.
	m = hubOf(t, `channel chan ;`)
	m = forces(t, m, "u", low, 1, api.OK)
	m = forces(t, m, "u", high, 1, api.OK)
	m.Made.Rules, _, _ = rule.Parse(`channel chan ; when chan = "` + lowChan + `" { reject ; }`)
	m, _ = does(t, m, api.Doing{Kind: api.DoEdit, Id: "a", Rev: high.Path[0], Deleted: 1}, api.OK)
	if channels(m, "a") != "" {
		t.Errorf("a winner that the rules reject: %s", channels(m, "a"))
	}
}

// TestHubParents: a path that gives a parent to what was cut off changes a document, whose winner is judged again.
func TestHubParents(t *testing.T) {
	m := hubOf(t, `channel chan ; grant user see ; when has old.chan { channel "was" ; }`)
	m = puts(t, m, "g", `{"see":"x","user":"u"}`)
	low := api.Rev{Gen: 1, Sum: [16]byte{1}}
	high := api.Rev{Gen: 2, Sum: [16]byte{2}}
	c := copyOf(t, "a", []api.Rev{high}, 0, `{"chan":"x"}`)
	m = forces(t, m, "u", c, 1, api.OK)
	if channels(m, "a") != "x" {
		t.Errorf("%s", channels(m, "a"))
	}
	c.Path = append(c.Path, low)
	if next := forces(t, m, "u", c, 1, api.OK); channels(next, "a") != "was,x" {
		t.Errorf("%s", channels(next, "a"))
	}
	if next := forces(t, m, "v", c, 1, api.OK); channels(next, "a") != "x" {
		t.Errorf("for who does not see it: %s", channels(next, "a"))
	}
}

func TestHubForce(t *testing.T) {
	m := hubOf(t, `channel chan ; grant user see ; when bad = true { reject ; } when old.lock = true and lock != true { reject ; }`)
	m = puts(t, m, "g", `{"see":"c","user":"u"}`)
	a := copyOf(t, "a", nil, 0, `{"chan":"c","lock":true}`)
	forces(t, m, "x", a, 0, api.ErrForbidden)
	forces(t, m, "x", api.Copy{}, 0, api.ErrForbidden)
	forces(t, m, "u", api.Copy{}, 0, api.ErrArg)
	forces(t, m, "u", copyOf(t, "q", nil, 0, `{"bad":true}`), 0, api.ErrReject)
	m = forces(t, m, "u", a, 1, api.OK)
	if again := forces(t, m, "u", a, 0, api.OK); !model.Same(m, again) {
		t.Error("what is there is written")
	}
	if again := forces(t, m, "v", a, 1, api.OK); !model.Same(m, again) {
		t.Error("what is there, but not seen, is written")
	}
	free := copyOf(t, "a", a.Path, 0, `{"chan":"c"}`)
	forces(t, m, "u", free, 0, api.ErrReject)
	if next := forces(t, m, "v", free, 1, api.OK); next.State.Seq != m.State.Seq+1 {
		t.Error("for who does not see it the old body does not count")
	}
	for i := range api.MaxLeaves - 1 {
		m = forces(t, m, "u", copyOf(t, "a", nil, 0, fmt.Sprintf(`{"chan":"c","lock":true,"n":%d}`, i)), 1, api.OK)
	}
	forces(t, m, "u", copyOf(t, "a", nil, 0, `{"chan":"c","lock":true,"n":99}`), 0, api.ErrFull)
	for i := range api.MaxDocs - 2 {
		m = puts(t, m, fmt.Sprint("n", i), "1")
	}
	forces(t, m, "u", copyOf(t, "z", nil, 0, "1"), 0, api.ErrFull)
	m.State.Seq = api.MaxCount
	forces(t, m, "u", copyOf(t, "n1", nil, 0, "5"), 0, api.ErrSpent)
	does(t, m, api.Doing{Kind: api.DoPurge, Id: "g"}, api.ErrSpent)
	does(t, m, api.Doing{Kind: api.DoPurge, Id: "q"}, api.ErrNone)
	m.State.Seq--
	m, _ = does(t, m, api.Doing{Kind: api.DoPurge, Id: "g"}, api.OK)
	if x, ok := views.Told(m.State, "u", "a"); !ok || x.Gone != 1 || x.Seq != api.MaxCount || x.Channel != "c" || m.State.Seq != api.MaxCount {
		t.Errorf("%v", x)
	}
}

func TestHubCheckpoints(t *testing.T) {
	m := hubOf(t, `channel chan ; grant user see ;`)
	m = puts(t, m, "g", `{"see":"c","user":"u"}`)
	m = puts(t, m, "a", `{"chan":"c"}`)
	m = puts(t, m, "b", `{"chan":"d"}`)
	check := func(m api.Model, session string) uint64 {
		_, done := model.Do(m, api.Doing{Kind: api.DoTold, Ask: api.Ask{User: "u", Kind: api.AskCheck, Session: session}})
		return done.Told.Seq
	}
	set := func(m api.Model, session string, seq uint64, push int, life uint64, want api.Errno) api.Model {
		t.Helper()
		next, done := model.Do(m, api.Doing{Kind: api.DoTold, Ask: api.Ask{User: "u", Kind: api.AskSet, Session: session, Seq: seq, Push: push, Life: life}})
		if done.Why != api.OK || done.Told.Why != want || want != api.OK && !model.Same(m, next) {
			t.Errorf("%s at %d: %v", session, seq, done)
		}
		return next
	}
	set(m, "s", 1, 0, 2, api.ErrState)
	set(m, "life", 1, 0, 2, api.ErrState)
	set(m, "life", 0, 0, 1, api.ErrArg)
	set(m, "life", 0, 1, 1, api.ErrArg)
	set(m, "s", 3, 0, 1, api.ErrArg)
	set(m, "", 1, 0, 1, api.ErrArg)
	m = set(m, "s", 2, 0, 1, api.OK)
	m = set(m, "p", 99, 1, 1, api.OK)
	set(m, "life", 0, 0, 1, api.ErrArg)
	set(m, "life", 1, 1, 1, api.ErrArg)
	if want := []api.Local{{Id: "life", Seq: 1}, {Id: "p", Seq: 99}, {Id: "s", Seq: 2}}; !slices.Equal(m.State.Locals, want) || check(m, "s") != 2 || check(m, "p") != 99 || check(m, "q") != 0 {
		t.Errorf("%v", m.State.Locals)
	}
	m = model.Again(m, 2)
	if check(m, "s") != 0 || check(m, "life") != 0 {
		t.Error("checkpoints of a previous life")
	}
	set(m, "s", 1, 0, 1, api.ErrState)
	m = set(m, "a", 1, 0, 2, api.OK)
	if want := []api.Local{{Id: "a", Seq: 1}, {Id: "life", Seq: 2}}; !slices.Equal(m.State.Locals, want) || check(m, "a") != 1 || check(m, "p") != 0 {
		t.Errorf("%v", m.State.Locals)
	}
	m = set(m, "z", 1, 0, 2, api.OK)
	if len(m.State.Locals) != 3 {
		t.Errorf("%v", m.State.Locals)
	}
}

func TestHubsThatMayBe(t *testing.T) {
	h := hubbing(t)
	h.Users, h.Life = []string{"a", "b", "c", "d"}, api.MaxCount
	m := made(t, 100, h)
	h.Users[0] = "x"
	if m.Made.Users[0] != "a" {
		t.Error("the users are shared")
	}
	w := func(revs ...api.Rev) []api.Want { return []api.Want{{Id: "a", Revs: revs}} }
	lists := [][]api.Want{w(), {{Id: "b"}}, w(api.Rev{Gen: 1}), w(api.Rev{Gen: 2})}
	for i, x := range lists {
		for k, y := range lists {
			if model.SameDone(api.Done{Told: api.Told{Wants: x}}, api.Done{Told: api.Told{Wants: y}}) != (i == k) {
				t.Errorf("wants %d, %d", i, k)
			}
		}
	}
	if _, done := model.Do(made(t, 100, api.Hubbing{}), api.Doing{Kind: api.DoMark, Id: "a"}); done.Why != api.ErrNone {
		t.Errorf("%v", done)
	}
}

func long(c byte) string { return strings.Repeat(string(c), api.MaxKey) }

// TestLong: so many users are told of so many documents that the record is too long.
func TestLong(t *testing.T) {
	p, _, e := rule.Parse(`channel chans ; grant who chans ;`)
	if e != api.OK {
		t.Fatal(e)
	}
	users := []string{long('a'), long('b'), long('c'), long('d')}
	m := made(t, 60000, api.Hubbing{Rules: p, Users: users, Life: 1})
	const late = 1 << 61
	m.State.Seq = late + 100
	var l []api.Doc
	for i := range api.MaxDocs {
		id := fmt.Sprintf("%s%02d", long('n')[2:], i)
		var x api.Tree
		leaves := 1
		if i == 0 {
			leaves = api.MaxLeaves
		}
		for k := range leaves {
			v := value.Text(strings.Repeat("t", 500) + string(rune('a'+k)))
			path := []api.Rev{{Gen: late + 2, Sum: [16]byte{byte(k)}}, {Gen: late + 1, Sum: [16]byte{byte(k)}}, {Gen: late, Sum: [16]byte{byte(k)}}}[2*min(i, 1):]
			if leaves > 1 && k == 0 {
				path = path[:2] // so that there is room for one more
			}
			r, _ := rev.Make(path[0], 0, v)
			if x, _, e = tree.Insert(x, append([]api.Rev{r}, path...), 0, v); e != api.OK {
				t.Fatal(e)
			}
		}
		d := api.Doc{Id: id, Seq: late + uint64(i), Tree: x, Channels: []string{long('k')}}
		if i == 0 {
			for _, user := range users {
				d.Grants = append(d.Grants, api.Grant{User: user, Channel: long('k')})
			}
		}
		l = append(l, d)
		for _, user := range users {
			n, _ := tree.Winner(x)
			m.State.Seens = append(m.State.Seens, api.Seen{User: user, Doc: id, Seq: late + uint64(i), Rev: n.Rev})
		}
	}
	m.State.Docs = l
	slices.SortFunc(m.State.Seens, func(a, b api.Seen) int { return strings.Compare(a.User+a.Doc, b.User+b.Doc) })
	if !batch.MayState(m.State) {
		t.Fatal("the state is not valid")
	}
	n, _ := tree.Winner(l[0].Tree)
	var chans, who []string
	for i := range 8 {
		chans = append(chans, fmt.Sprintf(`"%s%d"`, long('q')[1:], i))
	}
	for i := range 2 {
		who = append(who, fmt.Sprintf(`"%s%d"`, long('w')[1:], i))
	}
	text := `{"chans":[` + strings.Join(chans, ",") + `],"who":[` + strings.Join(who, ",") + `]}`
	d := api.Doing{Kind: api.DoEdit, Id: l[0].Id, Rev: n.Rev, Body: body(t, text)}
	does(t, m, d, api.ErrLong)
	d.Body = body(t, `{"chans":"`+long('k')+`"}`)
	m.State.Docs[0].Tree = l[1].Tree
	n, _ = tree.Winner(l[1].Tree)
	d.Rev = n.Rev
	does(t, m, d, api.OK)
}

package model

import (
	"cmp"
	"slices"

	"tidewrack/api"
	"tidewrack/batch"
	"tidewrack/doc"
	"tidewrack/eval"
	"tidewrack/feed"
	"tidewrack/grants"
	"tidewrack/tree"
	"tidewrack/views"
)

// judged is the changed document with what the rules say of it, when the
// revision r was added; old is the body with which it is compared.
func (x *running) judged(changed api.Doc, old api.Value, r api.Rev, deleted int, body api.Value) (api.Doc, api.Errno) {
	says := func(old, new api.Value, deleted int) (api.Ruling, api.Errno) {
		return eval.Run(x.Made.Rules, changed.Id, old, new, deleted, api.MaxFuel)
	}
	ruling, e := says(old, body, deleted)
	if e != api.OK {
		return api.Doc{}, e
	}
	before, _ := batch.Find(x.State, changed.Id)
	was, _ := tree.Winner(before.Tree)
	now, _ := tree.Winner(changed.Tree)
	if now.Rev != r && now.Rev == was.Rev {
		return changed, api.OK
	}
	if now.Rev != r {
		// The zero ruling stands for one that fails.
		ruling, _ = says(api.Value{}, now.Body, now.Deleted)
	}
	changed.Channels, changed.Grants = ruling.Channels, ruling.Grants
	return changed, api.OK
}

// body is the winner's of a document, or null.
func (x *running) body(id string) api.Value {
	d, _ := batch.Find(x.State, id)
	n, _ := tree.Winner(d.Tree)
	return n.Body
}

// tell performs a batch, with what the users are told.
func (x *running) tell(b api.Batch) api.Errno {
	b, e := views.With(x.State, b, x.Made.Users...)
	if e != api.OK {
		return e
	}
	return x.perform(b)
}

func (x *running) hubEdit(d api.Doing) (done api.Done, e api.Errno) {
	changed, r, e := doc.Edit(x.State, d.Id, d.Rev, d.Deleted, d.Body)
	if e != api.OK {
		return done, e
	}
	changed, e = x.judged(changed, x.body(d.Id), r, d.Deleted, d.Body)
	if e != api.OK {
		return done, e
	}
	done.Rev = r
	return done, x.tell(api.Batch{Docs: []api.Doc{changed}})
}

func (x *running) hubPurge(d api.Doing) (done api.Done, e api.Errno) {
	b, e := doc.Purge(x.State, d.Id)
	switch {
	case e != api.OK:
		return done, e
	case x.State.Seq >= api.MaxCount:
		return done, api.ErrSpent
	}
	b.Seq = x.State.Seq + 1
	return done, x.tell(b)
}

func (x *running) hubForce(d api.Doing) (done api.Done, e api.Errno) {
	done.Count, e = x.put(d.User, d.Copy)
	return done, e
}

// put puts in a copy for the user.
func (x *running) put(user string, c api.Copy) (int, api.Errno) {
	if !slices.Contains(x.Made.Users, user) {
		return 0, api.ErrForbidden
	}
	changed, n, e := doc.Force(x.State, c)
	if e != api.OK {
		return 0, e
	}
	var old api.Value
	if grants.Sees(x.State, user, c.Id) {
		if n == 0 {
			return 0, api.OK
		}
		old = x.body(c.Id)
	}
	changed, e = x.judged(changed, old, c.Path[0], c.Deleted, c.Body)
	if e != api.OK || n == 0 {
		return 1, e
	}
	return 1, x.tell(api.Batch{Docs: []api.Doc{changed}})
}

func (x *running) told(d api.Doing) (done api.Done, e api.Errno) {
	a := d.Ask
	t, e := x.answer(a)
	if e != api.OK {
		t = api.Told{Why: e}
	}
	t.Push, t.Inc, t.N, t.Kind, t.Life = a.Push, a.Inc, a.N, a.Kind, x.Made.Life
	done.Told = t
	return done, api.OK
}

// answer is what a kind of question is told.
func (x *running) answer(a api.Ask) (t api.Told, e api.Errno) {
	if !slices.Contains(x.Made.Users, a.User) {
		return t, api.ErrForbidden
	}
	switch a.Kind {
	case api.AskCheck:
		if x.inForce() {
			t.Seq = batch.Local(x.State, a.Session)
		}
	case api.AskChanges:
		t.Changes = feed.Changes(x.State, a.User, a.Since, a.Most)
		t.Seq = feed.Last(x.State, a.User)
	case api.AskMissing:
		t.Wants, e = feed.Missing(x.State, a.User, a.Wants...)
	case api.AskFetch:
		t.Copy, e = feed.Fetch(x.State, a.User, a.Id, a.Rev)
	case api.AskForce:
		t.Count, e = x.put(a.User, a.Copy)
	case api.AskSet:
		e = x.set(a)
	default:
		e = api.ErrArg
	}
	return t, e
}

// inForce reports whether the checkpoints were set in this life.
func (x *running) inForce() bool { return batch.Local(x.State, api.LifeName) == x.Made.Life }

func (x *running) set(a api.Ask) api.Errno {
	if a.Life != x.Made.Life {
		return api.ErrState
	}
	if a.Session == api.LifeName || a.Push == 0 && a.Seq > feed.Last(x.State, a.User) {
		return api.ErrArg
	}
	locals := []api.Local{{Id: a.Session, Seq: a.Seq}}
	if x.inForce() {
		return x.perform(api.Batch{Locals: locals})
	}
	locals = append(locals, api.Local{Id: api.LifeName, Seq: x.Made.Life})
	slices.SortFunc(locals, func(x, y api.Local) int { return cmp.Compare(x.Id, y.Id) })
	return x.perform(api.Batch{Locals: locals, Clear: 1})
}

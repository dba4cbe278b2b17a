package hub

import (
	"slices"
	"strings"

	"tidewrack/api"
	"tidewrack/batch"
	"tidewrack/feed"
)

// Told answers a question.
func (h *Hub) Told(a api.Ask) api.Told {
	if !h.made() {
		return api.Told{Why: api.ErrArg}
	}
	table := [...]func(api.Ask) (api.Told, api.Errno){
		api.AskCheck:   h.check,
		api.AskChanges: h.changes,
		api.AskMissing: h.missing,
		api.AskFetch:   h.fetch,
		api.AskForce:   h.force,
		api.AskSet:     h.set,
	}
	var t api.Told
	e := api.ErrForbidden
	if slices.Contains(h.users, a.User) {
		e = api.ErrArg
		if a.Kind >= api.AskCheck && a.Kind <= api.AskSet {
			t, e = table[a.Kind](a)
		}
	}
	if e != api.OK {
		t = api.Told{Why: e}
	}
	t.Push, t.Inc, t.N, t.Kind, t.Life = a.Push, a.Inc, a.N, a.Kind, h.life
	return t
}

// inForce reports whether the checkpoints were set in this life.
func (h *Hub) inForce(s api.State) bool { return batch.Local(s, api.LifeName) == h.life }

func (h *Hub) check(a api.Ask) (t api.Told, e api.Errno) {
	if s := h.db.State(); h.inForce(s) {
		t.Seq = batch.Local(s, a.Session)
	}
	return t, api.OK
}

func (h *Hub) changes(a api.Ask) (t api.Told, e api.Errno) {
	s := h.db.State()
	t.Changes = feed.Changes(s, a.User, a.Since, a.Most)
	t.Seq = feed.Last(s, a.User)
	return t, api.OK
}

func (h *Hub) missing(a api.Ask) (t api.Told, e api.Errno) {
	t.Wants, e = feed.Missing(h.db.State(), a.User, a.Wants...)
	return t, e
}

func (h *Hub) fetch(a api.Ask) (t api.Told, e api.Errno) {
	t.Copy, e = feed.Fetch(h.db.State(), a.User, a.Id, a.Rev)
	return t, e
}

func (h *Hub) force(a api.Ask) (t api.Told, e api.Errno) {
	t.Count, e = h.Force(a.User, a.Copy)
	return t, e
}

func (h *Hub) set(a api.Ask) (t api.Told, e api.Errno) {
	s := h.db.State()
	switch {
	case a.Life != h.life:
		return t, api.ErrState
	case a.Session == api.LifeName || a.Push == 0 && a.Seq > feed.Last(s, a.User):
		return t, api.ErrArg
	}
	b := api.Batch{Locals: []api.Local{{Id: a.Session, Seq: a.Seq}}}
	if !h.inForce(s) {
		b.Clear = 1
		b.Locals = append(b.Locals, api.Local{Id: api.LifeName, Seq: h.life})
		slices.SortFunc(b.Locals, func(x, y api.Local) int { return strings.Compare(x.Id, y.Id) })
	}
	return t, h.db.Do(b)
}

package pull

import (
	"slices"

	"tidewrack/api"
	"tidewrack/doc"
	"tidewrack/value"
)

func own(p api.Pulling) api.Pulling {
	p.Batch, p.Queue = ownChanges(p.Batch), slices.Clone(p.Queue)
	for i := range p.Queue {
		p.Queue[i].Revs = slices.Clone(p.Queue[i].Revs)
	}
	return p
}

func ownChanges(l []api.Change) []api.Change {
	l = slices.Clone(l)
	for i := range l {
		l[i].Leaves = slices.Clone(l[i].Leaves)
	}
	return l
}

func ownCopy(c api.Copy) api.Copy {
	c.Path, c.Body = slices.Clone(c.Path), value.Own(c.Body)
	return c
}

// Same reports whether two sessions are equal.
func Same(a, b api.Pulling) bool {
	return a.User == b.User && a.Session == b.Session && a.Inc == b.Inc && a.N == b.N && a.Phase == b.Phase &&
		a.Since == b.Since && a.Life == b.Life && a.To == b.To && a.Asked == b.Asked && a.Done == b.Done && a.Why == b.Why &&
		slices.EqualFunc(a.Batch, b.Batch, doc.SameChange) && slices.EqualFunc(a.Queue, b.Queue, sameWant)
}

func sameWant(a, b api.Want) bool { return a.Id == b.Id && slices.Equal(a.Revs, b.Revs) }

// SameAsks reports whether two lists of questions are equal.
func SameAsks(a, b []api.Ask) bool { return slices.EqualFunc(a, b, sameAsk) }

func sameAsk(a, b api.Ask) bool {
	return a.User == b.User && a.Push == b.Push && a.Inc == b.Inc && a.N == b.N && a.Kind == b.Kind &&
		a.Session == b.Session && a.Since == b.Since && a.Most == b.Most && a.Id == b.Id && a.Rev == b.Rev &&
		a.Seq == b.Seq && a.Life == b.Life && slices.EqualFunc(a.Wants, b.Wants, sameWant) && doc.SameCopy(a.Copy, b.Copy)
}

// SameWorks reports whether two lists of works are equal.
func SameWorks(a, b []api.Work) bool {
	return slices.EqualFunc(a, b, func(x, y api.Work) bool {
		return x.Kind == y.Kind && x.Id == y.Id && x.Gone == y.Gone && x.Session == y.Session && x.Seq == y.Seq &&
			doc.SameCopy(x.Copy, y.Copy)
	})
}

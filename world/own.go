package world

import (
	"slices"

	"tidewrack/api"
	"tidewrack/value"
)

func ownDoing(d api.Doing) api.Doing {
	d.Body, d.Copy = value.Own(d.Body), ownCopy(d.Copy)
	d.Ask.Wants, d.Ask.Copy = ownWants(d.Ask.Wants), ownCopy(d.Ask.Copy)
	return d
}

func ownDone(d api.Done) api.Done {
	d.Node.Body, d.Changes = value.Own(d.Node.Body), ownChanges(d.Changes)
	d.Told.Changes, d.Told.Wants, d.Told.Copy = ownChanges(d.Told.Changes), ownWants(d.Told.Wants), ownCopy(d.Told.Copy)
	return d
}

func ownCopy(c api.Copy) api.Copy {
	c.Path, c.Body = slices.Clone(c.Path), value.Own(c.Body)
	return c
}

func ownWants(l []api.Want) []api.Want {
	l = slices.Clone(l)
	for i := range l {
		l[i].Revs = slices.Clone(l[i].Revs)
	}
	return l
}

func ownChanges(l []api.Change) []api.Change {
	l = slices.Clone(l)
	for i := range l {
		l[i].Leaves = slices.Clone(l[i].Leaves)
	}
	return l
}

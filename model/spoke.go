package model

import (
	"iter"

	"tidewrack/api"
	"tidewrack/batch"
	"tidewrack/doc"
	"tidewrack/frame"
)

// alone performs the batch of one document.
func (x *running) alone(d api.Doc) api.Errno { return x.perform(api.Batch{Docs: []api.Doc{d}}) }

func (x *running) edit(d api.Doing) (done api.Done, e api.Errno) {
	changed, r, e := doc.Edit(x.State, d.Id, d.Rev, d.Deleted, d.Body)
	if e == api.OK {
		e = x.alone(changed)
	}
	done.Rev = r
	return done, e
}

func (x *running) force(d api.Doing) (api.Done, api.Errno) {
	changed, n, e := doc.Force(x.State, d.Copy)
	return x.counted(changed, n, e)
}

func (x *running) mark(d api.Doing) (api.Done, api.Errno) {
	changed, n, e := doc.Mark(x.State, d.Id, d.Gone)
	return x.counted(changed, n, e)
}

// counted performs the change of a document, if there is one.
func (x *running) counted(changed api.Doc, n int, e api.Errno) (done api.Done, why api.Errno) {
	if e == api.OK && n == 1 {
		e = x.alone(changed)
	}
	done.Count = n
	return done, e
}

func (x *running) purge(d api.Doing) (done api.Done, e api.Errno) {
	b, e := doc.Purge(x.State, d.Id)
	if e == api.OK {
		e = x.perform(b)
	}
	return done, e
}

func (x *running) check(d api.Doing) (done api.Done, e api.Errno) {
	return done, x.perform(api.Batch{Locals: []api.Local{{Id: d.Session, Seq: d.Seq}}})
}

func (x *running) get(d api.Doing) (done api.Done, e api.Errno) {
	done.Node, e = doc.Get(x.State, d.Id, d.Rev)
	return done, e
}

func (x *running) changes(d api.Doing) (done api.Done, e api.Errno) {
	done.Changes = doc.Changes(x.State, d.Since, d.Most)
	return done, api.OK
}

func (x *running) sync(api.Doing) (done api.Done, e api.Errno) {
	x.lasts()
	return done, api.OK
}

// records goes through the batches that make the state of nothing: the
// checkpoints, each document, and the entries of each user.
func (x *running) records() iter.Seq[api.Batch] {
	return func(yield func(api.Batch) bool) {
		s := x.State
		if !yield(api.Batch{Clear: 1, Locals: s.Locals, Seq: s.Seq}) {
			return
		}
		for _, d := range s.Docs {
			if !yield(api.Batch{Docs: []api.Doc{d}}) {
				return
			}
		}
		var own []api.Seen
		for i, e := range s.Seens {
			own = append(own, e)
			if i+1 < len(s.Seens) && s.Seens[i+1].User == e.User {
				continue
			}
			if !yield(api.Batch{Seens: own}) {
				return
			}
			own = nil
		}
	}
}

func (x *running) compact(api.Doing) (done api.Done, e api.Errno) {
	if !batch.MayState(x.State) {
		return done, api.ErrArg
	}
	size := 0
	for b := range x.records() {
		record, e := batch.Encode(b)
		if e != api.OK {
			return done, e
		}
		if len(record) > api.MaxRecord {
			return done, api.ErrLong
		}
		size += frame.Size(record)
	}
	if x.overfull(size) {
		return done, api.ErrFull
	}
	x.Log = size
	x.lasts()
	return done, api.OK
}

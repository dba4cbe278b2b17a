package peer

import (
	"tidewrack/api"
	"tidewrack/db"
	"tidewrack/doc"
	"tidewrack/hub"
	"tidewrack/pull"
	"tidewrack/push"
)

// Do performs an operation on the replica.
func (p *Peer) Do(d api.Doing) api.Done {
	table := [...]func(*Peer, api.Doing) (api.Done, api.Errno){
		api.DoEdit:    (*Peer).edit,
		api.DoForce:   (*Peer).force,
		api.DoMark:    (*Peer).mark,
		api.DoPurge:   (*Peer).purge,
		api.DoCheck:   (*Peer).check,
		api.DoGet:     (*Peer).get,
		api.DoChanges: (*Peer).changes,
		api.DoTold:    (*Peer).told,
		api.DoSync:    (*Peer).sync,
		api.DoCompact: (*Peer).compact,
	}
	if !p.made() || d.Kind < api.DoEdit || d.Kind >= len(table) {
		return api.Done{Why: api.ErrArg}
	}
	done, e := table[d.Kind](p, d)
	if e != api.OK {
		return api.Done{Why: e}
	}
	return done
}

func (p *Peer) edit(d api.Doing) (done api.Done, e api.Errno) {
	done.Rev, e = p.replica.Edit(d.Id, d.Rev, d.Deleted, d.Body)
	return done, e
}

func (p *Peer) force(d api.Doing) (done api.Done, e api.Errno) {
	switch r := p.replica.(type) {
	case *hub.Hub:
		done.Count, e = r.Force(d.User, d.Copy)
	case *db.Db:
		done.Count, e = r.Force(d.Copy)
	}
	return done, e
}

func (p *Peer) mark(d api.Doing) (done api.Done, e api.Errno) {
	switch r := p.replica.(type) {
	case *db.Db:
		done.Count, e = r.Mark(d.Id, d.Gone)
	default:
		e = api.ErrArg
	}
	return done, e
}

func (p *Peer) purge(d api.Doing) (done api.Done, e api.Errno) {
	e = p.replica.Purge(d.Id)
	if e == api.OK {
		// With the checkpoints gone, the sessions do not know any more where they are.
		p.pulls, p.pushes = pull.Failed(p.pulls, api.ErrState), push.Failed(p.pushes, api.ErrState)
	}
	return done, e
}

func (p *Peer) check(d api.Doing) (done api.Done, e api.Errno) {
	switch r := p.replica.(type) {
	case *db.Db:
		e = r.Check(d.Session, d.Seq)
	default:
		e = api.ErrArg
	}
	return done, e
}

func (p *Peer) get(d api.Doing) (done api.Done, e api.Errno) {
	done.Node, e = doc.Get(p.State(), d.Id, d.Rev)
	return done, e
}

func (p *Peer) changes(d api.Doing) (done api.Done, e api.Errno) {
	done.Changes = doc.Changes(p.State(), d.Since, d.Most)
	return done, api.OK
}

func (p *Peer) told(d api.Doing) (done api.Done, e api.Errno) {
	switch r := p.replica.(type) {
	case *hub.Hub:
		done.Told = r.Told(d.Ask)
	default:
		e = api.ErrArg
	}
	return done, e
}

func (p *Peer) sync(d api.Doing) (done api.Done, e api.Errno) { return done, p.replica.Sync() }

func (p *Peer) compact(d api.Doing) (done api.Done, e api.Errno) { return done, p.replica.Compact() }

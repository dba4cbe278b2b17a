package world

import "tidewrack/api"

// Do performs a step.
func (w *World) Do(s api.Step) (api.Done, api.Errno) {
	table := [...]func(*World, api.Step) (api.Done, api.Errno){
		api.StepDo:      (*World).do,
		api.StepBegin:   (*World).begin,
		api.StepTick:    (*World).tick,
		api.StepDeliver: (*World).deliver,
		api.StepDrop:    (*World).drop,
		api.StepDouble:  (*World).double,
		api.StepPut:     (*World).put,
		api.StepCrash:   (*World).crash,
		api.StepFuse:    (*World).fuse,
		api.StepStart:   (*World).start,
	}
	if !w.made() {
		return api.Done{}, api.ErrArg
	}
	w.steps++
	if s.Kind < api.StepDo || s.Kind >= len(table) {
		return api.Done{}, api.ErrArg
	}
	return table[s.Kind](w, s)
}

// at is the node of a step, which has to be up.
func (w *World) at(s api.Step) (*node, api.Errno) {
	n := w.find(s.Node)
	switch {
	case n == nil:
		return nil, api.ErrArg
	case !n.up():
		return nil, api.ErrDown
	}
	return n, api.OK
}

func (w *World) do(s api.Step) (api.Done, api.Errno) {
	n, e := w.at(s)
	if e != api.OK {
		return api.Done{}, e
	}
	pulled, pushed := n.Pulls().Phase, n.Pushes().Phase
	done := n.Do(s.Doing)
	w.happens(n, api.Happening{Kind: api.HapDone, Doing: ownDoing(s.Doing), Done: done})
	if p := n.Pulls(); pulled != api.PhaseRests && p.Phase == api.PhaseRests {
		w.happens(n, api.Happening{Kind: api.HapFail, Why: p.Why})
	}
	if p := n.Pushes(); pushed != api.PhaseRests && p.Phase == api.PhaseRests {
		w.happens(n, api.Happening{Kind: api.HapFail, Push: 1, Why: p.Why})
	}
	w.came(n, api.Came{})
	return ownDone(done), api.OK
}

func (w *World) begin(s api.Step) (api.Done, api.Errno) {
	n, e := w.at(s)
	if e != api.OK {
		return api.Done{}, e
	}
	c, e := n.Begin(w.time, s.Push)
	if e == api.OK {
		w.came(n, c)
	}
	return api.Done{}, e
}

func (w *World) tick(s api.Step) (api.Done, api.Errno) {
	if s.By < 1 || s.By > mostTicks {
		return api.Done{}, api.ErrArg
	}
	w.time = min(w.time+uint64(s.By), api.MaxCount)
	for n := range w.running() {
		w.came(n, n.Tick(w.time))
	}
	return api.Done{}, api.OK
}

func (w *World) deliver(s api.Step) (api.Done, api.Errno) {
	m, e := w.net.Deliver(s.Letter)
	if e != api.OK {
		return api.Done{}, e
	}
	if n := w.find(m.To); n.up() {
		w.came(n, n.Take(w.time, m.From, m.Bytes))
	}
	return api.Done{}, api.OK
}

func (w *World) drop(s api.Step) (api.Done, api.Errno) { return api.Done{}, w.net.Drop(s.Letter) }

func (w *World) double(s api.Step) (api.Done, api.Errno) {
	_, e := w.net.Double(s.Letter)
	return api.Done{}, e
}

func (w *World) put(s api.Step) (api.Done, api.Errno) {
	_, e := w.net.Send(s.From, s.To, s.Bytes)
	return api.Done{}, e
}

func (w *World) crash(s api.Step) (api.Done, api.Errno) {
	n, e := w.at(s)
	if e != api.OK {
		return api.Done{}, e
	}
	e = n.disk.Crash(s.Keep, s.Torn)
	if e == api.OK {
		w.happens(n, api.Happening{Kind: api.HapCrash, Keep: s.Keep, Torn: s.Torn})
	}
	return api.Done{}, e
}

func (w *World) fuse(s api.Step) (api.Done, api.Errno) {
	n, e := w.at(s)
	if e != api.OK {
		return api.Done{}, e
	}
	e = n.disk.Fuse(s.N, s.Keep, s.Torn)
	if e == api.OK {
		n.keep, n.torn = s.Keep, s.Torn
	}
	return api.Done{}, e
}

func (w *World) start(s api.Step) (api.Done, api.Errno) {
	n := w.find(s.Node)
	switch {
	case n == nil:
		return api.Done{}, api.ErrArg
	case n.up():
		return api.Done{}, api.ErrState
	}
	n.disk.Start()
	n.life++
	if e := n.start(); e != api.OK {
		n.disk.Crash(0, 0)
		return api.Done{}, e
	}
	w.happens(n, api.Happening{Kind: api.HapStart, Life: n.life})
	return api.Done{}, api.OK
}

package msg

import (
	"tidewrack/api"
	"tidewrack/code"
	"tidewrack/value"
)

// walker is what goes over the fields of a packet: it writes them, or reads them.
type walker interface {
	first(kind *int)          // the byte with which a packet begins
	numbers(l ...*uint64)     // numbers
	text(s *string, most int) // a string of at most so many bytes
	raw(b []byte)             // that many bytes
	value(v *api.Value)       // the text of a value
	bad()                     // what was read is no packet
	fine() bool               // it can go on
}

// writing writes what it is shown.
type writing struct{ *code.Writer }

func (w writing) first(kind *int) { w.U8(uint8(*kind)) }

func (w writing) numbers(l ...*uint64) {
	for _, x := range l {
		w.Uint(*x)
	}
}

func (w writing) text(s *string, most int) { w.Text(*s) }

func (w writing) raw(b []byte) { w.Raw(b) }

func (w writing) value(v *api.Value) {
	s, _ := value.Print(*v)
	w.Text(s)
}

func (w writing) bad() {}

func (w writing) fine() bool { return true }

// reading fills in what it is shown.
type reading struct{ *code.Reader }

func (r reading) first(kind *int) { *kind = int(r.U8()) }

func (r reading) numbers(l ...*uint64) {
	for _, x := range l {
		*x = r.Uint()
	}
}

func (r reading) text(s *string, most int) { *s = r.Text(most) }

func (r reading) raw(b []byte) { copy(b, r.Raw(len(b))) }

func (r reading) value(v *api.Value) {
	x, e := value.Parse(r.Text(api.MaxBytes))
	if e != api.OK {
		r.bad()
	}
	*v = x
}

func (r reading) bad() { r.Fail() }

func (r reading) fine() bool { return r.Err() == api.OK }

func written(p *api.Packet) []byte {
	w := writing{code.NewWriter()}
	walk{w}.packet(p)
	return w.Bytes()
}

func read(b []byte) (api.Packet, api.Errno) {
	var p api.Packet
	r := reading{code.NewReader(b)}
	walk{r}.packet(&p)
	return p, r.End()
}

// walk shows a packet's fields to a walker, in their order.
type walk struct{ walker }

// ints are small numbers; one that does not fit is read as a negative one, or
// as one that is written otherwise.
func (w walk) ints(l ...*int) {
	for _, p := range l {
		x := uint64(*p)
		w.numbers(&x)
		// What is written is left alone: it may be an argument's.
		if int(x) != *p {
			*p = int(x)
		}
	}
}

// all goes over a sequence: how many elements there are, and each of them.
func all[T any](w walk, l *[]T, each func(*T)) {
	n := len(*l)
	w.ints(&n)
	for i := 0; i < n && w.fine(); i++ {
		if i == len(*l) {
			var fresh T
			*l = append(*l, fresh)
		}
		each(&(*l)[i])
	}
}

func (w walk) name(s *string) { w.text(s, api.MaxKey) }

func (w walk) rev(r *api.Rev) {
	w.numbers(&r.Gen)
	if r.Gen != 0 {
		w.raw(r.Sum[:])
	}
}

func (w walk) want(x *api.Want) {
	w.name(&x.Id)
	all(w, &x.Revs, w.rev)
}

func (w walk) change(c *api.Change) {
	w.name(&c.Id)
	w.numbers(&c.Seq)
	all(w, &c.Leaves, w.rev)
	w.ints(&c.Gone)
	w.rev(&c.Rev)
	w.name(&c.Channel)
}

func (w walk) copied(c *api.Copy) {
	w.name(&c.Id)
	all(w, &c.Path, w.rev)
	w.ints(&c.Deleted)
	w.value(&c.Body)
}

func (w walk) packet(p *api.Packet) {
	w.first(&p.Kind)
	switch p.Kind {
	case api.PacketAsk:
		w.ask(&p.Ask)
	case api.PacketTold:
		w.told(&p.Told)
	default:
		w.bad()
	}
}

func (w walk) ask(a *api.Ask) {
	w.name(&a.User)
	w.ints(&a.Push)
	w.numbers(&a.Inc, &a.N)
	w.ints(&a.Kind)
	switch a.Kind {
	case api.AskCheck:
		w.name(&a.Session)
	case api.AskChanges:
		w.numbers(&a.Since)
		w.ints(&a.Most)
	case api.AskMissing:
		all(w, &a.Wants, w.want)
	case api.AskFetch:
		w.name(&a.Id)
		w.rev(&a.Rev)
	case api.AskForce:
		w.copied(&a.Copy)
	case api.AskSet:
		w.name(&a.Session)
		w.numbers(&a.Seq, &a.Life)
	}
}

func (w walk) told(t *api.Told) {
	why := int(t.Why)
	w.ints(&t.Push)
	w.numbers(&t.Inc, &t.N)
	w.ints(&t.Kind, &why)
	w.numbers(&t.Life)
	t.Why = api.Errno(why)
	switch t.Kind {
	case api.AskCheck:
		w.numbers(&t.Seq)
	case api.AskChanges:
		w.numbers(&t.Seq)
		all(w, &t.Changes, w.change)
	case api.AskMissing:
		all(w, &t.Wants, w.want)
	case api.AskFetch:
		w.maybe(&t.Copy)
	case api.AskForce:
		w.ints(&t.Count)
	}
}

// maybe goes over a copy that may be none.
func (w walk) maybe(c *api.Copy) {
	there := 0
	if !zeroCopy(*c) {
		there = 1
	}
	w.ints(&there)
	if there != 0 {
		w.copied(c)
	}
}

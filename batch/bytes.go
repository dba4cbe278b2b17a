package batch

import (
	"bytes"

	"tidewrack/api"
	"tidewrack/code"
	"tidewrack/tree"
)

// Encode returns the batch as bytes.
func Encode(b api.Batch) ([]byte, api.Errno) {
	if !May(b) {
		return nil, api.ErrArg
	}
	w := code.NewWriter()
	write(w, b.Docs, func(d api.Doc) { writeDoc(w, d) })
	write(w, b.Locals, func(l api.Local) {
		w.Text(l.Id)
		w.Uint(l.Seq)
	})
	write(w, b.Seens, func(x api.Seen) { writeSeen(w, x) })
	write(w, b.Purged, w.Text)
	w.Put(uint64(b.Clear), b.Seq)
	return w.Bytes(), api.OK
}

// write writes how many elements there are, and each of them.
func write[T any](w *code.Writer, l []T, put func(T)) {
	w.Uint(uint64(len(l)))
	for _, x := range l {
		put(x)
	}
}

func writeDoc(w *code.Writer, d api.Doc) {
	w.Text(d.Id)
	w.Put(d.Seq, uint64(d.Gone))
	write(w, d.Channels, w.Text)
	write(w, d.Grants, func(g api.Grant) {
		w.Text(g.User)
		w.Text(g.Channel)
	})
	t, _ := tree.Encode(d.Tree)
	w.Text(string(t))
}

func writeSeen(w *code.Writer, x api.Seen) {
	w.Text(x.User)
	w.Text(x.Doc)
	w.Put(x.Seq, x.Rev.Gen)
	w.Raw(x.Rev.Sum[:])
	w.Uint(uint64(x.Gone))
	w.Text(x.Channel)
}

// reader reads the parts of a batch from size bytes.
type reader struct {
	*code.Reader
	size int
}

// Decode returns the batch whose encoding b is.
func Decode(b []byte) (api.Batch, api.Errno) {
	r := reader{code.NewReader(b), len(b)}
	out := api.Batch{
		Docs:   read(r, r.doc),
		Locals: read(r, r.local),
		Seens:  read(r, r.seen),
		Purged: read(r, r.name),
		Clear:  r.flag(),
		Seq:    r.Uint(),
	}
	if r.End() != api.OK {
		return api.Batch{}, api.ErrForm
	}
	// Whatever was read otherwise than it is written is not an encoding.
	if again, e := Encode(out); e != api.OK || !bytes.Equal(again, b) {
		return api.Batch{}, api.ErrForm
	}
	return out, api.OK
}

// read reads how many elements there are, and each of them.
func read[T any](r reader, get func() T) []T {
	var out []T
	for n := r.Uint(); n > 0 && r.Err() == api.OK; n-- {
		out = append(out, get())
	}
	return out
}

func (r reader) name() string { return r.Text(api.MaxKey) }

// flag reads a number that should be 0 or 1.
func (r reader) flag() int {
	x := r.Uint()
	if x > 1 {
		r.Fail()
	}
	return int(x)
}

func (r reader) doc() api.Doc {
	d := api.Doc{Id: r.name(), Seq: r.Uint(), Gone: r.flag(), Channels: read(r, r.name), Grants: read(r, r.grant)}
	t, e := tree.Decode([]byte(r.Text(r.size)))
	if e != api.OK {
		r.Fail()
	}
	d.Tree = t
	return d
}

func (r reader) grant() api.Grant { return api.Grant{User: r.name(), Channel: r.name()} }

func (r reader) local() api.Local { return api.Local{Id: r.name(), Seq: r.Uint()} }

func (r reader) seen() api.Seen {
	x := api.Seen{User: r.name(), Doc: r.name(), Seq: r.Uint()}
	x.Rev.Gen = r.Uint()
	copy(x.Rev.Sum[:], r.Raw(len(x.Rev.Sum)))
	x.Gone, x.Channel = r.flag(), r.name()
	return x
}

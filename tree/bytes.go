package tree

import (
	"bytes"

	"tidewrack/api"
	"tidewrack/code"
	"tidewrack/value"
)

// The flags of a node.
const (
	hasParent = 1
	isDeleted = 2
	hasBody   = 4
)

// Encode returns the tree as bytes.
func Encode(t api.Tree) ([]byte, api.Errno) {
	if !May(t) {
		return nil, api.ErrArg
	}
	w := code.NewWriter()
	w.Uint(uint64(len(t.Nodes)))
	for _, n := range t.Nodes {
		writeNode(w, n)
	}
	return w.Bytes(), api.OK
}

func writeNode(w *code.Writer, n api.Node) {
	flags := isDeleted*n.Deleted + hasBody*n.Has
	parent := n.Parent != api.Rev{}
	if parent {
		flags += hasParent
	}
	w.Uint(n.Rev.Gen)
	w.Raw(n.Rev.Sum[:])
	w.U8(uint8(flags))
	if parent {
		w.Raw(n.Parent.Sum[:])
	}
	if n.Has == 1 {
		text, _ := value.Print(n.Body)
		w.Text(text)
	}
}

// Decode returns the tree whose encoding b is.
func Decode(b []byte) (api.Tree, api.Errno) {
	r := code.NewReader(b)
	var t api.Tree
	count := r.Uint()
	if count > api.MaxNodes {
		r.Fail()
	}
	for i := uint64(0); i < count && r.Err() == api.OK; i++ {
		t.Nodes = append(t.Nodes, readNode(r))
	}
	if r.End() != api.OK {
		return api.Tree{}, api.ErrForm
	}
	// Whatever was read otherwise than it is written is not an encoding.
	if again, e := Encode(t); e != api.OK || !bytes.Equal(again, b) {
		return api.Tree{}, api.ErrForm
	}
	return t, api.OK
}

func readNode(r *code.Reader) (n api.Node) {
	n.Rev.Gen = r.Uint()
	readSum(r, &n.Rev)
	flags := r.U8()
	if flags&hasParent != 0 {
		n.Parent.Gen = n.Rev.Gen - 1
		readSum(r, &n.Parent)
	}
	if flags&isDeleted != 0 {
		n.Deleted = 1
	}
	if flags&hasBody != 0 {
		body, e := value.Parse(r.Text(api.MaxBytes))
		if e != api.OK {
			r.Fail()
		}
		n.Has, n.Body = 1, body
	}
	return n
}

func readSum(r *code.Reader, x *api.Rev) {
	copy(x.Sum[:], r.Raw(len(x.Sum)))
}

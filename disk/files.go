package disk

import (
	"bytes"
	"cmp"
	"iter"
	"slices"

	"tidewrack/api"
)

const longestName = 16

func mayName(name string) bool {
	for _, c := range []byte(name) {
		if c != '.' && (c < '0' || c > '9') && (c < 'a' || c > 'z') {
			return false
		}
	}
	return len(name) > 0 && len(name) <= longestName
}

type file struct {
	name string
	b    []byte
}

// version is a set of files, by their names, rising.
type version struct{ list []file }

// files goes through the files of a version.
func (v version) files() iter.Seq2[string, []byte] {
	return func(yield func(string, []byte) bool) {
		for _, f := range v.list {
			if !yield(f.name, f.b) {
				return
			}
		}
	}
}

func (v version) find(name string) (int, bool) {
	return slices.BinarySearchFunc(v.list, name, func(f file, name string) int { return cmp.Compare(f.name, name) })
}

func (v version) read(name string) ([]byte, bool) {
	i, ok := v.find(name)
	if !ok {
		return nil, false
	}
	return v.list[i].b, true
}

func (v version) size() (n int) {
	for _, b := range v.files() {
		n += len(b)
	}
	return n
}

func (v version) clone() (out version) {
	for name, b := range v.files() {
		out.list = append(out.list, file{name, bytes.Clone(b)})
	}
	return out
}

// at is the file of that name, which is made if there is none.
func (v *version) at(name string) *file {
	i, ok := v.find(name)
	if !ok {
		v.list = slices.Insert(v.list, i, file{name: name})
	}
	return &v.list[i]
}

func (v *version) remove(name string) {
	if i, ok := v.find(name); ok {
		v.list = slices.Delete(v.list, i, i+1)
	}
}

// change is what makes the next version of one. Its bytes are never written to,
// so that disks may share it.
type change interface {
	// refused says why the change cannot be made in that room.
	refused(v version, room int) api.Errno
	// apply reports whether there is a next version.
	apply(v *version) bool
}

type appending struct {
	name string
	b    []byte
}

func (c appending) refused(v version, room int) api.Errno {
	return full(v.size()+len(c.b), room)
}

func (c appending) apply(v *version) bool {
	f := v.at(c.name)
	f.b = append(f.b, c.b...)
	return true
}

type putting struct {
	name string
	b    []byte
}

func (c putting) refused(v version, room int) api.Errno {
	old, _ := v.read(c.name)
	return full(v.size()-len(old)+len(c.b), room)
}

func (c putting) apply(v *version) bool {
	v.at(c.name).b = bytes.Clone(c.b)
	return true
}

type renaming struct{ from, to string }

func (c renaming) refused(v version, room int) api.Errno { return missing(v, c.from) }

func (c renaming) apply(v *version) bool {
	if c.from == c.to {
		return false
	}
	b, _ := v.read(c.from)
	v.remove(c.from)
	v.at(c.to).b = b
	return true
}

type removing struct{ name string }

func (c removing) refused(v version, room int) api.Errno { return missing(v, c.name) }

func (c removing) apply(v *version) bool {
	v.remove(c.name)
	return true
}

func full(size, room int) api.Errno {
	if size > room {
		return api.ErrFull
	}
	return api.OK
}

func missing(v version, name string) api.Errno {
	if _, ok := v.find(name); !ok {
		return api.ErrNone
	}
	return api.OK
}

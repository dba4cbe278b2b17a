// Package value is layer 1: what documents consist of, and the one text of each.
package value

import (
	"slices"
	"strconv"
	"strings"

	"tidewrack/api"
)

// May reports whether v is valid.
func May(v api.Value) bool {
	room := api.MaxBytes
	// The room is shared by the whole walk, so that a value whose parts occur
	// again and again is given up as soon as its text would be too long.
	var invalid func(v api.Value, depth int) bool
	invalid = func(v api.Value, depth int) bool {
		if depth > api.MaxNest || !usesItsOwn(v) {
			return true
		}
		room -= ownSize(v)
		if room < 0 || !plain(v.Text) || !rising(v.Keys) {
			return true
		}
		for _, x := range v.List {
			if invalid(x, depth+1) {
				return true
			}
		}
		return false
	}
	return !invalid(v, 1)
}

// usesItsOwn reports whether v has nothing in the fields that its kind does not use.
func usesItsOwn(v api.Value) bool {
	if v.Kind != api.Number && v.Num != 0 || v.Kind != api.Text && v.Text != "" {
		return false
	}
	switch v.Kind {
	case api.Null, api.False, api.True, api.Number, api.Text:
		if len(v.List) > 0 {
			return false
		}
		fallthrough
	case api.List:
		return len(v.Keys) == 0
	case api.Object:
		return len(v.Keys) == len(v.List)
	}
	return false
}

// ownSize is how many bytes the text of v has beside the texts of its elements.
func ownSize(v api.Value) int {
	switch v.Kind {
	case api.False:
		return len("false")
	case api.Number:
		return len(strconv.FormatInt(v.Num, 10))
	case api.Text:
		return len(v.Text) + escapes(v.Text) + 2
	case api.List, api.Object:
		n := 2 + max(0, len(v.List)-1)
		for _, k := range v.Keys {
			n += len(k) + escapes(k) + 3
		}
		return n
	}
	return len("null")
}

// escapes is how many bytes of s have a \ ahead of them in its text.
func escapes(s string) int {
	return strings.Count(s, "\"") + strings.Count(s, "\\")
}

func plain(s string) bool {
	for i := range len(s) {
		if s[i] < 32 || s[i] > 126 {
			return false
		}
	}
	return true
}

func rising(keys []string) bool {
	for i, k := range keys {
		if !mayKey(k) || i > 0 && keys[i-1] >= k {
			return false
		}
	}
	return true
}

func mayKey(k string) bool {
	return len(k) > 0 && len(k) <= api.MaxKey && plain(k) && !strings.ContainsAny(k, " .\"")
}

// Same reports whether a and b are equal, field by field.
func Same(a, b api.Value) bool {
	return a.Kind == b.Kind && a.Num == b.Num && a.Text == b.Text &&
		slices.Equal(a.Keys, b.Keys) && slices.EqualFunc(a.List, b.List, Same)
}

// Own returns a deep copy of v.
func Own(v api.Value) api.Value {
	v.Keys = slices.Clone(v.Keys)
	v.List = ownAll(v.List)
	return v
}

func ownAll(l []api.Value) []api.Value {
	var out []api.Value
	for _, x := range l {
		out = append(out, Own(x))
	}
	return out
}

// Cmp returns -1, 0 or 1 by the order of two valid values.
func Cmp(a, b api.Value) int {
	switch {
	case a.Kind != b.Kind:
		return order(a.Kind < b.Kind)
	case a.Kind == api.Number && a.Num != b.Num:
		return order(a.Num < b.Num)
	case a.Kind == api.Text:
		return strings.Compare(a.Text, b.Text)
	}
	for i := range min(len(a.List), len(b.List)) {
		if c := cmpEntry(a, b, i); c != 0 {
			return c
		}
	}
	if len(a.List) == len(b.List) {
		return 0
	}
	return order(len(a.List) < len(b.List))
}

func order(less bool) int {
	if less {
		return -1
	}
	return 1
}

// cmpEntry compares the elements at i, by their keys first if both have keys.
func cmpEntry(a, b api.Value, i int) int {
	if i < len(a.Keys) && i < len(b.Keys) {
		if c := strings.Compare(a.Keys[i], b.Keys[i]); c != 0 {
			return c
		}
	}
	return Cmp(a.List[i], b.List[i])
}

// At returns the value that the path selects in v.
func At(v api.Value, path string) (api.Value, api.Errno) {
	if !May(v) || path == "" {
		return api.Value{}, api.ErrArg
	}
	for _, c := range strings.Split(path, ".") {
		i := place(v, c)
		if i < 0 {
			return api.Value{}, api.ErrNone
		}
		v = v.List[i]
	}
	return Own(v), api.OK
}

// place is the index of the element that a component selects, or -1.
func place(v api.Value, component string) int {
	switch v.Kind {
	case api.Object:
		return slices.Index(v.Keys, component)
	case api.List:
		i, err := strconv.Atoi(component)
		if err == nil && i >= 0 && i < len(v.List) && strconv.Itoa(i) == component {
			return i
		}
	}
	return -1
}

// Put returns the object v in which key has the value x.
func Put(v api.Value, key string, x api.Value) (api.Value, api.Errno) {
	if v.Kind != api.Object || !May(v) || !May(x) {
		return api.Value{}, api.ErrArg
	}
	out := Own(v)
	i, found := slices.BinarySearch(out.Keys, key)
	if found {
		out.List[i] = Own(x)
	} else {
		out.Keys = slices.Insert(out.Keys, i, key)
		out.List = slices.Insert(out.List, i, Own(x))
	}
	if !May(out) {
		return api.Value{}, api.ErrArg
	}
	return out, api.OK
}

// Number returns the number n.
func Number(n int64) api.Value { return api.Value{Kind: api.Number, Num: n} }

// Text returns the string s.
func Text(s string) api.Value { return api.Value{Kind: api.Text, Text: s} }

// List returns the list of these elements.
func List(l ...api.Value) api.Value {
	return api.Value{Kind: api.List, List: ownAll(l)}
}

package keys

import (
	"container/heap"
	"iter"
	"slices"
)

// front is what is left of an index that is merged, and its place among the indexes.
type front[T any] struct {
	rest  []entry[T]
	place int
}

// fronts is a heap: the smallest key first, of equal ones that of the first index.
type fronts[T any] []front[T]

func (h fronts[T]) Len() int { return len(h) }

func (h fronts[T]) Less(i, k int) bool {
	a, b := h[i].rest[0].key, h[k].rest[0].key
	return a < b || a == b && h[i].place < h[k].place
}

func (h fronts[T]) Swap(i, k int) { h[i], h[k] = h[k], h[i] }

func (h *fronts[T]) Push(x any) {
	if f, ok := x.(front[T]); ok {
		*h = append(*h, f)
	}
}

func (h *fronts[T]) Pop() any {
	last := len(*h) - 1
	f := (*h)[last]
	*h = (*h)[:last]
	return f
}

// Merge goes through all keys of all indexes, each once, with the value from the
// first index that has it.
func Merge[T any](l ...*Index[T]) iter.Seq2[string, T] {
	l = slices.Clone(l)
	return func(yield func(string, T) bool) {
		var h fronts[T]
		for i, x := range l {
			if rest := slices.Clone(x.all()); len(rest) > 0 {
				heap.Push(&h, front[T]{rest, i})
			}
		}
		last, begun := "", false
		for len(h) > 0 {
			e := h[0].rest[0]
			if (!begun || e.key != last) && !yield(e.key, e.v) {
				return
			}
			last, begun = e.key, true
			h[0].rest = h[0].rest[1:]
			if len(h[0].rest) == 0 {
				heap.Pop(&h)
			} else {
				heap.Fix(&h, 0)
			}
		}
	}
}

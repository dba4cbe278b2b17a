package tree

import (
	"iter"
	"slices"

	"tidewrack/api"
	"tidewrack/rev"
)

// growing is a tree that is being modified, and where its nodes stand. It may
// be as long as it likes, and need not be valid.
type growing struct {
	api.Tree
	index map[api.Rev]int
}

func grow(t api.Tree) growing {
	g := growing{t, map[api.Rev]int{}}
	for i, n := range g.Nodes {
		g.index[n.Rev] = i
	}
	return g
}

// leaf tells which nodes are leaves.
func (g growing) leaf() func(api.Node) bool {
	kids := map[api.Rev]int{}
	for _, n := range g.Nodes {
		kids[n.Parent]++
	}
	return func(n api.Node) bool { return kids[n.Rev] == 0 }
}

func (g growing) leaves() (count int) {
	leaf := g.leaf()
	for _, n := range g.Nodes {
		if leaf(n) {
			count++
		}
	}
	return count
}

// path goes through the first nodes of the path of r.
func (g growing) path(r api.Rev) iter.Seq[api.Node] {
	return func(yield func(api.Node) bool) {
		for range api.MaxDepth {
			i, ok := g.index[r]
			if !ok || !yield(g.Nodes[i]) {
				return
			}
			r = g.Nodes[i].Parent
		}
	}
}

// mayNode reports whether n can stand in the tree, be it a leaf or not.
func (g growing) mayNode(n api.Node) bool {
	if !rev.May(n.Rev) || n.Deleted != 0 && n.Deleted != 1 {
		return false
	}
	_, ok := g.index[n.Parent]
	return n.Parent == api.Rev{} || ok && n.Parent.Gen+1 == n.Rev.Gen
}

// fits reports whether the nodes on the path have no other parents there.
func (g growing) fits(path []api.Rev) bool {
	for i, r := range path[:len(path)-1] {
		k, ok := g.index[r]
		if ok && g.Nodes[k].Parent != (api.Rev{}) && g.Nodes[k].Parent != next(path, i) {
			return false
		}
	}
	return true
}

// add adds what is new on the path, whose first name is that of first.
func (g *growing) add(first api.Node, path []api.Rev) {
	for i, r := range path {
		k, ok := g.index[r]
		switch {
		case !ok && i == 0:
			g.Nodes = append(g.Nodes, first)
		case !ok:
			g.Nodes = append(g.Nodes, api.Node{Rev: r, Parent: next(path, i)})
		case g.Nodes[k].Parent == api.Rev{}:
			g.Nodes[k].Parent = next(path, i)
		}
	}
	slices.SortFunc(g.Nodes, func(a, b api.Node) int { return rev.Cmp(a.Rev, b.Rev) })
	*g = grow(g.Tree)
}

// normal returns the tree with what it needs alone.
func (g growing) normal() api.Tree {
	leaf := g.leaf()
	near := map[api.Rev]int{}
	for _, n := range g.Nodes {
		if leaf(n) {
			for p := range g.path(n.Rev) {
				near[p.Rev]++
			}
		}
	}
	var out api.Tree
	for _, n := range g.Nodes {
		if near[n.Rev] == 0 {
			continue
		}
		if !leaf(n) {
			n.Has, n.Body = 0, api.Value{}
		}
		if near[n.Parent] == 0 {
			n.Parent = api.Rev{}
		}
		out.Nodes = append(out.Nodes, n)
	}
	return out
}

package index

import (
	"cmp"
	"slices"

	"furlong/api"
	"furlong/geom"
	"furlong/wide"
)

// A node has at most most entries, and, but for the root, at least least: so each level has at most a least-th of the nodes below it, and the tree is low.
const (
	most  = 8
	least = 3
)

// node is one of the tree's: a leaf, if its level is 0, else each of its entries stands for a node of the level below.
type node struct {
	above   *node
	level   int
	entries []entry
}

// entry is an item, or stands for all that lie below: its Box is the least one about theirs, its Id the least of theirs. (So an entry of a node is behind no item below it, by distance and then by id.)
type entry struct {
	api.Item
	below *node
}

// lay lays e in a node of that level.
func (t *Tree) lay(e entry, level int) {
	if t.root == nil {
		t.root, t.leaves = &node{}, map[int]*node{}
	}
	n := t.root
	for n.level > level {
		n = n.fittest(e.Box)
	}
	t.adopt(n, e)
	t.settle(n)
}

// drop takes the item id out; false, if it is not held.
func (t *Tree) drop(id int) bool {
	leaf, is := t.leaves[id]
	if !is {
		return false
	}
	delete(t.leaves, id)
	leaf.entries = slices.DeleteFunc(leaf.entries, func(e entry) bool { return e.Id == id })
	for _, n := range condense(leaf) {
		for _, e := range n.entries {
			t.lay(e, n.level)
		}
	}
	t.shorten()
	return true
}

// adopt puts e behind n's entries.
func (t *Tree) adopt(n *node, e entry) {
	n.entries = append(n.entries, e)
	if e.below == nil {
		t.leaves[e.Id] = n
	} else {
		e.below.above = n
	}
}

// settle splits n, and what is above it, where there are too many entries, and sets right what stands for them.
func (t *Tree) settle(n *node) {
	for {
		var beside *node
		if len(n.entries) > most {
			beside = t.split(n)
		}
		if n.above == nil {
			t.raise(n, beside)
			return
		}
		n.above.renew(n)
		if beside != nil {
			t.adopt(n.above, beside.sum())
		}
		n = n.above
	}
}

// raise lays a new root over the two parts of the one that was split, if it was.
func (t *Tree) raise(n *node, beside *node) {
	if beside == nil {
		return
	}
	t.root = &node{level: n.level + 1}
	t.adopt(t.root, n.sum())
	t.adopt(t.root, beside.sum())
}

// split leaves n one part of its entries, and tells a node that has the other.
func (t *Tree) split(n *node) *node {
	stay, leave := parted(n.entries)
	n.entries = stay
	beside := &node{level: n.level}
	for _, e := range leave {
		t.adopt(beside, e)
	}
	return beside
}

// condense goes up from n, of which something was taken: a node that has too few entries now is cut off, what stands for others is set right. It tells those that were cut off, whose entries are to be laid anew.
func condense(n *node) []*node {
	var cut []*node
	for n.above != nil {
		above := n.above
		if len(n.entries) < least {
			above.entries = slices.DeleteFunc(above.entries, func(e entry) bool { return e.below == n })
			cut = append(cut, n)
		} else {
			above.renew(n)
		}
		n = above
	}
	return cut
}

// shorten takes off the levels that are not asked for: a root that stands for one node alone, or for nothing.
func (t *Tree) shorten() {
	for t.root.level > 0 && len(t.root.entries) == 1 {
		t.root = t.root.entries[0].below
		t.root.above = nil
	}
	if len(t.root.entries) == 0 {
		*t = Tree{}
	}
}

// fittest tells the node below n whose box has to grow least to have b in it; of like ones the least box.
func (n *node) fittest(b api.Box) *node {
	return slices.MinFunc(n.entries, func(x, y entry) int {
		return cmp.Or(wide.Cmp(growth(x.Box, b), growth(y.Box, b)), wide.Cmp(area(x.Box), area(y.Box)))
	}).below
}

// renew sets right what stands for below in n.
func (n *node) renew(below *node) {
	at := slices.IndexFunc(n.entries, func(e entry) bool { return e.below == below })
	n.entries[at] = below.sum()
}

// sum tells the entry that stands for n, which is not empty.
func (n *node) sum() entry {
	all := entry{Item: n.entries[0].Item, below: n}
	for _, e := range n.entries[1:] {
		all.Id = min(all.Id, e.Id)
		all.Box = join(all.Box, e.Box)
	}
	return all
}

// meeting puts the ids below n whose boxes meet b behind ids.
func (n *node) meeting(b api.Box, ids []int) []int {
	for _, e := range n.entries {
		switch {
		case !geom.Meet(e.Box, b):
		case e.below == nil:
			ids = append(ids, e.Id)
		default:
			ids = e.below.meeting(b, ids)
		}
	}
	return ids
}

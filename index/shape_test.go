package index

import (
	"slices"
	"testing"

	"furlong/api"
)

// checkShape holds the nodes against what they are to be: all leaves on one level, nodes neither too full nor too empty, what stands for a node just that, each item's leaf known.
func checkShape(t *testing.T, tree *Tree) {
	t.Helper()
	if tree.root == nil {
		if len(tree.leaves) != 0 || tree.Height() != 0 {
			t.Fatalf("without a root: %d leaves known, %d high", len(tree.leaves), tree.Height())
		}
		return
	}
	if tree.root.above != nil {
		t.Fatal("something is above the root")
	}
	if tree.root.level > 0 && len(tree.root.entries) < 2 {
		t.Fatalf("the root stands for %d node alone", len(tree.root.entries))
	}
	if count := checkNode(t, tree, tree.root); count != tree.Len() {
		t.Fatalf("P12.1: Len is %d of %d items", tree.Len(), count)
	}
	if high := levels(tree.root); tree.Height() != high {
		t.Fatalf("P12.2: Height is %d of %d levels", tree.Height(), high)
	}
}

// levels goes down to a leaf.
func levels(n *node) int {
	if n.entries[0].below == nil {
		return 1
	}
	return 1 + levels(n.entries[0].below)
}

// checkNode tells how many items are below n.
func checkNode(t *testing.T, tree *Tree, n *node) int {
	t.Helper()
	if len(n.entries) > most || len(n.entries) == 0 || n != tree.root && len(n.entries) < least {
		t.Fatalf("a node on level %d has %d entries", n.level, len(n.entries))
	}
	count := 0
	for _, e := range n.entries {
		if (n.level == 0) != (e.below == nil) {
			t.Fatalf("on level %d stands an entry with, or without, a node below", n.level)
		}
		if n.level == 0 {
			if tree.leaves[e.Id] != n {
				t.Fatalf("the leaf of %d is not known", e.Id)
			}
			count++
			continue
		}
		if e.below.above != n || e.below.level != n.level-1 {
			t.Fatalf("a node of level %d below one of level %d does not know it", e.below.level, n.level)
		}
		if all := itemsBelow(e.below); e.Item != leastItem(all) {
			t.Fatalf("%v stands for %v", e.Item, all)
		}
		count += checkNode(t, tree, e.below)
	}
	return count
}

func itemsBelow(n *node) []api.Item {
	var all []api.Item
	for _, e := range n.entries {
		if e.below == nil {
			all = append(all, e.Item)
		} else {
			all = append(all, itemsBelow(e.below)...)
		}
	}
	return all
}

// leastItem has the least Id and the least box about all.
func leastItem(all []api.Item) api.Item {
	of := all[0]
	for _, i := range all {
		of.Id = min(of.Id, i.Id)
		of.Box = boxOf(min(of.Box.X0, i.Box.X0), min(of.Box.Y0, i.Box.Y0), max(of.Box.X1, i.Box.X1), max(of.Box.Y1, i.Box.Y1))
	}
	return of
}

func entriesOf(boxes ...api.Box) []entry {
	var all []entry
	for i, b := range boxes {
		all = append(all, entry{Item: api.Item{Id: i + 1, Box: b}})
	}
	return all
}

func idsOf(all []entry) []int {
	var ids []int
	for _, e := range all {
		ids = append(ids, e.Id)
	}
	slices.Sort(ids)
	return ids
}

// checkParted: the two parts, whichever comes first, are these ids and all others.
func checkParted(t *testing.T, all []entry, want []int) {
	t.Helper()
	before := slices.Clone(all)
	one, two := parted(all)
	if !slices.Equal(all, before) {
		t.Fatal("parted changed what it was handed")
	}
	if !slices.Equal(idsOf(one), want) && !slices.Equal(idsOf(two), want) {
		t.Fatalf("%v are parted into %v and %v", all, idsOf(one), idsOf(two))
	}
	if both := idsOf(append(slices.Clone(one), two...)); !slices.Equal(both, idsOf(all)) {
		t.Fatalf("%v are parted into %v and %v", all, idsOf(one), idsOf(two))
	}
}

// TestPartedHeaps: two heaps that lie apart are parted so.
func TestPartedHeaps(t *testing.T) {
	heaps := entriesOf(
		placeBox(0, 0), boxOf(100, 100, 103, 101), placeBox(3, 1), boxOf(98, 99, 99, 99), boxOf(1, 1, 2, 2),
		placeBox(104, 97), boxOf(0, 3, 4, 4), placeBox(97, 97), boxOf(2, 0, 2, 5))
	checkParted(t, heaps, []int{1, 3, 5, 7, 9})
	row := entriesOf(
		placeBox(0, 9), placeBox(far, 9), placeBox(1, 9), placeBox(far-1, 9), placeBox(2, 9),
		placeBox(far-2, 9), placeBox(3, 9), placeBox(far-3, 9), placeBox(4, 9))
	checkParted(t, row, []int{1, 3, 5, 7, 9})
}

// TestPartedWithTooFew: one that lies far off gets two others to itself, the nearest ones.
func TestPartedWithTooFew(t *testing.T) {
	all := entriesOf(
		placeBox(0, 0), placeBox(1, 1), placeBox(2, 2), placeBox(3, 3), placeBox(4, 4),
		placeBox(5, 5), placeBox(6, 6), placeBox(7, 7), placeBox(far, far))
	checkParted(t, all, []int{7, 8, 9})
}

// TestPartedAlike: what is all the same is parted as well, none of the parts too small.
func TestPartedAlike(t *testing.T) {
	for _, b := range []api.Box{placeBox(0, 0), placeBox(far, far), allOfGrid(), boxOf(5, 6, 7, 8)} {
		one, two := parted(entriesOf(b, b, b, b, b, b, b, b, b))
		if len(one) < least || len(two) < least || len(one)+len(two) != 9 {
			t.Fatalf("nine of %v are parted into %v and %v", b, idsOf(one), idsOf(two))
		}
	}
}

// TestFittest: the box that has to grow least, then the least box.
func TestFittest(t *testing.T) {
	n := &node{level: 1}
	boxes := []api.Box{boxOf(0, 0, 50, 50), boxOf(10, 10, 20, 20), boxOf(5, 5, 30, 30), boxOf(60, 0, 60, 0), boxOf(0, 90, far, 90)}
	for _, e := range entriesOf(boxes...) {
		e.below = &node{}
		n.entries = append(n.entries, e)
	}
	rows := []struct {
		b    api.Box
		want int
	}{
		{placeBox(15, 15), 1}, {boxOf(10, 10, 20, 20), 1}, {boxOf(10, 10, 21, 20), 2}, {placeBox(3, 3), 0}, {placeBox(60, 0), 3}, {placeBox(61, 0), 3},
		{boxOf(0, 0, 50, 50), 0}, {placeBox(40, 90), 4}, {placeBox(far, 90), 4}, {placeBox(51, 30), 0},
	}
	for _, row := range rows {
		if n.fittest(row.b) != n.entries[row.want].below {
			t.Errorf("%v does not go to %v", row.b, boxes[row.want])
		}
	}
}

// TestCondensed: a tree of few items is low again, however many there were.
func TestCondensed(t *testing.T) {
	tree := New()
	for id := 1; id <= 3000; id++ {
		put(t, tree, id, placeBox(id*7919%5003, id*104729%4999))
	}
	high := tree.Height()
	for id := 3000; id > 5; id-- {
		remove(t, tree, id)
		if id%50 == 0 {
			checkShape(t, tree)
		}
	}
	checkShape(t, tree)
	if high < 4 || tree.Height() != 1 {
		t.Errorf("P12.2: Height was %d, and is %d of 5 items", high, tree.Height())
	}
}

// TestLooksAtFewNodes: of many places a search for one is led to few nodes.
func TestLooksAtFewNodes(t *testing.T) {
	tree := New()
	const side = 128
	for n := range side * side {
		// 5 and 2^14 have no factor in common: all places of a square are come to.
		at := n * 5 % (side * side)
		put(t, tree, n+1, placeBox(at%side*1000, at/side*1000))
	}
	checkShape(t, tree)
	looked := 0
	for x := range side {
		looked += nodesMeeting(tree.root, placeBox(x*1000, x*1000))
	}
	if tree.Height() > 8 || looked > 40*side {
		t.Errorf("of %d places, %d high: %d searches look at %d nodes", side*side, tree.Height(), side, looked)
	}
}

// nodesMeeting counts the nodes that a search goes through.
func nodesMeeting(n *node, b api.Box) int {
	count := 1
	for _, e := range n.entries {
		apart := e.Box.X1 < b.X0 || e.Box.X0 > b.X1 || e.Box.Y1 < b.Y0 || e.Box.Y0 > b.Y1
		if e.below != nil && !apart {
			count += nodesMeeting(e.below, b)
		}
	}
	return count
}

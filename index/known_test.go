package index

import (
	"slices"
	"testing"

	"furlong/api"
)

// knownItems are boxes, rows and places beside, in and over one another.
func knownItems() plain {
	return plain{
		{Id: 1, Box: boxOf(0, 0, 2, 2)},
		{Id: 2, Box: boxOf(4, 0, 6, 2)},
		{Id: 3, Box: boxOf(0, 4, 2, 6)},
		{Id: 4, Box: boxOf(4, 4, 6, 6)},
		{Id: 5, Box: placeBox(3, 3)},
		{Id: 6, Box: boxOf(1, 1, 5, 5)},
		{Id: 7, Box: placeBox(2, 2)},
		{Id: 8, Box: boxOf(0, 3, 9, 3)},
		{Id: 9, Box: placeBox(9, 9)},
		{Id: 10, Box: boxOf(8, 8, 10, 10)},
		{Id: 11, Box: allOfGrid()},
		{Id: 12, Box: placeBox(far, far)},
	}
}

type searchRow struct {
	b    api.Box
	want []int
}

type nearRow struct {
	p    api.Point
	want []int
}

func knownSearches() []searchRow {
	return []searchRow{
		{placeBox(3, 3), []int{5, 6, 8, 11}},
		{placeBox(2, 2), []int{1, 6, 7, 11}},
		{placeBox(6, 2), []int{2, 11}},
		{boxOf(6, 0, 8, 2), []int{2, 11}},
		{boxOf(7, 0, 8, 2), []int{11}},
		{boxOf(7, 4, 7, 7), []int{11}},
		{boxOf(3, 0, 3, 2), []int{6, 11}},
		{boxOf(9, 3, 9, 9), []int{8, 9, 10, 11}},
		{boxOf(10, 10, 20, 20), []int{10, 11}},
		{boxOf(2, 2, 4, 4), []int{1, 2, 3, 4, 5, 6, 7, 8, 11}},
		{boxOf(0, 0, 10, 10), []int{1, 2, 3, 4, 5, 6, 7, 8, 9, 10, 11}},
		{boxOf(far-1, far-1, far, far), []int{11, 12}},
		{boxOf(11, 11, far-1, far), []int{11}},
		{allOfGrid(), []int{1, 2, 3, 4, 5, 6, 7, 8, 9, 10, 11, 12}},
	}
}

func knownNears() []nearRow {
	return []nearRow{
		// The squares: 0 0 0 0, 2 2 2 2 2, 50, 72, and far off.
		{api.Point{X: 3, Y: 3}, []int{5, 6, 8, 11, 1, 2, 3, 4, 7, 10, 9, 12}},
		// 0 0, 2, 8, 9, 16 16, 18, 32, 128, 162, and far off.
		{api.Point{}, []int{1, 11, 6, 7, 8, 2, 3, 5, 4, 10, 9, 12}},
		// 0 0, 2, 8, 9, 16 16, 18 18, 32 32, and far off.
		{api.Point{X: 6, Y: 6}, []int{4, 11, 6, 10, 8, 2, 3, 5, 9, 1, 7, 12}},
		// Squares of 65 bits: 4's is 18 less than 8's, which as floats are the same.
		{api.Point{X: far, Y: far}, []int{11, 12, 10, 9, 4, 8, 6, 2, 3, 5, 1, 7}},
	}
}

func checkKnown(t *testing.T, tree *Tree) {
	t.Helper()
	checkSize(t, tree, 12)
	for _, row := range knownSearches() {
		checkSearch(t, tree, row.b, row.want)
	}
	for _, row := range knownNears() {
		for k := range len(row.want) + 3 {
			checkNear(t, tree, row.p, k, row.want[:min(k, len(row.want))])
		}
	}
}

// TestKnownTree puts known items in several rows.
func TestKnownTree(t *testing.T) {
	items := knownItems()
	checkKnown(t, treeOf(t, items))
	slices.Reverse(items)
	checkKnown(t, treeOf(t, items))
	for step := range 12 {
		tree := New()
		for i := range items {
			// 5 and 12 have no factor in common: all are gone through.
			item := items[(5*i+step)%12]
			put(t, tree, item.Id, item.Box)
		}
		checkKnown(t, tree)
	}
}

// TestPutAnew: an item's elder box counts no more.
func TestPutAnew(t *testing.T) {
	tree := treeOf(t, knownItems())
	put(t, tree, 5, placeBox(20, 20))
	checkSize(t, tree, 12)
	checkSearch(t, tree, placeBox(3, 3), []int{6, 8, 11})
	checkSearch(t, tree, boxOf(20, 20, 21, 21), []int{5, 11})
	checkNear(t, tree, api.Point{X: 21, Y: 21}, 3, []int{11, 5, 10})
	checkNear(t, tree, api.Point{X: 3, Y: 3}, 12, []int{6, 8, 11, 1, 2, 3, 4, 7, 10, 9, 5, 12})

	put(t, tree, 11, placeBox(21, 22))
	checkSize(t, tree, 12)
	checkSearch(t, tree, boxOf(20, 20, 21, 21), []int{5})
	checkSearch(t, tree, boxOf(20, 20, 21, 22), []int{5, 11})
	checkNear(t, tree, api.Point{X: 21, Y: 21}, 3, []int{11, 5, 10})

	put(t, tree, 11, allOfGrid())
	put(t, tree, 5, placeBox(3, 3))
	checkKnown(t, tree)
	for _, i := range knownItems() {
		put(t, tree, i.Id, i.Box)
	}
	checkKnown(t, tree)
}

// TestRemove: what is removed is found no more, until it is put again.
func TestRemove(t *testing.T) {
	tree := treeOf(t, knownItems())
	remove(t, tree, 11)
	checkSize(t, tree, 11)
	checkSearch(t, tree, placeBox(3, 3), []int{5, 6, 8})
	checkSearch(t, tree, boxOf(7, 4, 7, 7), nil)
	checkSearch(t, tree, allOfGrid(), []int{1, 2, 3, 4, 5, 6, 7, 8, 9, 10, 12})
	checkNear(t, tree, api.Point{X: 3, Y: 3}, 4, []int{5, 6, 8, 1})

	for _, id := range []int{5, 6, 8, 1} {
		remove(t, tree, id)
	}
	checkSize(t, tree, 7)
	checkSearch(t, tree, boxOf(0, 0, 10, 10), []int{2, 3, 4, 7, 9, 10})
	checkNear(t, tree, api.Point{X: 3, Y: 3}, 100, []int{2, 3, 4, 7, 10, 9, 12})

	for _, id := range []int{2, 12, 3, 4, 10, 9} {
		remove(t, tree, id)
	}
	checkSize(t, tree, 1)
	checkSearch(t, tree, allOfGrid(), []int{7})
	checkNear(t, tree, api.Point{X: far}, 2, []int{7})
	remove(t, tree, 7)
	checkSize(t, tree, 0)
	checkSearch(t, tree, allOfGrid(), nil)
	checkNear(t, tree, api.Point{}, 2, nil)

	for _, i := range knownItems() {
		put(t, tree, i.Id, i.Box)
	}
	checkKnown(t, tree)
	for _, i := range knownItems() {
		remove(t, tree, i.Id)
		put(t, tree, i.Id, i.Box)
		checkKnown(t, tree)
	}
}

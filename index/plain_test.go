package index

import (
	"math/bits"
	"slices"
	"testing"

	"furlong/api"
)

const far = api.MaxCoord

func boxOf(x0, y0, x1, y1 int) api.Box {
	return api.Box{X0: x0, Y0: y0, X1: x1, Y1: y1}
}

// boxBetween has the corners x, y and v, w, whichever of them lies first.
func boxBetween(x, y, v, w int) api.Box {
	return boxOf(min(x, v), min(y, w), max(x, v), max(y, w))
}

func placeBox(x, y int) api.Box {
	return boxOf(x, y, x, y)
}

func allOfGrid() api.Box {
	return boxOf(0, 0, far, far)
}

// cornersOfGrid are the four places at the grid's corners.
func cornersOfGrid() []api.Point {
	return []api.Point{{}, {X: far}, {Y: far}, {X: far, Y: far}}
}

// plain is what a tree is to answer: a list of items, by Id.
type plain []api.Item

func (l plain) at(id int) (int, bool) {
	return slices.BinarySearchFunc(l, id, func(i api.Item, id int) int { return i.Id - id })
}

func (l *plain) put(i api.Item) {
	at, is := l.at(i.Id)
	if is {
		(*l)[at] = i
		return
	}
	*l = slices.Insert(*l, at, i)
}

func (l *plain) remove(id int) bool {
	at, is := l.at(id)
	if is {
		*l = slices.Delete(*l, at, at+1)
	}
	return is
}

// search asks each item in its turn.
func (l plain) search(b api.Box) []int {
	var ids []int
	for _, i := range l {
		apart := i.Box.X1 < b.X0 || i.Box.X0 > b.X1 || i.Box.Y1 < b.Y0 || i.Box.Y0 > b.Y1
		if !apart {
			ids = append(ids, i.Id)
		}
	}
	return ids
}

// near sorts all items.
func (l plain) near(p api.Point, k int) []int {
	type row struct {
		far [2]uint64
		id  int
	}
	var rows []row
	for _, i := range l {
		rows = append(rows, row{squareTo(p, i.Box), i.Id})
	}
	slices.SortFunc(rows, func(a, b row) int {
		if order := slices.Compare(a.far[:], b.far[:]); order != 0 {
			return order
		}
		return a.id - b.id
	})
	var ids []int
	for _, r := range rows[:min(k, len(rows))] {
		ids = append(ids, r.id)
	}
	return ids
}

// squareTo is the square of the distance from p to the nearest place of b, in two words of 64 bits.
func squareTo(p api.Point, b api.Box) [2]uint64 {
	x, y := outside(p.X, b.X0, b.X1), outside(p.Y, b.Y0, b.Y1)
	high, low := bits.Mul64(x, x)
	high2, low2 := bits.Mul64(y, y)
	sum, carry := bits.Add64(low, low2, 0)
	return [2]uint64{high + high2 + carry, sum}
}

// outside is how far x is from the nearest of the numbers from low to high.
func outside(x, low, high int) uint64 {
	switch {
	case x < low:
		return uint64(low - x)
	case x > high:
		return uint64(x - high)
	}
	return 0
}

// put puts an item that may be.
func put(t *testing.T, tree *Tree, id int, b api.Box) {
	t.Helper()
	if e := tree.Put(api.Item{Id: id, Box: b}); e != api.OK {
		t.Fatalf("P12.1: Put of %d, %v is refused: %d", id, b, e)
	}
}

// remove removes an item that is held.
func remove(t *testing.T, tree *Tree, id int) {
	t.Helper()
	if e := tree.Remove(id); e != api.OK {
		t.Fatalf("P12.1: Remove of %d, which is held, is refused: %d", id, e)
	}
}

// treeOf holds what l has, put in its row.
func treeOf(t *testing.T, l plain) *Tree {
	t.Helper()
	tree := New()
	for _, i := range l {
		put(t, tree, i.Id, i.Box)
	}
	return tree
}

func checkSearch(t *testing.T, tree *Tree, b api.Box, want []int) {
	t.Helper()
	if got, e := tree.Search(b); !slices.Equal(got, want) || e != api.OK {
		t.Fatalf("P12.1: Search(%v) is %v, %d, not %v", b, got, e, want)
	}
}

func checkNear(t *testing.T, tree *Tree, p api.Point, k int, want []int) {
	t.Helper()
	if got, e := tree.Near(p, k); !slices.Equal(got, want) || e != api.OK {
		t.Fatalf("P12.1: Near(%v, %d) is %v, %d, not %v", p, k, got, e, want)
	}
}

// checkSize holds Len and Height against how many are held.
func checkSize(t *testing.T, tree *Tree, want int) {
	t.Helper()
	if got := tree.Len(); got != want {
		t.Fatalf("P12.1: Len is %d, not %d", got, want)
	}
	digits := 0
	for n := want; n > 0; n /= 2 {
		digits++
	}
	high := tree.Height()
	if want == 0 && high != 0 || want > 0 && (high < 1 || high > digits+1) {
		t.Fatalf("P12.2: Height is %d, of %d items", high, want)
	}
}

// checkTree holds all calls that change nothing against a list.
func checkTree(t *testing.T, tree *Tree, l plain, boxes []api.Box, places []api.Point, ks []int) {
	t.Helper()
	checkSize(t, tree, len(l))
	for _, b := range boxes {
		checkSearch(t, tree, b, l.search(b))
	}
	for _, p := range places {
		for _, k := range ks {
			checkNear(t, tree, p, k, l.near(p, k))
		}
	}
}

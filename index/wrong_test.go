package index

import (
	"math"
	"reflect"
	"testing"

	"furlong/api"
)

// wrongCoords are no coordinates; the later ones would be, if bits were lost.
func wrongCoords() []int {
	return []int{-1, far + 1, -2, far + 2, 1<<33 + 5, -far, -1 << 32, 1 << 62, math.MinInt, math.MinInt + 1, math.MaxInt}
}

// wrongBoxes may not be: each of their four numbers in its turn, one corner behind the other, and more of it at one time.
func wrongBoxes() []api.Box {
	all := []api.Box{
		{X0: 1}, {Y0: 1}, {X0: 1, Y0: 1}, boxOf(6, 5, 5, 9), boxOf(5, 6, 9, 5), boxOf(far, 0, far-1, far), boxOf(0, far, far, far-1), boxOf(far, far, 0, 0),
		boxOf(-1, -1, far+1, far+1), boxOf(math.MinInt, math.MinInt, math.MaxInt, math.MaxInt), boxOf(math.MaxInt, math.MaxInt, math.MinInt, math.MinInt),
	}
	for _, w := range wrongCoords() {
		all = append(all, boxOf(w, 0, far, far), boxOf(0, w, far, far), boxOf(0, 0, w, far), boxOf(0, 0, far, w), boxOf(w, w, w, w))
	}
	return all
}

func wrongPlaces() []api.Point {
	var all []api.Point
	for _, w := range wrongCoords() {
		all = append(all, api.Point{X: w}, api.Point{Y: w}, api.Point{X: w, Y: far}, api.Point{X: far, Y: w}, api.Point{X: w, Y: w})
	}
	return all
}

// wrongIds are no item's.
func wrongIds() []int {
	return []int{0, -1, -2, api.MaxId + 1, api.MaxId + 2, 2 * api.MaxId, 1<<16 + 5, 1<<32 + 5, 1<<33 + 1, -api.MaxId, math.MinInt, math.MinInt + 5, math.MaxInt}
}

// sizes are how many items are put ahead of the wrong calls: none, one, a leaf, and several levels.
func sizes() []int {
	return []int{0, 1, 7, 8, 9, 200}
}

// sized tells a tree of so many items, of which the last one is put and removed again.
func sized(t *testing.T, n int) (*Tree, plain) {
	t.Helper()
	tree := New()
	var items plain
	for id := 1; id <= n; id++ {
		item := api.Item{Id: id, Box: boxOf(id%9, id%14, id%9+id%4, id%14+id%6)}
		items.put(item)
		put(t, tree, item.Id, item.Box)
	}
	put(t, tree, 60000, placeBox(3, 4))
	remove(t, tree, 60000)
	return tree, items
}

// checkUnchanged holds a tree, behind calls that were refused, against one that had none.
func checkUnchanged(t *testing.T, tree *Tree, n int) {
	t.Helper()
	same, items := sized(t, n)
	if !reflect.DeepEqual(tree, same) {
		t.Fatalf("R5: of %d items: calls that were refused have changed the tree", n)
	}
	checkTree(t, tree, items, []api.Box{allOfGrid(), boxOf(3, 3, 5, 5), placeBox(0, 0)}, []api.Point{{}, {X: 4, Y: 9}, {X: far}}, []int{0, 1, 20, n, n + 1})
}

func checkPutRefused(t *testing.T, tree *Tree, i api.Item) {
	t.Helper()
	if e := tree.Put(i); e != api.ErrIndexForm {
		t.Errorf("P12.1: Put of %v is %d", i, e)
	}
}

func TestPutOfWrongIds(t *testing.T) {
	for _, n := range sizes() {
		tree, _ := sized(t, n)
		for _, id := range wrongIds() {
			checkPutRefused(t, tree, api.Item{Id: id})
			checkPutRefused(t, tree, api.Item{Id: id, Box: boxOf(3, 4, 5, 6)})
			checkPutRefused(t, tree, api.Item{Id: id, Box: allOfGrid()})
			checkPutRefused(t, tree, api.Item{Id: id, Box: api.Box{X0: 1}})
		}
		checkUnchanged(t, tree, n)
	}
}

// TestPutOfWrongBoxes: an elder item of the Id stays what it was.
func TestPutOfWrongBoxes(t *testing.T) {
	for _, n := range sizes() {
		tree, _ := sized(t, n)
		for _, b := range wrongBoxes() {
			for _, id := range []int{1, 5, 9, 60000, api.MaxId} {
				checkPutRefused(t, tree, api.Item{Id: id, Box: b})
			}
		}
		checkUnchanged(t, tree, n)
	}
}

func TestSearchOfWrongBoxes(t *testing.T) {
	for _, n := range sizes() {
		tree, _ := sized(t, n)
		for _, b := range wrongBoxes() {
			if ids, e := tree.Search(b); len(ids) != 0 || e != api.ErrIndexForm {
				t.Errorf("P12.1: of %d items: Search(%v) is %v, %d", n, b, ids, e)
			}
		}
		checkUnchanged(t, tree, n)
	}
}

func checkNearRefused(t *testing.T, tree *Tree, p api.Point, k int) {
	t.Helper()
	if ids, e := tree.Near(p, k); len(ids) != 0 || e != api.ErrIndexForm {
		t.Errorf("P12.1: of %d items: Near(%v, %d) is %v, %d", tree.Len(), p, k, ids, e)
	}
}

func TestNearOfWrongPlaces(t *testing.T) {
	for _, n := range sizes() {
		tree, _ := sized(t, n)
		for _, p := range wrongPlaces() {
			for _, k := range []int{0, 1, n, math.MaxInt, -1} {
				checkNearRefused(t, tree, p, k)
			}
		}
		checkUnchanged(t, tree, n)
	}
}

func TestNearOfWrongCounts(t *testing.T) {
	for _, n := range sizes() {
		tree, _ := sized(t, n)
		for _, k := range []int{-1, -2, -api.MaxId, -1 << 32, math.MinInt, math.MinInt + 1} {
			for _, p := range append(cornersOfGrid(), api.Point{X: 4, Y: 4}) {
				checkNearRefused(t, tree, p, k)
			}
		}
		checkUnchanged(t, tree, n)
	}
}

func checkRemoveRefused(t *testing.T, tree *Tree, id int) {
	t.Helper()
	if e := tree.Remove(id); e != api.ErrIndexNone {
		t.Errorf("P12.1: of %d items: Remove(%d) is %d", tree.Len(), id, e)
	}
}

// TestRemoveOfNone: ids that were never held, that may not be, and one that was held.
func TestRemoveOfNone(t *testing.T) {
	for _, n := range sizes() {
		tree, _ := sized(t, n)
		for _, id := range append(wrongIds(), n+1, n+2, 60000, api.MaxId) {
			checkRemoveRefused(t, tree, id)
			checkRemoveRefused(t, tree, id)
		}
		checkUnchanged(t, tree, n)
	}
}

// TestRemoveTwice: each id, the second time with all others gone or not.
func TestRemoveTwice(t *testing.T) {
	tree, items := sized(t, 100)
	for _, i := range items {
		remove(t, tree, i.Id)
		checkRemoveRefused(t, tree, i.Id)
		checkSize(t, tree, 100-i.Id)
	}
	for _, i := range items {
		checkRemoveRefused(t, tree, i.Id)
	}
	put(t, tree, 5, placeBox(1, 1))
	checkRemoveRefused(t, tree, 4)
	remove(t, tree, 5)
	checkRemoveRefused(t, tree, 5)
	checkEmpty(t, tree)
}

// TestNilTree: each method, whatever it is handed.
func TestNilTree(t *testing.T) {
	var none *Tree
	for _, i := range []api.Item{{}, {Id: 1}, {Id: 1, Box: allOfGrid()}, {Id: -1}, {Id: 1, Box: api.Box{X0: 1}}} {
		if e := none.Put(i); e != api.ErrNil {
			t.Errorf("R3: Put(%v) is %d", i, e)
		}
	}
	for _, id := range []int{1, 0, api.MaxId, -1} {
		if e := none.Remove(id); e != api.ErrNil {
			t.Errorf("R3: Remove(%d) is %d", id, e)
		}
	}
	for _, b := range []api.Box{{}, allOfGrid(), {X0: 1}} {
		if ids, e := none.Search(b); len(ids) != 0 || e != api.ErrNil {
			t.Errorf("R3: Search(%v) is %v, %d", b, ids, e)
		}
	}
	for _, p := range []api.Point{{}, {X: far}, {X: -1}} {
		for _, k := range []int{0, 1, -1} {
			if ids, e := none.Near(p, k); len(ids) != 0 || e != api.ErrNil {
				t.Errorf("R3: Near(%v, %d) is %v, %d", p, k, ids, e)
			}
		}
	}
	if none.Len() != 0 || none.Height() != 0 {
		t.Errorf("R3: Len is %d, Height is %d", none.Len(), none.Height())
	}
}

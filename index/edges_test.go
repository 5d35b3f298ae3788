package index

import (
	"math"
	"testing"

	"furlong/api"
)

// checkEmpty holds a tree against one that holds nothing.
func checkEmpty(t *testing.T, tree *Tree) {
	t.Helper()
	checkSize(t, tree, 0)
	for _, b := range []api.Box{{}, placeBox(far, far), allOfGrid(), boxOf(3, 4, 50, 60)} {
		checkSearch(t, tree, b, nil)
	}
	for _, p := range cornersOfGrid() {
		for _, k := range []int{0, 1, 2, api.MaxId, math.MaxInt} {
			checkNear(t, tree, p, k, nil)
		}
	}
	for _, id := range []int{1, 2, api.MaxId} {
		if e := tree.Remove(id); e != api.ErrIndexNone {
			t.Errorf("P12.1: Remove of %d, of no items, is %d", id, e)
		}
	}
	checkSize(t, tree, 0)
}

func TestNoItem(t *testing.T) {
	checkEmpty(t, New())
	tree := New()
	for range 3 {
		put(t, tree, 9, boxOf(1, 2, 3, 4))
		remove(t, tree, 9)
		checkEmpty(t, tree)
	}
	for id := 1; id <= 100; id++ {
		put(t, tree, id, placeBox(id%7, id%11))
	}
	for id := 1; id <= 100; id++ {
		remove(t, tree, id)
	}
	checkEmpty(t, tree)
}

// TestZeroTree: a tree that New did not make.
func TestZeroTree(t *testing.T) {
	checkEmpty(t, &Tree{})
	var tree Tree
	for _, i := range knownItems() {
		put(t, &tree, i.Id, i.Box)
	}
	checkKnown(t, &tree)
}

func TestOneItem(t *testing.T) {
	for _, id := range []int{1, 2, 300, api.MaxId - 1, api.MaxId} {
		for _, b := range []api.Box{placeBox(0, 0), placeBox(far, far), placeBox(far, 0), placeBox(70, 80), boxOf(0, 9, far, 9), boxOf(9, 0, 9, far), allOfGrid()} {
			tree := New()
			put(t, tree, id, b)
			checkSize(t, tree, 1)
			checkSearch(t, tree, b, []int{id})
			checkSearch(t, tree, placeBox(b.X1, b.Y0), []int{id})
			checkSearch(t, tree, allOfGrid(), []int{id})
			for _, p := range cornersOfGrid() {
				checkNear(t, tree, p, 0, nil)
				for _, k := range []int{1, 2, 100, math.MaxInt - 1, math.MaxInt} {
					checkNear(t, tree, p, k, []int{id})
				}
			}
			put(t, tree, id, b)
			checkSize(t, tree, 1)
			remove(t, tree, id)
			checkEmpty(t, tree)
		}
	}
}

// TestLeastAndGreatestId beside one another.
func TestLeastAndGreatestId(t *testing.T) {
	tree := New()
	put(t, tree, api.MaxId, placeBox(5, 5))
	put(t, tree, 1, placeBox(5, 5))
	checkSize(t, tree, 2)
	checkSearch(t, tree, placeBox(5, 5), []int{1, api.MaxId})
	checkNear(t, tree, api.Point{X: 1}, 1, []int{1})
	checkNear(t, tree, api.Point{X: 1}, 2, []int{1, api.MaxId})
	put(t, tree, api.MaxId, placeBox(4, 5))
	checkNear(t, tree, api.Point{X: 1}, 2, []int{api.MaxId, 1})
	remove(t, tree, 1)
	checkSearch(t, tree, allOfGrid(), []int{api.MaxId})
}

// TestTouch: boxes about (10, 10)-(20, 20), at its sides and corners, and a place off them.
func TestTouch(t *testing.T) {
	middle := boxOf(10, 10, 20, 20)
	touching := []api.Box{
		boxOf(0, 12, 10, 13), boxOf(20, 12, 30, 13), boxOf(12, 0, 13, 10), boxOf(12, 20, 13, 30),
		boxOf(0, 0, 10, 10), boxOf(20, 0, 30, 10), boxOf(0, 20, 10, 30), boxOf(20, 20, 30, 30),
		placeBox(10, 10), placeBox(20, 10), placeBox(10, 20), placeBox(20, 20), placeBox(10, 15), placeBox(20, 15), placeBox(15, 10), placeBox(15, 20),
		boxOf(0, 10, far, 10), boxOf(0, 20, far, 20), boxOf(10, 0, 10, far), boxOf(20, 0, 20, far),
	}
	beside := []api.Box{
		boxOf(0, 12, 9, 13), boxOf(21, 12, 30, 13), boxOf(12, 0, 13, 9), boxOf(12, 21, 13, 30),
		boxOf(0, 0, 9, 9), boxOf(0, 0, 9, 10), boxOf(0, 0, 10, 9), boxOf(21, 0, 30, 10), boxOf(20, 0, 30, 9), boxOf(0, 21, 10, 30), boxOf(0, 20, 9, 30), boxOf(21, 20, 30, 30), boxOf(20, 21, 30, 30),
		placeBox(9, 10), placeBox(10, 9), placeBox(21, 10), placeBox(20, 9), placeBox(9, 20), placeBox(10, 21), placeBox(21, 20), placeBox(20, 21),
		boxOf(0, 9, far, 9), boxOf(0, 21, far, 21), boxOf(9, 0, 9, far), boxOf(21, 0, 21, far),
	}
	tree := New()
	var want []int
	for i, b := range append(touching, beside...) {
		put(t, tree, i+1, b)
		if i < len(touching) {
			want = append(want, i+1)
		}
		alone := New()
		put(t, alone, 7, b)
		if i < len(touching) {
			checkSearch(t, alone, middle, []int{7})
		} else {
			checkSearch(t, alone, middle, nil)
		}
		put(t, alone, 7, middle)
		if i < len(touching) {
			checkSearch(t, alone, b, []int{7})
		} else {
			checkSearch(t, alone, b, nil)
		}
	}
	checkSearch(t, tree, middle, want)
}

// TestPlaceInAndBesideABox: in a box, on its sides and at its corners it is at distance 0, and the Id alone counts.
func TestPlaceInAndBesideABox(t *testing.T) {
	tree := New()
	put(t, tree, 9, boxOf(10, 10, 20, 30))
	put(t, tree, 4, boxOf(11, 12, 60, 70))
	put(t, tree, 6, placeBox(20, 30))
	rows := []nearRow{
		{api.Point{X: 15, Y: 15}, []int{4, 9, 6}},
		{api.Point{X: 11, Y: 15}, []int{4, 9, 6}},
		{api.Point{X: 15, Y: 12}, []int{4, 9, 6}},
		{api.Point{X: 20, Y: 30}, []int{4, 6, 9}},
		{api.Point{X: 10, Y: 15}, []int{9, 4, 6}},
		{api.Point{X: 15, Y: 10}, []int{9, 4, 6}},
		{api.Point{X: 10, Y: 10}, []int{9, 4, 6}},
		{api.Point{X: 20, Y: 10}, []int{9, 4, 6}},
		{api.Point{X: 21, Y: 30}, []int{4, 6, 9}},
		{api.Point{X: 21, Y: 31}, []int{4, 6, 9}},
		// The squares 1, 0 and 100; 81 + 18^2, 80^2 and 70^2.
		{api.Point{X: 10, Y: 30}, []int{9, 4, 6}},
		{api.Point{X: 20, Y: 100}, []int{4, 6, 9}},
		{api.Point{X: 100, Y: 20}, []int{4, 9, 6}},
		// The corners: squares of the nearest corners' ways.
		{api.Point{}, []int{9, 4, 6}},
		{api.Point{X: far, Y: far}, []int{4, 6, 9}},
		{api.Point{X: far}, []int{4, 9, 6}},
		{api.Point{Y: far}, []int{4, 9, 6}},
	}
	for _, row := range rows {
		for k := range 4 {
			checkNear(t, tree, row.p, k, row.want[:k])
		}
	}
}

// TestAllAtTheSameDistance: places about (50, 50), 25 away, and boxes that come as near.
func TestAllAtTheSameDistance(t *testing.T) {
	ways := [][2]int{{25, 0}, {-25, 0}, {0, 25}, {0, -25}, {7, 24}, {-7, 24}, {7, -24}, {-7, -24}, {24, 7}, {-24, 7}, {24, -7}, {-24, -7}, {15, 20}, {-15, 20}, {15, -20}, {-15, -20}, {20, 15}, {-20, 15}, {20, -15}, {-20, -15}}
	for _, step := range []int{1, 3, 7, 9, 11, 13, 17, 19} {
		tree := New()
		var want []int
		for i := range ways {
			// Steps that have no factor in common with 20: all Ids come, in another row each time.
			id := 1 + i*step%len(ways)
			x, y := 50+ways[i][0], 50+ways[i][1]
			if i%3 == 0 {
				put(t, tree, id, boxBetween(x, y, x+ways[i][0], y+ways[i][1]))
			} else {
				put(t, tree, id, placeBox(x, y))
			}
			want = append(want, i+1)
		}
		// The squares 625 of all these, 626 and 676.
		put(t, tree, 30, placeBox(75, 51))
		put(t, tree, 31, placeBox(50, 24))
		want = append(want, 30, 31)
		for k := range len(want) + 2 {
			checkNear(t, tree, api.Point{X: 50, Y: 50}, k, want[:min(k, len(want))])
		}
	}
}

// TestCornersOfGrid: the greatest distances, of which those from corner to corner have 65 bits, and others that are one off.
func TestCornersOfGrid(t *testing.T) {
	tree := New()
	items := plain{
		{Id: 1, Box: placeBox(far, far)},
		{Id: 2, Box: placeBox(far-1, far)},
		{Id: 3, Box: placeBox(far, far-1)},
		{Id: 4, Box: placeBox(far, 0)},
		{Id: 5, Box: placeBox(0, far)},
		{Id: 6, Box: placeBox(0, 0)},
		{Id: 7, Box: placeBox(far-1, far-1)},
		{Id: 8, Box: boxOf(far-2, far, far, far)},
		{Id: 9, Box: placeBox(far-1, 0)},
		{Id: 10, Box: placeBox(1<<31, 1<<31)},
	}
	for _, i := range items {
		put(t, tree, i.Id, i.Box)
	}
	rows := []nearRow{
		{api.Point{}, []int{6, 10, 9, 4, 5, 7, 8, 2, 3, 1}},
		{api.Point{X: far, Y: far}, []int{1, 8, 2, 3, 7, 10, 4, 5, 9, 6}},
		{api.Point{X: far}, []int{4, 9, 10, 3, 7, 1, 6, 8, 2, 5}},
	}
	for _, row := range rows {
		for k := range len(row.want) + 1 {
			checkNear(t, tree, row.p, k, row.want[:k])
		}
	}
	for _, p := range cornersOfGrid() {
		for k := range 12 {
			checkNear(t, tree, p, k, items.near(p, k))
		}
	}
}

// TestOneAndTheSameBox: many items of it.
func TestOneAndTheSameBox(t *testing.T) {
	for _, b := range []api.Box{placeBox(0, 0), placeBox(far, far), allOfGrid(), boxOf(7, 7, 9, 8)} {
		tree := New()
		var all []int
		for n := range 400 {
			// 211 and 400 have no factor in common.
			put(t, tree, 1+n*211%400, b)
			checkSize(t, tree, n+1)
			all = append(all, n+1)
		}
		checkSearch(t, tree, b, all)
		checkSearch(t, tree, placeBox(b.X0, b.Y1), all)
		if b == boxOf(7, 7, 9, 8) {
			checkSearch(t, tree, boxOf(10, 7, 11, 8), nil)
		}
		for _, k := range []int{0, 1, 2, 3, 8, 9, 200, 399, 400, 401, math.MaxInt} {
			checkNear(t, tree, api.Point{X: 7, Y: 9}, k, all[:min(k, 400)])
		}
		for n := range 400 {
			remove(t, tree, 1+n*157%400)
			checkSize(t, tree, 399-n)
		}
		checkEmpty(t, tree)
	}
}

// TestManyInARow: places, and boxes that touch the one ahead, side by side.
func TestManyInARow(t *testing.T) {
	rows := map[string]func(i int) api.Box{
		"level":         func(i int) api.Box { return placeBox(3*i, 77) },
		"upright":       func(i int) api.Box { return placeBox(77, 3*i) },
		"level boxes":   func(i int) api.Box { return boxOf(3*i, 0, 3*i+3, 9) },
		"upright boxes": func(i int) api.Box { return boxOf(0, 3*i, 9, 3*i+3) },
		"diagonal":      func(i int) api.Box { return boxOf(3*i, 3*i, 3*i+3, 3*i+3) },
		"over the grid": func(i int) api.Box { return placeBox(i*(far/600), far-i*(far/600)) },
		"one in another": func(i int) api.Box {
			return boxOf(i, i, far-i, far-i)
		},
	}
	for name, at := range rows {
		t.Run(name, func(t *testing.T) {
			var items plain
			tree := New()
			for n := range 600 {
				item := api.Item{Id: n + 1, Box: at(n)}
				items.put(item)
				put(t, tree, item.Id, item.Box)
				checkSize(t, tree, n+1)
			}
			for n := 0; n < 600; n += 37 {
				b := at(n)
				checkTree(t, tree, items, []api.Box{b, placeBox(b.X0, b.Y0), placeBox(b.X1, b.Y1), boxOf(b.X0, 0, b.X1, far)}, []api.Point{{X: b.X0, Y: b.Y0}, {X: b.X1, Y: 0}, {X: 0, Y: b.Y1}}, []int{1, 5, 599, 600, 601})
			}
		})
	}
}

// TestAllIds holds as many items as there may be.
func TestAllIds(t *testing.T) {
	tree := New()
	for id := 1; id <= api.MaxId; id++ {
		// Each place of a square but one, spread: 40503 is odd, so all are come to.
		at := id * 40503 % 65536
		put(t, tree, id, placeBox(at%256, at/256))
		checkSize(t, tree, id)
	}
	ids, e := tree.Search(allOfGrid())
	if len(ids) != api.MaxId || e != api.OK {
		t.Fatalf("P12.1: Search of all is %d ids, %d", len(ids), e)
	}
	for i, id := range ids {
		if id != i+1 {
			t.Fatalf("P12.1: Search of all has %d at %d", id, i)
		}
	}
	near, e := tree.Near(api.Point{X: 128, Y: 128}, math.MaxInt)
	if len(near) != api.MaxId || e != api.OK {
		t.Fatalf("P12.1: Near of all is %d ids, %d", len(near), e)
	}
	square := func(id int) int {
		at := id * 40503 % 65536
		x, y := at%256-128, at/256-128
		return x*x + y*y
	}
	for i := 1; i < len(near); i++ {
		a, b := near[i-1], near[i]
		if square(a) > square(b) || square(a) == square(b) && a >= b {
			t.Fatalf("P12.1: Near of all has %d ahead of %d", a, b)
		}
	}
	for n := range api.MaxId {
		remove(t, tree, 1+n*2%api.MaxId)
		checkSize(t, tree, api.MaxId-1-n)
	}
}

package store

import (
	"slices"
	"testing"

	"furlong/api"
)

// heldBy fails the test if others than nodes hold f, be it put or left by a new map.
func heldBy(t *testing.T, m api.Map, of int, f api.Feature, nodes ...int) {
	t.Helper()
	for node := range of {
		var want []api.Feature
		if slices.Contains(nodes, node) {
			want = []api.Feature{f}
		}
		put := made(t, node, of, m, puts(f))
		if got := put.All(); !same(got, want) {
			t.Errorf("P14.1: node %d of %v holds %v, want %v", node, m, got, want)
		}
		left := made(t, node, of, mapOf(1, 0, node), puts(f))
		holds(t, left, f)
		applied(t, left, opMap(m))
		if got := left.All(); !same(got, want) {
			t.Errorf("P14.1: behind the map %v node %d holds %v, want %v", m, node, got, want)
		}
	}
}

func TestPointsAtBorders(t *testing.T) {
	corners := []struct{ x0, y0, x1, y1, node int }{
		{0, 0, half - 1, half - 1, 0},
		{0, half, half - 1, top, 1},
		{half, half, top, top, 2},
		{half, 0, top, half - 1, 3},
	}
	for _, c := range corners {
		for _, x := range []int{c.x0, c.x1} {
			for _, y := range []int{c.y0, c.y1} {
				heldBy(t, quarters(), 4, pointOf(1, x, y), c.node)
			}
		}
	}
}

func TestLinesAtBorders(t *testing.T) {
	m := quarters()
	heldBy(t, m, 4, lineOf(1, half-1, 5, half, 5), 0, 3)
	heldBy(t, m, 4, lineOf(1, half-2, 5, half-1, 5), 0)
	heldBy(t, m, 4, lineOf(1, half, 5, half+1, 5), 3)
	heldBy(t, m, 4, lineOf(1, 5, half-1, 5, half), 0, 1)
	heldBy(t, m, 4, lineOf(1, top, half, top, half-1), 2, 3)
	heldBy(t, m, 4, lineOf(1, half, top, half-1, top), 1, 2)
	heldBy(t, m, 4, lineOf(1, 0, 0, half-1, half-1), 0)
	heldBy(t, m, 4, lineOf(1, half, half, top, top), 2)
	heldBy(t, m, 4, lineOf(1, half-1, half-1, half, half), 0, 1, 2, 3)
	// No place of this one is in the lower right quarter: but its box has one.
	heldBy(t, m, 4, lineOf(1, 0, 0, 0, top, top, top), 0, 1, 2, 3)
	heldBy(t, m, 4, lineOf(1, 5, 5, half, 5, 5, 5), 0, 3)
}

func TestPolygonsAtBorders(t *testing.T) {
	m := quarters()
	heldBy(t, m, 4, polygonOf(1, square(half-9, half-9, half-1, half-1)), 0)
	heldBy(t, m, 4, polygonOf(1, square(half-9, half-9, half, half-1)), 0, 3)
	heldBy(t, m, 4, polygonOf(1, square(half-9, half-9, half-1, half)), 0, 1)
	heldBy(t, m, 4, polygonOf(1, square(half-9, half-9, half, half)), 0, 1, 2, 3)
	heldBy(t, m, 4, polygonOf(1, square(0, 0, top, top)), 0, 1, 2, 3)
	heldBy(t, m, 4, polygonOf(1, ringOf(half, top, top, half, top, top)), 2)
	heldBy(t, m, 4, polygonOf(1, ringOf(0, 0, 0, top, top, top)), 0, 1, 2, 3)
	// Holes count as outlines do.
	heldBy(t, m, 4, polygonOf(1, square(5, 5, 9, 9), square(5, half, 9, half+9)), 0, 1)
	heldBy(t, m, 4, polygonOf(1, square(0, 0, top, top), square(1, 1, half+9, top-1)), 0, 1, 2, 3)
}

// TestPlacesWithinCells: who owns one place of a cell of level 6 holds what has a place of that cell.
func TestPlacesWithinCells(t *testing.T) {
	first := mapOf(1, 0, 0, 1, 1)
	heldBy(t, first, 3, pointOf(1, 0, 0), 0, 1)
	heldBy(t, first, 3, pointOf(1, cell-1, cell-1), 0, 1)
	heldBy(t, first, 3, pointOf(1, cell, 0), 1)
	heldBy(t, first, 3, pointOf(1, 0, cell), 1)
	heldBy(t, first, 3, lineOf(1, cell, 0, cell-1, 0), 0, 1)
	heldBy(t, first, 3, lineOf(1, cell, 0, top, top), 1)
	// The curve ends in the lower right cell.
	last := mapOf(1, 0, 2, api.Curve-1, 0)
	heldBy(t, last, 3, pointOf(1, top, 0), 0, 2)
	heldBy(t, last, 3, pointOf(1, top+1-cell, cell-1), 0, 2)
	heldBy(t, last, 3, pointOf(1, top-cell, 0), 2)
	heldBy(t, last, 3, pointOf(1, top, cell), 2)
	heldBy(t, last, 3, polygonOf(1, square(0, 0, top, top)), 0, 2)
	// One place in the midst, of a cell that another one owns ahead of it and behind it.
	mid := mapOf(1, 0, 1, cellPlaces/2, 2, cellPlaces/2+1, 1)
	heldBy(t, mid, 3, pointOf(1, 1, 1), 1, 2)
	heldBy(t, mid, 3, pointOf(1, cell, 1), 1)
	// At the cell's end just one owns it.
	whole := mapOf(1, 0, 1, cellPlaces, 0)
	heldBy(t, whole, 3, pointOf(1, cell-1, cell-1), 1)
	heldBy(t, whole, 3, pointOf(1, cell, cell-1), 0)
	heldBy(t, whole, 3, lineOf(1, cell-1, cell-1, cell, cell-1), 0, 1)
	heldBy(t, mapOf(1, 0, 1, cellPlaces-1, 0), 3, pointOf(1, 5, 5), 0, 1)
}

// TestStretchesOfOne: a node may own several stretches, others none.
func TestStretchesOfOne(t *testing.T) {
	m := mapOf(1, 0, 2, quarter, 5, 2*quarter, 2, 3*quarter, 5)
	heldBy(t, m, 8, pointOf(1, 0, 0), 2)
	heldBy(t, m, 8, pointOf(1, top, top), 2)
	heldBy(t, m, 8, pointOf(1, 0, top), 5)
	heldBy(t, m, 8, pointOf(1, top, 0), 5)
	heldBy(t, m, 8, lineOf(1, 0, 0, top, top), 2, 5)
}

package store

import (
	"testing"

	"furlong/api"
)

// TestPut: features of each shape, by themselves and in one row.
func TestPut(t *testing.T) {
	point := pointOf(9, 3, 4)
	line := lineOf(api.MaxId, 0, 0, top, top, 5, 5)
	polygon := polygonOf(1, square(10, 10, 90, 90), square(20, 20, 30, 30))
	for _, f := range []api.Feature{point, line, polygon} {
		s := whole(t)
		applied(t, s, opPut(f))
		holds(t, s, f)
	}
	s := whole(t)
	applied(t, s, puts(line, polygon, point)...)
	holds(t, s, polygon, point, line)
	mapIs(t, s, mapOf(1, 0, 0))
	applied(t, s, opPut(pointOf(10, 3, 4)))
	holds(t, s, polygon, point, pointOf(10, 3, 4), line)
}

// TestPutAgain: an elder feature of the Id is gone, from its place too.
func TestPutAgain(t *testing.T) {
	here, there := api.Box{X1: 9, Y1: 9}, api.Box{X0: 100, Y0: 100, X1: 199, Y1: 199}
	forms := []struct{ elder, other api.Feature }{
		{pointOf(5, 4, 4), pointOf(5, 150, 150)},
		{pointOf(5, 4, 4), lineOf(5, 100, 100, 150, 150)},
		{lineOf(5, 4, 4, 5, 5), polygonOf(5, square(110, 110, 120, 120))},
		{polygonOf(5, square(1, 1, 9, 9)), pointOf(5, 199, 199)},
		{polygonOf(5, square(1, 1, 9, 9), square(3, 3, 4, 4)), polygonOf(5, square(110, 110, 120, 120))},
	}
	for _, f := range forms {
		beside := pointOf(6, 7, 7)
		s := whole(t, f.elder, beside)
		windowIs(t, s, here, f.elder, beside)
		windowIs(t, s, there)
		applied(t, s, opPut(f.other))
		holds(t, s, f.other, beside)
		windowIs(t, s, here, beside)
		windowIs(t, s, there, f.other)
		applied(t, s, opPut(f.other))
		holds(t, s, f.other, beside)
		applied(t, s, opPut(f.elder))
		holds(t, s, f.elder, beside)
		windowIs(t, s, there)
	}
}

// TestPutElsewhere: a feature that the map does not let the node hold is not held; the elder one of its Id is gone all the same.
func TestPutElsewhere(t *testing.T) {
	s := made(t, 0, 2, halves(1))
	applied(t, s, opPut(pointOf(1, half, 0)))
	holds(t, s)
	none(t, s, 1)
	left := pointOf(1, half-1, 0)
	applied(t, s, opPut(left))
	holds(t, s, left)
	applied(t, s, opPut(pointOf(2, 5, 5)))
	applied(t, s, opPut(lineOf(1, half, 0, top, top)))
	holds(t, s, pointOf(2, 5, 5))
	none(t, s, 1)
	windowIs(t, s, api.Box{X0: half - 1, X1: top, Y1: top})
	applied(t, s, opPut(left))
	holds(t, s, left, pointOf(2, 5, 5))
}

func TestDelete(t *testing.T) {
	a, b, c := pointOf(1, 1, 1), lineOf(2, 1, 1, 5, 5), polygonOf(3, square(0, 0, 8, 8))
	s := whole(t, a, b, c)
	applied(t, s, opDelete(2))
	holds(t, s, a, c)
	none(t, s, 2)
	windowIs(t, s, api.Box{X0: 5, Y0: 5, X1: 5, Y1: 5}, c)
	applied(t, s, opDelete(2))
	applied(t, s, opDelete(4))
	applied(t, s, opDelete(api.MaxId))
	holds(t, s, a, c)
	applied(t, s, opDelete(3), opDelete(7), opDelete(1))
	holds(t, s)
	mapIs(t, s, mapOf(1, 0, 0))
	applied(t, s, opDelete(1))
	holds(t, s)
	applied(t, s, opPut(b))
	holds(t, s, b)
}

// TestRowsOfKinds: several operations of both kinds in one row, and rows behind one another.
func TestRowsOfKinds(t *testing.T) {
	s := whole(t)
	applied(t, s, opDelete(1), opPut(pointOf(2, 2, 2)), opPut(pointOf(3, 3, 3)), opDelete(4))
	holds(t, s, pointOf(2, 2, 2), pointOf(3, 3, 3))
	applied(t, s, opPut(pointOf(4, 4, 4)), opDelete(3), opPut(lineOf(2, 2, 2, 7, 2)), opPut(pointOf(1, 1, 1)))
	holds(t, s, pointOf(1, 1, 1), lineOf(2, 2, 2, 7, 2), pointOf(4, 4, 4))
	applied(t, s, opPut(pointOf(3, 9, 9)), opDelete(1), opDelete(2), opDelete(4))
	holds(t, s, pointOf(3, 9, 9))
}

// TestAsManyAsMayBe: MaxOps operations of the greatest features.
func TestAsManyAsMayBe(t *testing.T) {
	var fs []api.Feature
	for i := range api.MaxOps {
		f := polygonOf(api.MaxId - api.MaxOps + 1 + i)
		for range api.MaxRings {
			var ring []api.Point
			for j := range api.MaxPoints {
				ring = append(ring, api.Point{X: j, Y: top - i - j*j})
			}
			f.Rings = append(f.Rings, ring)
		}
		fs = append(fs, f)
	}
	s := whole(t)
	applied(t, s, puts(fs...)...)
	holds(t, s, fs...)
	var ops []api.Op
	for _, f := range fs {
		ops = append(ops, opDelete(f.Id))
	}
	applied(t, s, ops...)
	holds(t, s)
	applied(t, s, append([]api.Op{opMap(mapOf(2, 0, 0))}, puts(fs[1:]...)...)...)
	holds(t, s, fs[1:]...)
	mapIs(t, s, mapOf(2, 0, 0))
}

// TestMapTakes: features that a new map does not let the node hold are gone, and no later map brings them again.
func TestMapTakes(t *testing.T) {
	left, right, both := pointOf(1, 5, 5), pointOf(2, top, top), lineOf(3, 5, 5, top, top)
	all := mapOf(1, 0, 0)
	s := made(t, 0, 2, all, puts(left, right, both))
	holds(t, s, left, right, both)
	applied(t, s, opMap(halves(2)))
	mapIs(t, s, halves(2))
	holds(t, s, left, both)
	none(t, s, 2)
	windowIs(t, s, api.Box{X0: top, Y0: top, X1: top, Y1: top}, both)
	applied(t, s, opMap(all))
	mapIs(t, s, all)
	holds(t, s, left, both)
	applied(t, s, opPut(right))
	holds(t, s, left, right, both)
	applied(t, s, opMap(mapOf(3, 0, 1, 2*quarter, 0)))
	holds(t, s, right, both)
	applied(t, s, opMap(mapOf(4, 0, 1)))
	holds(t, s)
	mapIs(t, s, mapOf(4, 0, 1))
	applied(t, s, puts(left, right, both)...)
	holds(t, s)
}

// TestMapWithOthers: what stands behind an OpMap in its row is done by the new map.
func TestMapWithOthers(t *testing.T) {
	left, right := pointOf(1, 5, 5), pointOf(2, top, 5)
	s := made(t, 0, 2, halves(1), puts(left, right))
	holds(t, s, left)
	// The other half is the node's now: what it held is gone, the same Id may come again, and others too.
	applied(t, s, opMap(mapOf(2, 0, 1, 2*quarter, 0)), opPut(pointOf(1, top, 9)), opPut(right), opPut(pointOf(3, 7, 7)))
	mapIs(t, s, mapOf(2, 0, 1, 2*quarter, 0))
	holds(t, s, pointOf(1, top, 9), right)
	// More is the node's: what it holds stays, but for what the row itself takes.
	applied(t, s, opMap(mapOf(3, 0, 0)), opDelete(2), opPut(pointOf(3, 7, 7)), opDelete(4))
	holds(t, s, pointOf(1, top, 9), pointOf(3, 7, 7))
	// Less is the node's: what the row puts where the elder map alone would hold it is not held.
	applied(t, s, opMap(halves(4)), opPut(pointOf(5, top, top)), opPut(pointOf(3, top, 7)), opPut(left))
	holds(t, s, left)
	mapIs(t, s, halves(4))
	applied(t, s, opMap(halves(5)), opDelete(1))
	holds(t, s)
	mapIs(t, s, halves(5))
}

// TestMapOfAnyEpoch: a map is taken whatever the Epoch of the one ahead of it, the same one too.
func TestMapOfAnyEpoch(t *testing.T) {
	f := pointOf(1, 5, 5)
	s := made(t, 0, 2, halves(9), puts(f))
	for _, epoch := range []int{9, 1, 10, api.MaxEpoch, 3} {
		applied(t, s, opMap(halves(epoch)))
		mapIs(t, s, halves(epoch))
		holds(t, s, f)
	}
}

// TestMapBringsOwnersOfEach: a map of each number of nodes, up to its last node.
func TestMapBringsOwnersOfEach(t *testing.T) {
	for nodes := 1; nodes <= api.MaxNodes; nodes++ {
		s := made(t, nodes-1, nodes, mapOf(1, 0, 0))
		applied(t, s, opPut(pointOf(1, 1, 1)))
		for owner := range nodes {
			applied(t, s, opMap(mapOf(2, 0, owner)), opPut(pointOf(1, 1, 1)))
			if owner == nodes-1 {
				holds(t, s, pointOf(1, 1, 1))
			} else {
				holds(t, s)
			}
		}
	}
}

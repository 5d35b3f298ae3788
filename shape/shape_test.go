package shape

import (
	"math"
	"math/rand"
	"slices"
	"sync"
	"testing"

	"furlong/api"
)

const (
	far = api.MaxCoord
	// fifth takes a grid of six by six to one whose corners are those of the whole grid.
	fifth = far / 5
	// spare stands in the room behind a list's end, where no call may write or read.
	spare = -77
)

// ringOf makes a ring out of X, Y, X, Y and so on.
func ringOf(xys ...int) []api.Point {
	var ring []api.Point
	for i := 0; i < len(xys); i += 2 {
		ring = append(ring, api.Point{X: xys[i], Y: xys[i+1]})
	}
	return ring
}

func pointAt(x, y int) api.Feature {
	return api.Feature{Id: 1, Shape: api.ShapePoint, Rings: [][]api.Point{ringOf(x, y)}}
}

func lineOf(xys ...int) api.Feature {
	return api.Feature{Id: 2, Shape: api.ShapeLine, Rings: [][]api.Point{ringOf(xys...)}}
}

func polygonOf(rings ...[]api.Point) api.Feature {
	return api.Feature{Id: 3, Shape: api.ShapePolygon, Rings: rings}
}

// square is a ring from low to high.
func square(low, high int) []api.Point {
	return ringOf(low, low, high, low, high, high, low, high)
}

// holed is a square with a square hole in its middle.
func holed() api.Feature {
	return polygonOf(square(10, 50), square(20, 40))
}

func boxOf(x0, y0, x1, y1 int) api.Box {
	return api.Box{X0: x0, Y0: y0, X1: x1, Y1: y1}
}

func allOfGrid() api.Box {
	return boxOf(0, 0, far, far)
}

// bentRing has so many points, all of them apart.
func bentRing(count int) []api.Point {
	var ring []api.Point
	for i := range count {
		ring = append(ring, api.Point{X: 3 * i, Y: i * i})
	}
	return ring
}

// bentFeature has so many rings of so many points.
func bentFeature(shape, rings, count int) api.Feature {
	f := api.Feature{Id: 7, Shape: shape}
	for range rings {
		f.Rings = append(f.Rings, bentRing(count))
	}
	return f
}

func withId(f api.Feature, id int) api.Feature {
	f.Id = id
	return f
}

func withShape(f api.Feature, shape int) api.Feature {
	f.Shape = shape
	return f
}

// copyOf shares no memory with f.
func copyOf(f api.Feature) api.Feature {
	rings := f.Rings
	f.Rings = nil
	for _, ring := range rings {
		f.Rings = append(f.Rings, slices.Clone(ring))
	}
	return f
}

// withPoint is f with another point at a place of its rings.
func withPoint(f api.Feature, ring, at int, p api.Point) api.Feature {
	f = copyOf(f)
	f.Rings[ring][at] = p
	return f
}

// changed is f with each of its points taken through a function.
func changed(f api.Feature, by func(api.Point) api.Point) api.Feature {
	f = copyOf(f)
	for _, ring := range f.Rings {
		for i := range ring {
			ring[i] = by(ring[i])
		}
	}
	return f
}

func times(p api.Point, n int) api.Point {
	return api.Point{X: n * p.X, Y: n * p.Y}
}

func featureTimes(f api.Feature, n int) api.Feature {
	return changed(f, func(p api.Point) api.Point { return times(p, n) })
}

func boxTimes(b api.Box, n int) api.Box {
	return boxOf(n*b.X0, n*b.Y0, n*b.X1, n*b.Y1)
}

// turned is f with its rings begun at later points.
func turned(f api.Feature, by int) api.Feature {
	f = copyOf(f)
	for i, ring := range f.Rings {
		n := by % len(ring)
		f.Rings[i] = append(slices.Clone(ring[n:]), ring[:n]...)
	}
	return f
}

// backward is f with its rings gone through from their ends.
func backward(f api.Feature) api.Feature {
	f = copyOf(f)
	for _, ring := range f.Rings {
		slices.Reverse(ring)
	}
	return f
}

// goodFeatures may be: ordinary ones and those at the edges.
func goodFeatures() []api.Feature {
	tri := ringOf(0, 0, 4, 0, 0, 4)
	corner := ringOf(far, far, far, far-1, far-1, far)
	return []api.Feature{
		pointAt(5, 7), pointAt(0, 0), pointAt(far, far), pointAt(0, far), pointAt(far, 0),
		lineOf(1, 2, 3, 4), lineOf(0, 0, far, far), lineOf(5, 5, 5, 6, 5, 5), lineOf(0, 0, 4, 0, 4, 4, 0, 0),
		lineOf(1, 1, 9, 1, 1, 1, 9, 1),
		polygonOf(tri), polygonOf(corner), polygonOf(tri, corner), holed(), polygonOf(square(0, far)),
		polygonOf(square(0, far), square(1, far-1), square(2, far-2), square(3, far-3)),
		// The document asks neither that rings lie apart nor that they have a room inside.
		polygonOf(tri, tri, tri, tri), polygonOf(ringOf(0, 0, 5, 5, 9, 9)), polygonOf(ringOf(0, 0, 4, 4, 4, 0, 0, 4)), polygonOf(tri, square(50, 60)),
		polygonOf(ringOf(0, 0, 4, 0, 0, 0, 0, 4)),
		bentFeature(api.ShapePoint, 1, 1), bentFeature(api.ShapeLine, 1, 2), bentFeature(api.ShapeLine, 1, api.MaxPoints),
		bentFeature(api.ShapePolygon, 1, 3), bentFeature(api.ShapePolygon, 1, api.MaxPoints),
		bentFeature(api.ShapePolygon, api.MaxRings, 3), bentFeature(api.ShapePolygon, api.MaxRings, api.MaxPoints),
		withId(pointAt(5, 7), 1), withId(holed(), 1), withId(pointAt(5, 7), api.MaxId), withId(lineOf(1, 2, 3, 4), api.MaxId), withId(holed(), api.MaxId), withId(holed(), 30000),
	}
}

// wrongFeatures may not be.
func wrongFeatures() []api.Feature {
	tri := ringOf(0, 0, 4, 0, 0, 4)
	all := []api.Feature{
		{}, {Id: 1}, {Id: 1, Rings: [][]api.Point{}}, {Id: 1, Shape: api.ShapeLine}, {Id: 1, Shape: api.ShapePolygon},
		{Id: 1, Rings: [][]api.Point{nil}}, {Id: 1, Shape: api.ShapeLine, Rings: [][]api.Point{nil}}, {Id: 1, Shape: api.ShapePolygon, Rings: [][]api.Point{nil}},
		polygonOf(tri, nil), polygonOf(nil, tri), polygonOf(tri, tri, tri, []api.Point{}), polygonOf(tri, ringOf(1, 1)), polygonOf(tri, ringOf(1, 1, 2, 2)),
		polygonOf(tri, tri, tri, tri, tri), polygonOf(tri, bentRing(api.MaxPoints+1)), polygonOf(bentRing(api.MaxPoints+1), tri),
		polygonOf(ringOf(0, 0, 4, 0, 0, 4, 0, 0)), polygonOf(ringOf(0, 0, 4, 0, 0, 0)), polygonOf(tri, ringOf(0, 0, 4, 0, 0, 4, 0, 0)), polygonOf(tri, tri, ringOf(1, 1, 2, 2, 2, 2)),
		lineOf(3, 3, 3, 3), lineOf(0, 0, 0, 0, 1, 1), lineOf(0, 0, 1, 1, 1, 1),
		bentFeature(api.ShapePolygon, 100000, 3), bentFeature(api.ShapePolygon, 1, 100000), bentFeature(api.ShapeLine, 1, 100000),
	}
	for _, f := range []api.Feature{pointAt(5, 7), lineOf(1, 2, 3, 4), holed()} {
		for _, id := range []int{0, -1, api.MaxId + 1, api.MaxId + 2, 1 << 32, 1<<32 + 1, math.MinInt, math.MaxInt} {
			all = append(all, withId(f, id))
		}
		for _, shape := range []int{-1, 3, 4, 256, 258, 1 << 32, 1<<32 + 2, math.MinInt, math.MaxInt} {
			all = append(all, withShape(f, shape))
		}
	}
	for _, f := range []api.Feature{pointAt(5, 7), bentFeature(api.ShapeLine, 1, 5), bentFeature(api.ShapePolygon, 3, 4)} {
		all = append(all, withWrongPoints(f)...)
	}
	return all
}

// wrongCoords are no coordinates; some would be, if bits were lost.
func wrongCoords() []int {
	return []int{-1, far + 1, far + 2, 1<<33 + 1, -far, -1 << 32, math.MinInt, math.MaxInt}
}

func wrongPoints() []api.Point {
	var all []api.Point
	for _, w := range wrongCoords() {
		all = append(all, api.Point{X: w, Y: 5}, api.Point{X: 5, Y: w}, api.Point{X: w, Y: w})
	}
	return all
}

func wrongBoxes() []api.Box {
	all := []api.Box{{X0: 1}, {Y0: 1}, {X0: 31, Y0: 5, X1: 30, Y1: 60}, {X0: 5, Y0: 31, X1: 60, Y1: 30}, {X0: far, Y0: far}}
	for _, w := range wrongCoords() {
		all = append(all, boxOf(w, 0, far, far), boxOf(0, w, far, far), boxOf(0, 0, w, far), boxOf(0, 0, far, w), boxOf(w, w, w, w))
	}
	return all
}

// withWrongPoints is f with each of its points in turn as one that may not be.
func withWrongPoints(f api.Feature) []api.Feature {
	var all []api.Feature
	for i, ring := range f.Rings {
		for j := range ring {
			for _, w := range wrongPoints() {
				all = append(all, withPoint(f, i, j, w))
			}
		}
	}
	return all
}

// short tells as much of a feature as a failure's line has room for.
func short(f api.Feature) any {
	if len(f.Rings) > api.MaxRings+1 || len(f.Rings) > 0 && len(f.Rings[0]) > api.MaxPoints+1 {
		return "a feature beyond all bounds"
	}
	return f
}

func TestMayOfGoodFeatures(t *testing.T) {
	for _, f := range goodFeatures() {
		if !May(f) {
			t.Errorf("P4.1: %v may not be", f)
		}
	}
}

func TestMayOfWrongFeatures(t *testing.T) {
	for _, f := range wrongFeatures() {
		if May(f) {
			t.Errorf("P4.1: %v may be", short(f))
		}
	}
}

// TestMayOfAllCounts has each shape with each number of rings and of points up to beyond the bounds.
func TestMayOfAllCounts(t *testing.T) {
	for rings := range api.MaxRings + 3 {
		for count := range api.MaxPoints + 3 {
			want := map[int]bool{
				api.ShapePoint:   rings == 1 && count == 1,
				api.ShapeLine:    rings == 1 && count >= 2 && count <= 16,
				api.ShapePolygon: rings >= 1 && rings <= 4 && count >= 3 && count <= 16,
			}
			for shape := -1; shape <= 3; shape++ {
				if f := bentFeature(shape, rings, count); May(f) != want[shape] {
					t.Errorf("P4.1: shape %d, %d rings of %d points: may be is %v", shape, rings, count, May(f))
				}
			}
		}
	}
}

// TestMayOfNeighbors makes each two neighbors the same in turn, and each two that are none.
func TestMayOfNeighbors(t *testing.T) {
	for count := 3; count <= api.MaxPoints; count++ {
		for _, f := range []api.Feature{bentFeature(api.ShapeLine, 1, count), bentFeature(api.ShapePolygon, 3, count)} {
			for ring := range f.Rings {
				for i := range count {
					for j := range i {
						neighbors := i-j == 1 || f.Shape == api.ShapePolygon && i-j == count-1
						if g := withPoint(f, ring, i, f.Rings[ring][j]); May(g) == neighbors {
							t.Errorf("P4.1: shape %d, ring %d, points %d and %d of %d the same: may be is %v", f.Shape, ring, j, i, count, May(g))
						}
					}
				}
			}
		}
	}
}

// TestMayOfNearNeighbors has neighbors that differ in X alone, and in Y alone.
func TestMayOfNearNeighbors(t *testing.T) {
	for _, f := range []api.Feature{lineOf(5, 5, 6, 5), lineOf(5, 5, 5, 6), polygonOf(ringOf(5, 5, 6, 5, 7, 5)), polygonOf(ringOf(5, 5, 5, 6, 5, 7))} {
		if !May(f) {
			t.Errorf("P4.1: %v may not be", f)
		}
	}
}

func TestBoxOfKnownFeatures(t *testing.T) {
	known := []struct {
		f    api.Feature
		want api.Box
	}{
		{pointAt(5, 7), boxOf(5, 7, 5, 7)},
		{pointAt(0, 0), boxOf(0, 0, 0, 0)},
		{pointAt(far, far), boxOf(far, far, far, far)},
		{lineOf(9, 2, 3, 8), boxOf(3, 2, 9, 8)},
		{lineOf(3, 2, 9, 8), boxOf(3, 2, 9, 8)},
		{lineOf(4, 4, 4, 9), boxOf(4, 4, 4, 9)},
		{lineOf(5, 5, 6, 1, 7, 5, 6, 9), boxOf(5, 1, 7, 9)},
		{lineOf(0, far, far, 0), allOfGrid()},
		{polygonOf(ringOf(5, 1, 9, 6, 2, 8)), boxOf(2, 1, 9, 8)},
		{holed(), boxOf(10, 10, 50, 50)},
		{polygonOf(square(0, far)), allOfGrid()},
		// All points count, also a hole's that is no hole.
		{polygonOf(square(20, 40), square(10, 50)), boxOf(10, 10, 50, 50)},
		{polygonOf(square(20, 40), ringOf(1, 30, 2, 30, 2, 31), ringOf(30, 99, 31, 99, 31, 98), ringOf(70, 2, 71, 2, 71, 3)), boxOf(1, 2, 71, 99)},
	}
	for _, k := range known {
		if got, e := Box(k.f); got != k.want || e != api.OK {
			t.Errorf("P4.1: Box(%v) is %v, %d, not %v", k.f, got, e, k.want)
		}
	}
}

// TestBoxHoldsOnEachPoint moves each point in turn to each side: the box goes with it.
func TestBoxHoldsOnEachPoint(t *testing.T) {
	inner := func(p api.Point) api.Point { return api.Point{X: p.X + 100, Y: p.Y + 100} }
	for _, shape := range []int{api.ShapePoint, api.ShapeLine, api.ShapePolygon} {
		most := boundsOf(shape)
		f := changed(bentFeature(shape, most.mostRings, most.mostPoints), inner)
		for ring := range f.Rings {
			for at := range f.Rings[ring] {
				for _, p := range []api.Point{{X: 1, Y: 105}, {X: 9999, Y: 105}, {X: 105, Y: 1}, {X: 105, Y: 9999}, {}, {X: far, Y: far}} {
					g := withPoint(f, ring, at, p)
					if got, e := Box(g); got != plainBox(g) || e != api.OK {
						t.Fatalf("P4.1: Box(%v) is %v, %d, not %v", g, got, e, plainBox(g))
					}
				}
			}
		}
	}
}

// plainBox is Box out of sorted coordinates.
func plainBox(f api.Feature) api.Box {
	var xs, ys []int
	for _, p := range slices.Concat(f.Rings...) {
		xs, ys = append(xs, p.X), append(ys, p.Y)
	}
	return boxOf(slices.Min(xs), slices.Min(ys), slices.Max(xs), slices.Max(ys))
}

func TestErrorsOfWrongFeatures(t *testing.T) {
	for _, f := range wrongFeatures() {
		if got, e := Box(f); got != (api.Box{}) || e != api.ErrShapeForm {
			t.Errorf("P4.1: Box(%v) is %v, %d", short(f), got, e)
		}
		for _, p := range []api.Point{{}, {X: 5, Y: 7}, {X: 1, Y: 2}, {X: 15, Y: 15}, {X: -1}} {
			if got, e := Has(f, p); got || e != api.ErrShapeForm {
				t.Errorf("P4.2: Has(%v, %v) is %v, %d", short(f), p, got, e)
			}
		}
		for _, b := range []api.Box{{}, allOfGrid(), boxOf(5, 7, 5, 7), boxOf(1, 1, 15, 15), {X0: 1}} {
			if got, e := Meets(f, b); got || e != api.ErrShapeForm {
				t.Errorf("P4.2: Meets(%v, %v) is %v, %d", short(f), b, got, e)
			}
		}
	}
}

func TestErrorsOfWrongPointsAndBoxes(t *testing.T) {
	for _, f := range goodFeatures() {
		for _, p := range wrongPoints() {
			if got, e := Has(f, p); got || e != api.ErrShapeForm {
				t.Errorf("P4.2: Has(%v, %v) is %v, %d", f, p, got, e)
			}
		}
		for _, b := range wrongBoxes() {
			if got, e := Meets(f, b); got || e != api.ErrShapeForm {
				t.Errorf("P4.2: Meets(%v, %v) is %v, %d", f, b, got, e)
			}
		}
	}
}

func checkHas(t *testing.T, what string, f api.Feature, p api.Point, want bool) {
	t.Helper()
	if got, e := Has(f, p); got != want || e != api.OK {
		t.Errorf("P4.2: %s: Has(%v, %v) is %v, %d, not %v", what, f, p, got, e, want)
	}
}

func TestHasOfPoints(t *testing.T) {
	for _, p := range []api.Point{{}, {X: 5, Y: 7}, {X: far, Y: far}, {X: far}, {Y: far}} {
		checkHas(t, "a point", pointAt(p.X, p.Y), p, true)
		for _, q := range []api.Point{{X: 1}, {Y: 1}, {X: 5, Y: 8}, {X: 6, Y: 7}, {X: 7, Y: 5}, {X: far - 1, Y: far}, {X: far, Y: far - 1}} {
			checkHas(t, "another place", pointAt(p.X, p.Y), q, false)
		}
	}
}

func TestHasOfKnownLines(t *testing.T) {
	bent := lineOf(2, 2, 8, 2, 8, 10, 4, 6)
	for _, p := range ringOf(2, 2, 5, 2, 8, 2, 8, 7, 8, 10, 7, 9, 4, 6) {
		checkHas(t, "on a line", bent, p, true)
	}
	// The line is not closed, and has nothing inside.
	for _, p := range ringOf(1, 2, 9, 2, 8, 1, 8, 11, 3, 5, 3, 4, 6, 5, 7, 4, 6, 7, 0, 0, far, far) {
		checkHas(t, "beside a line", bent, p, false)
	}
	closed := lineOf(0, 0, 10, 0, 10, 10, 0, 10, 0, 0)
	checkHas(t, "on a closed line", closed, api.Point{Y: 5}, true)
	checkHas(t, "inside of a closed line", closed, api.Point{X: 5, Y: 5}, false)
	checkHas(t, "on a single stretch", lineOf(0, 0, far, far), api.Point{X: far - 1, Y: far - 1}, true)
	checkHas(t, "a hair beside it", lineOf(0, 0, far, far), api.Point{X: far - 1, Y: far}, false)
	checkHas(t, "a hair beside a long stretch", lineOf(0, 0, far-1, far), api.Point{X: far - 2, Y: far - 1}, false)
	checkHas(t, "behind a stretch's end", lineOf(2, 2, 4, 4), api.Point{X: 5, Y: 5}, false)
	checkHas(t, "ahead of a stretch's begin", lineOf(2, 2, 4, 4), api.Point{X: 1, Y: 1}, false)
	checkHas(t, "a line's last stretch", bentFeature(api.ShapeLine, 1, api.MaxPoints), api.Point{X: 3 * 15, Y: 15 * 15}, true)
}

func TestHasOfKnownPolygons(t *testing.T) {
	bowTie := polygonOf(ringOf(0, 0, 8, 8, 8, 0, 0, 8))
	star := polygonOf(ringOf(0, 12, 20, 12, 4, 0, 10, 20, 16, 0))
	tooth := polygonOf(ringOf(0, 0, 20, 0, 20, 10, 15, 5, 10, 10, 5, 5, 0, 10))
	known := []struct {
		what string
		f    api.Feature
		p    api.Point
		want bool
	}{
		{"between outline and hole", holed(), api.Point{X: 15, Y: 30}, true},
		{"behind the hole", holed(), api.Point{X: 45, Y: 30}, true},
		{"at the height of a hole's side, ahead of it", holed(), api.Point{X: 15, Y: 20}, true},
		{"at the height of a hole's upper side, ahead of it", holed(), api.Point{X: 15, Y: 40}, true},
		{"behind a hole's side", holed(), api.Point{X: 45, Y: 20}, true},
		{"in a hole", holed(), api.Point{X: 30, Y: 30}, false},
		{"in a hole, close to its corner", holed(), api.Point{X: 21, Y: 39}, false},
		{"on a hole's border", holed(), api.Point{X: 20, Y: 30}, true},
		{"on a hole's lower border", holed(), api.Point{X: 30, Y: 20}, true},
		{"on a hole's corner", holed(), api.Point{X: 40, Y: 40}, true},
		{"on the outline's left side", holed(), api.Point{X: 10, Y: 30}, true},
		{"on the outline's right side", holed(), api.Point{X: 50, Y: 30}, true},
		{"on the outline's lower side", holed(), api.Point{X: 30, Y: 10}, true},
		{"on the outline's upper side", holed(), api.Point{X: 30, Y: 50}, true},
		{"on the outline's first corner", holed(), api.Point{X: 10, Y: 10}, true},
		{"on the outline's last corner", holed(), api.Point{X: 10, Y: 50}, true},
		{"left of it", holed(), api.Point{X: 9, Y: 30}, false},
		{"right of it", holed(), api.Point{X: 51, Y: 30}, false},
		{"left of it at the height of its lower side", holed(), api.Point{X: 9, Y: 10}, false},
		{"left of it at the height of its upper side", holed(), api.Point{X: 9, Y: 50}, false},
		{"below it", holed(), api.Point{X: 30, Y: 9}, false},
		{"above it", holed(), api.Point{X: 30, Y: 51}, false},
		{"far from it", holed(), api.Point{X: far, Y: far}, false},
		{"in it at the height of teeth's ends", tooth, api.Point{X: 2, Y: 5}, true},
		{"in its middle at the height of teeth's ends", tooth, api.Point{X: 10, Y: 5}, true},
		{"left of it at the height of teeth's ends", tooth, api.Point{X: 0, Y: 11}, false},
		{"between teeth at the height of their tips", tooth, api.Point{X: 5, Y: 10}, false},
		{"between teeth", tooth, api.Point{X: 5, Y: 6}, false},
		{"on a tooth's tip", tooth, api.Point{X: 10, Y: 10}, true},
		{"in a tooth", tooth, api.Point{X: 10, Y: 9}, true},
		{"in a bow tie's left half", bowTie, api.Point{X: 1, Y: 4}, true},
		{"in a bow tie's right half", bowTie, api.Point{X: 7, Y: 4}, true},
		{"on a bow tie's knot", bowTie, api.Point{X: 4, Y: 4}, true},
		{"above a bow tie's knot", bowTie, api.Point{X: 4, Y: 6}, false},
		{"gone over twice in a star's middle", star, api.Point{X: 10, Y: 9}, false},
		{"in a star's ray", star, api.Point{X: 10, Y: 15}, true},
		{"a hole like the outline", polygonOf(square(10, 50), square(10, 50)), api.Point{X: 30, Y: 30}, false},
		{"the border of a hole like the outline", polygonOf(square(10, 50), square(10, 50)), api.Point{X: 50, Y: 30}, true},
		{"three times the same ring", polygonOf(square(10, 50), square(10, 50), square(10, 50)), api.Point{X: 30, Y: 30}, true},
		{"a hole beside the outline", polygonOf(square(10, 20), square(30, 40)), api.Point{X: 35, Y: 35}, true},
		{"between the outline and a hole beside it", polygonOf(ringOf(10, 0, 20, 0, 20, 9, 10, 9), ringOf(30, 0, 40, 0, 40, 9, 30, 9)), api.Point{X: 25, Y: 5}, false},
		{"in the hole's hole", polygonOf(square(0, 90), square(10, 80), square(20, 70), square(30, 60)), api.Point{X: 25, Y: 40}, true},
		{"in the fourth ring", polygonOf(square(0, 90), square(10, 80), square(20, 70), square(30, 60)), api.Point{X: 40, Y: 40}, false},
		{"a flat ring's place", polygonOf(ringOf(0, 0, 5, 5, 9, 9)), api.Point{X: 7, Y: 7}, true},
		{"beside a flat ring", polygonOf(ringOf(0, 0, 5, 5, 9, 9)), api.Point{X: 6, Y: 7}, false},
		{"all of the grid", polygonOf(square(0, far)), api.Point{X: 1 << 31, Y: far - 1}, true},
		{"the grid's corner", polygonOf(square(0, far)), api.Point{X: far, Y: far}, true},
		{"the grid's other corner", polygonOf(square(0, far)), api.Point{}, true},
		{"the grid without its border, at the border", polygonOf(square(1, far-1)), api.Point{X: far, Y: 5}, false},
		{"a hair inside of a long stretch", polygonOf(ringOf(0, 0, far-1, far, 0, far)), api.Point{X: far - 2, Y: far - 1}, true},
		{"a hair outside of a long stretch", polygonOf(ringOf(0, 0, far-1, far, far, 0)), api.Point{X: far - 2, Y: far - 1}, false},
		{"a hair inside of the diagonal", polygonOf(ringOf(0, 0, far, far, far, 0)), api.Point{X: far, Y: far - 1}, true},
		{"a hair outside of the diagonal", polygonOf(ringOf(0, 0, far, far, far, 0)), api.Point{X: far - 1, Y: far}, false},
	}
	for _, k := range known {
		checkHas(t, k.what, k.f, k.p, k.want)
		checkHas(t, k.what+", backward", backward(k.f), k.p, k.want)
		for by := range 4 {
			checkHas(t, k.what+", begun later", turned(k.f, by), k.p, k.want)
		}
	}
}

func cross(a, b, c api.Point) int {
	return (b.X-a.X)*(c.Y-a.Y) - (b.Y-a.Y)*(c.X-a.X)
}

// side is the sign of a cross of small points.
func side(a, b, c api.Point) int {
	turn := cross(a, b, c)
	switch {
	case turn < 0:
		return -1
	case turn > 0:
		return 1
	}
	return 0
}

// pairs lists the stretches of a small feature, by chapter 4's words.
func pairs(f api.Feature) [][2]api.Point {
	var all [][2]api.Point
	for _, ring := range f.Rings {
		for i := 1; i < len(ring); i++ {
			all = append(all, [2]api.Point{ring[i-1], ring[i]})
		}
		if f.Shape == api.ShapePolygon {
			all = append(all, [2]api.Point{ring[len(ring)-1], ring[0]})
		}
	}
	return all
}

func liesOn(p, a, b api.Point) bool {
	return cross(a, b, p) == 0 && (a.X-p.X)*(b.X-p.X)+(a.Y-p.Y)*(b.Y-p.Y) <= 0
}

// plainHas is Has of a small feature. Its ray goes down and nearly straight to the left, so that no corner lies on it: of a place that is on no stretch all rays tell the same.
func plainHas(f api.Feature, p api.Point) bool {
	if f.Shape == api.ShapePoint {
		return f.Rings[0][0] == p
	}
	end := api.Point{X: p.X - 1000000, Y: p.Y - 1000}
	over := 0
	for _, s := range pairs(f) {
		if liesOn(p, s[0], s[1]) {
			return true
		}
		if side(p, end, s[0]) != side(p, end, s[1]) && side(s[0], s[1], p) != side(s[0], s[1], end) {
			over++
		}
	}
	return f.Shape == api.ShapePolygon && over%2 == 1
}

// apart tells whether a stretch and a small box lie on two sides of an upright, of a level line or of the stretch itself: if so, and only then, they have no place in common.
func apart(a, b api.Point, box api.Box) bool {
	if max(a.X, b.X) < box.X0 || min(a.X, b.X) > box.X1 || max(a.Y, b.Y) < box.Y0 || min(a.Y, b.Y) > box.Y1 {
		return true
	}
	sum := 0
	for _, p := range ringOf(box.X0, box.Y0, box.X1, box.Y0, box.X0, box.Y1, box.X1, box.Y1) {
		sum += side(a, b, p)
	}
	return sum == 4 || sum == -4
}

// plainMeets is Meets of a small feature: a box that no stretch goes into is all inside or all outside.
func plainMeets(f api.Feature, box api.Box) bool {
	if f.Shape == api.ShapePoint {
		p := f.Rings[0][0]
		return !apart(p, p, box)
	}
	for _, s := range pairs(f) {
		if !apart(s[0], s[1], box) {
			return true
		}
	}
	return f.Shape == api.ShapePolygon && plainHas(f, api.Point{X: box.X1, Y: box.Y0})
}

// checkSmall holds Has at all places, and Meets of a box, of a grid of six by six against the plain ones, also spread over the whole grid.
func checkSmall(t *testing.T, f api.Feature, box api.Box) {
	t.Helper()
	great := featureTimes(f, fifth)
	for x := range 6 {
		for y := range 6 {
			p := api.Point{X: x, Y: y}
			want := plainHas(f, p)
			if got, e := Has(f, p); got != want || e != api.OK {
				t.Fatalf("P4.2: Has(%v, %v) is %v, %d, not %v", f, p, got, e, want)
			}
			if got, e := Has(great, times(p, fifth)); got != want || e != api.OK {
				t.Fatalf("P4.2: Has(%v, %v), all times %d, is %v, %d, not %v", f, p, fifth, got, e, want)
			}
		}
	}
	want := plainMeets(f, box)
	if got, e := Meets(f, box); got != want || e != api.OK {
		t.Fatalf("P4.2: Meets(%v, %v) is %v, %d, not %v", f, box, got, e, want)
	}
	if got, e := Meets(great, boxTimes(box, fifth)); got != want || e != api.OK {
		t.Fatalf("P4.2: Meets(%v, %v), all times %d, is %v, %d, not %v", f, box, fifth, got, e, want)
	}
}

// smallBoxes are all boxes of a grid of so many by so many.
func smallBoxes(side int) []api.Box {
	var all []api.Box
	for x0 := range side {
		for y0 := range side {
			for x1 := x0; x1 < side; x1++ {
				for y1 := y0; y1 < side; y1++ {
					all = append(all, boxOf(x0, y0, x1, y1))
				}
			}
		}
	}
	return all
}

// anyRing has so many points of a grid of six by six; neighbors, and the first and the last one, differ.
func anyRing(r *rand.Rand, count int) []api.Point {
	ring := []api.Point{{X: r.Intn(6), Y: r.Intn(6)}}
	for len(ring) < count {
		p := api.Point{X: r.Intn(6), Y: r.Intn(6)}
		last := len(ring) == count-1
		if p != ring[len(ring)-1] && !(last && p == ring[0]) {
			ring = append(ring, p)
		}
	}
	return ring
}

func anyFeature(r *rand.Rand) api.Feature {
	f := api.Feature{Id: 1 + r.Intn(api.MaxId), Shape: r.Intn(3)}
	allowed := boundsOf(f.Shape)
	for range 1 + r.Intn(allowed.mostRings) {
		count := allowed.fewestPoints + r.Intn(allowed.mostPoints-allowed.fewestPoints+1)
		f.Rings = append(f.Rings, anyRing(r, count))
	}
	return f
}

func TestHasAndMeetsOfAnyFeatures(t *testing.T) {
	r := rand.New(rand.NewSource(1))
	boxes := smallBoxes(6)
	for range 4000 {
		f := anyFeature(r)
		if !May(f) {
			t.Fatalf("P4.1: %v may not be", f)
		}
		checkSmall(t, f, boxes[r.Intn(len(boxes))])
	}
}

// TestMeetsOfAllSmallLinesAndTriangles has all of them on a grid of three by three, with all boxes.
func TestMeetsOfAllSmallLinesAndTriangles(t *testing.T) {
	boxes := smallBoxes(3)
	var places []api.Point
	for i := range 9 {
		places = append(places, api.Point{X: i / 3, Y: i % 3})
	}
	for _, a := range places {
		for _, b := range places {
			for _, c := range places {
				ring := []api.Point{a, b, c}
				for _, f := range []api.Feature{polygonOf(ring), {Id: 4, Shape: api.ShapeLine, Rings: [][]api.Point{ring}}} {
					if !May(f) {
						continue
					}
					for _, box := range boxes {
						if got, e := Meets(f, box); got != plainMeets(f, box) || e != api.OK {
							t.Fatalf("P4.2: Meets(%v, %v) is %v, %d", f, box, got, e)
						}
					}
				}
			}
		}
	}
}

func TestMeetsOfKnownFeatures(t *testing.T) {
	closed := lineOf(10, 10, 50, 10, 50, 50, 10, 50, 10, 10)
	known := []struct {
		what string
		f    api.Feature
		b    api.Box
		want bool
	}{
		{"a point in a box", pointAt(5, 7), boxOf(1, 1, 9, 9), true},
		{"a point on a box's side", pointAt(5, 9), boxOf(1, 1, 9, 9), true},
		{"a point on a box's corner", pointAt(9, 9), boxOf(1, 1, 9, 9), true},
		{"a point and its own box", pointAt(5, 7), boxOf(5, 7, 5, 7), true},
		{"a point beside a box", pointAt(10, 7), boxOf(1, 1, 9, 9), false},
		{"a point above a box", pointAt(7, 10), boxOf(1, 1, 9, 9), false},
		{"a point at the grid's corner", pointAt(far, far), allOfGrid(), true},
		{"a line in a box", lineOf(3, 3, 5, 5), boxOf(1, 1, 9, 9), true},
		{"a line with its last point in a box", lineOf(30, 30, 30, 5, 5, 5), boxOf(1, 1, 9, 9), true},
		{"a line with a middle point in a box", lineOf(30, 30, 5, 5, 30, 5), boxOf(1, 1, 9, 9), true},
		{"a line through a box", lineOf(0, 5, 20, 6), boxOf(1, 1, 9, 9), true},
		{"a line through a box's corner alone", lineOf(8, 10, 10, 8), boxOf(1, 1, 9, 9), true},
		{"a line beside a box's corner", lineOf(8, 11, 11, 8), boxOf(1, 1, 9, 9), false},
		{"a line along a box's side", lineOf(9, 0, 9, 20), boxOf(1, 1, 9, 9), true},
		{"a line that ends on a box's side", lineOf(9, 5, 20, 5), boxOf(1, 1, 9, 9), true},
		{"a line that ends ahead of a box's side", lineOf(10, 5, 20, 5), boxOf(1, 1, 9, 9), false},
		{"a line over a box's side between places", lineOf(0, 2, 3, 0), boxOf(1, 1, 2, 1), true},
		{"a line around a box", closed, boxOf(20, 20, 40, 40), false},
		{"a line around a place", closed, boxOf(30, 30, 30, 30), false},
		{"a line around a box that touches it", closed, boxOf(20, 20, 50, 40), true},
		{"a line that is not closed, at what is open", lineOf(10, 10, 50, 10, 50, 50, 10, 50), boxOf(5, 20, 15, 40), false},
		{"a line over one place", lineOf(0, 0, far, far), boxOf(far-1, far-1, far-1, far-1), true},
		{"a line a hair beside one place", lineOf(0, 0, far, far), boxOf(far-1, far, far-1, far), false},
		{"a box all inside of a polygon", polygonOf(square(10, 50)), boxOf(20, 20, 40, 40), true},
		{"one place inside of a polygon", polygonOf(square(10, 50)), boxOf(30, 30, 30, 30), true},
		{"a polygon all inside of a box", polygonOf(square(10, 50)), boxOf(5, 5, 60, 60), true},
		{"a polygon and its own box", polygonOf(square(10, 50)), boxOf(10, 10, 50, 50), true},
		{"a polygon with a hole in the grid's box", holed(), allOfGrid(), true},
		{"a box all inside of a hole", holed(), boxOf(25, 25, 35, 35), false},
		{"a box that nearly fills a hole", holed(), boxOf(21, 21, 39, 39), false},
		{"a box that fills a hole", holed(), boxOf(20, 20, 40, 40), true},
		{"a box in a hole, with a side of it", holed(), boxOf(20, 25, 30, 30), true},
		{"a box in a hole, with a corner of it", holed(), boxOf(35, 35, 40, 40), true},
		{"a box in a hole, with a place of its side", holed(), boxOf(20, 30, 20, 30), true},
		{"a box across a hole", holed(), boxOf(15, 25, 45, 35), true},
		{"a box between outline and hole", holed(), boxOf(11, 11, 19, 49), true},
		{"a box about the hole", holed(), boxOf(15, 15, 45, 45), true},
		{"a box with a side of the outline", holed(), boxOf(50, 20, 70, 40), true},
		{"a box with a part of a side of the outline", holed(), boxOf(0, 49, 10, 99), true},
		{"a box with a corner of the outline", holed(), boxOf(50, 50, 70, 70), true},
		{"a box with the other corner of the outline", holed(), boxOf(0, 0, 10, 10), true},
		{"a box beside the outline", holed(), boxOf(51, 20, 70, 40), false},
		{"a box above the outline", holed(), boxOf(20, 51, 40, 70), false},
		{"a box below the outline", holed(), boxOf(20, 0, 40, 9), false},
		{"a box behind a corner", holed(), boxOf(51, 51, 70, 70), false},
		{"a box that only a tip goes into", polygonOf(ringOf(0, 0, 20, 5, 0, 10)), boxOf(18, 0, 30, 10), true},
		{"a box that a tip goes through", polygonOf(ringOf(0, 0, 20, 5, 0, 10)), boxOf(10, 0, 12, 10), true},
		{"a box in a polygon's box, beside its slope", polygonOf(ringOf(0, 0, 20, 0, 0, 20)), boxOf(15, 15, 20, 20), false},
		{"a box whose corner is on a slope", polygonOf(ringOf(0, 0, 20, 0, 0, 20)), boxOf(10, 10, 20, 20), true},
		{"a box with one corner in a polygon", polygonOf(ringOf(0, 0, 20, 0, 0, 20)), boxOf(9, 9, 20, 20), true},
		{"a box that the closing stretch goes through", polygonOf(ringOf(0, 0, 0, 50, 50, 50)), boxOf(30, 10, 35, 45), true},
		{"a box that only a hole's ring goes into", polygonOf(square(0, 10), ringOf(20, 20, 90, 20, 55, 90)), boxOf(30, 5, 40, 25), true},
		{"a box in a hole beside the outline", polygonOf(square(0, 10), square(20, 60)), boxOf(30, 30, 40, 40), true},
		{"a box between crossed stretches", polygonOf(ringOf(0, 0, 80, 80, 80, 0, 0, 80)), boxOf(38, 60, 42, 65), false},
		{"a box across crossed stretches", polygonOf(ringOf(0, 0, 80, 80, 80, 0, 0, 80)), boxOf(38, 30, 42, 65), true},
		{"all of the grid and one place", polygonOf(square(0, far)), boxOf(far, far, far, far), true},
		{"all of the grid, twice", polygonOf(square(0, far)), allOfGrid(), true},
		{"the grid's hole and its corner", polygonOf(square(0, far), square(1, far-1)), boxOf(2, 2, far-2, far-2), false},
		{"a hair outside of a long stretch", polygonOf(ringOf(0, 0, far-1, far, far, 0)), boxOf(far-2, far-1, far-2, far-1), false},
		{"a hair inside of a long stretch", polygonOf(ringOf(0, 0, far-1, far, 0, far)), boxOf(far-2, far-1, far-2, far-1), true},
	}
	for _, k := range known {
		forms := []api.Feature{k.f, backward(k.f)}
		if k.f.Shape == api.ShapePolygon {
			forms = append(forms, turned(k.f, 1), turned(k.f, 2), turned(k.f, 3))
		}
		for _, f := range forms {
			if got, e := Meets(f, k.b); got != k.want || e != api.OK {
				t.Errorf("P4.2: %s: Meets(%v, %v) is %v, %d, not %v", k.what, f, k.b, got, e, k.want)
			}
		}
	}
}

// TestMeetsAndHasAgree: a box of one place is met just if that place is had.
func TestMeetsAndHasAgree(t *testing.T) {
	r := rand.New(rand.NewSource(2))
	for range 3000 {
		f, p := anyFeature(r), api.Point{X: r.Intn(6), Y: r.Intn(6)}
		met, e := Meets(f, boxOf(p.X, p.Y, p.X, p.Y))
		had, g := Has(f, p)
		if met != had || e != api.OK || g != api.OK {
			t.Fatalf("P4.2: %v, %v: Meets is %v, %d, Has %v, %d", f, p, met, e, had, g)
		}
	}
}

func TestSameOfCopies(t *testing.T) {
	for _, f := range append(goodFeatures(), wrongFeatures()...) {
		if !Same(f, f) || !Same(f, copyOf(f)) || !Same(copyOf(f), f) {
			t.Errorf("P4.2: %v is not the same as itself", short(f))
		}
	}
}

func TestSameOfEmptyLists(t *testing.T) {
	none := api.Feature{Id: 1}
	empty := api.Feature{Id: 1, Rings: [][]api.Point{}}
	one := api.Feature{Id: 1, Rings: [][]api.Point{nil}}
	oneEmpty := api.Feature{Id: 1, Rings: [][]api.Point{{}}}
	if !Same(none, empty) || !Same(empty, none) || !Same(one, oneEmpty) || !Same(oneEmpty, one) {
		t.Error("P4.2: an empty list and nil are not the same")
	}
	if Same(none, one) || Same(oneEmpty, empty) {
		t.Error("P4.2: no ring and an empty one are the same")
	}
}

// otherFeatures differ from f in one part alone.
func otherFeatures(f api.Feature) []api.Feature {
	all := []api.Feature{withId(f, f.Id+1), withId(f, f.Id-1), withId(f, f.Id+1<<16), withId(f, f.Id+1<<32), withShape(f, f.Shape+1), withShape(f, f.Shape-1), withShape(f, f.Shape+256)}
	for i, ring := range f.Rings {
		for j, p := range ring {
			for _, q := range []api.Point{{X: p.X + 1, Y: p.Y}, {X: p.X, Y: p.Y + 1}, {X: p.X - 1, Y: p.Y}, {X: p.X, Y: p.Y - 1}, {X: p.X + 1<<32, Y: p.Y}, {X: p.X, Y: p.Y + 1<<32}} {
				all = append(all, withPoint(f, i, j, q))
			}
		}
		longer, shorter, fewer, more := copyOf(f), copyOf(f), copyOf(f), copyOf(f)
		longer.Rings[i] = append(longer.Rings[i], ring[0])
		shorter.Rings[i] = shorter.Rings[i][:len(ring)-1]
		fewer.Rings = slices.Delete(fewer.Rings, i, i+1)
		more.Rings = slices.Insert(more.Rings, i, slices.Clone(ring))
		all = append(all, longer, shorter, fewer, more)
	}
	return all
}

func checkOther(t *testing.T, f, g api.Feature) {
	t.Helper()
	if Same(f, g) || Same(g, f) {
		t.Errorf("P4.2: %v and %v are the same", f, g)
	}
}

func TestSameOfOtherFeatures(t *testing.T) {
	full := bentFeature(api.ShapePolygon, api.MaxRings, api.MaxPoints)
	for _, f := range []api.Feature{pointAt(5, 7), lineOf(1, 2, 3, 4, 6, 9), polygonOf(square(10, 50)), holed(), full, withShape(withId(full, 0), 9)} {
		for _, g := range otherFeatures(f) {
			checkOther(t, f, g)
		}
	}
	f := polygonOf(ringOf(1, 2, 8, 3, 5, 9, 2, 6), ringOf(4, 4, 6, 4, 5, 5))
	for by := 1; by < 3; by++ {
		checkOther(t, f, turned(f, by))
	}
	checkOther(t, f, backward(f))
	checkOther(t, f, polygonOf(f.Rings[1], f.Rings[0]))
	checkOther(t, f, polygonOf(slices.Concat(f.Rings...)))
	checkOther(t, f, polygonOf(slices.Concat(f.Rings...)[:3], slices.Concat(f.Rings...)[3:]))
	checkOther(t, pointAt(5, 7), pointAt(7, 5))
	checkOther(t, api.Feature{}, pointAt(0, 0))
}

// roomy is a copy of f whose lists have marked room behind their ends.
func roomy(f api.Feature) api.Feature {
	mark := api.Point{X: spare, Y: spare}
	rings := [][]api.Point{}
	for _, ring := range f.Rings {
		rings = append(rings, append(slices.Clone(ring), mark, mark)[:len(ring)])
	}
	f.Rings = append(rings, []api.Point{mark}, []api.Point{mark})[:len(rings)]
	return f
}

// untouched tells whether a roomy f is as roomy made it out of another one.
func untouched(f, from api.Feature) bool {
	mark := api.Point{X: spare, Y: spare}
	for _, ring := range f.Rings {
		room := ring[len(ring) : len(ring)+2]
		if room[0] != mark || room[1] != mark {
			return false
		}
	}
	for _, ring := range f.Rings[len(f.Rings) : len(f.Rings)+2] {
		if len(ring) != 1 || ring[0] != mark {
			return false
		}
	}
	return slices.EqualFunc(f.Rings, from.Rings, func(a, b []api.Point) bool { return slices.Equal(a, b) })
}

func TestNothingIsChanged(t *testing.T) {
	all := append(goodFeatures(), bentFeature(api.ShapePolygon, 2, 2), bentFeature(7, 5, 17), api.Feature{})
	for _, from := range all {
		f, g := roomy(from), roomy(from)
		plain := copyOf(from)
		if May(f) != May(plain) || !Same(f, g) {
			t.Errorf("R5: %v: the room behind a list's end is seen", from)
		}
		box, e := Box(f)
		if plainAnswer, h := Box(plain); box != plainAnswer || e != h {
			t.Errorf("R5: %v: the room behind a list's end is seen", from)
		}
		Has(f, api.Point{X: 30, Y: 30})
		Has(f, api.Point{X: spare, Y: spare})
		Meets(f, boxOf(25, 25, 35, 35))
		Meets(f, boxOf(spare, spare, spare, spare))
		if !untouched(f, from) || !untouched(g, from) {
			t.Errorf("R4: %v is changed to %v, %v", from, f, g)
		}
	}
}

func TestWalks(t *testing.T) {
	known := []struct {
		f    api.Feature
		want [][2]api.Point
	}{
		{pointAt(5, 7), nil},
		{lineOf(1, 1, 2, 2, 3, 1), [][2]api.Point{{{X: 1, Y: 1}, {X: 2, Y: 2}}, {{X: 2, Y: 2}, {X: 3, Y: 1}}}},
		{holed(), pairs(holed())},
		{api.Feature{Shape: api.ShapePolygon, Rings: [][]api.Point{nil}}, nil},
		{api.Feature{Shape: api.ShapeLine, Rings: [][]api.Point{nil}}, nil},
		{api.Feature{}, nil},
	}
	for _, k := range known {
		var walked [][2]api.Point
		for s := range stretches(k.f) {
			walked = append(walked, [2]api.Point{s.from, s.to})
		}
		if !slices.Equal(walked, k.want) {
			t.Errorf("P4.2: the stretches of %v are %v, not %v", k.f, walked, k.want)
		}
		if seen := slices.Collect(points(k.f)); !slices.Equal(seen, slices.Concat(k.f.Rings...)) {
			t.Errorf("P4.1: the points of %v are %v", k.f, seen)
		}
	}
}

func TestTogether(t *testing.T) {
	f, b := holed(), boxOf(25, 25, 35, 35)
	var wait sync.WaitGroup
	var fine [16]bool
	for i := range fine {
		wait.Add(1)
		go func() {
			defer wait.Done()
			box, _ := Box(f)
			had, _ := Has(f, api.Point{X: 11 + i, Y: 30})
			met, _ := Meets(f, b)
			fine[i] = May(f) && Same(f, f) && box == boxOf(10, 10, 50, 50) && had == (i < 10) && !met
		}()
	}
	wait.Wait()
	for i, is := range fine {
		if !is {
			t.Errorf("R5: goroutine %d is told something else", i)
		}
	}
}

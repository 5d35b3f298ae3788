package store

import (
	"math"
	"testing"

	"furlong/api"
)

func TestGet(t *testing.T) {
	first, last, line := pointOf(1, 1, 1), pointOf(api.MaxId, 2, 2), lineOf(700, 0, 0, 9, 9)
	s := made(t, 0, 2, halves(1), puts(last, first, line, pointOf(8, half, 3)))
	holds(t, s, first, line, last)
	none(t, s, 8, 2, 699, 701, api.MaxId-1)
	none(t, s, math.MinInt, -api.MaxId, -1, 0, api.MaxId+1, 1<<16+1, 1<<32+1, -1<<32+1, math.MaxInt)
	applied(t, s, opDelete(700))
	none(t, s, 700)
	holds(t, s, first, last)
	applied(t, s, opMap(mapOf(2, 0, 1)))
	none(t, s, 1, 700, api.MaxId)
	holds(t, s)
}

// TestById: All and Window tell by id, in whatever row features came.
func TestById(t *testing.T) {
	const many = 300
	var want []api.Feature
	for i := range many {
		want = append(want, pointOf(1+i*200, i*37%many, 5))
	}
	for _, step := range []int{1, 7, 101, 299} {
		s := whole(t)
		for i := range many {
			applied(t, s, opPut(want[i*step%many]))
		}
		holds(t, s, want...)
		windowIs(t, s, api.Box{X1: many, Y0: 5, Y1: 5}, want...)
		windowIs(t, s, api.Box{X1: many, Y1: 4})
	}
}

func TestWindowOfPlaces(t *testing.T) {
	point, line := pointOf(2, 10, 10), lineOf(4, 20, 10, 20, 14, 24, 14)
	polygon := polygonOf(3, square(30, 30, 60, 60), square(40, 40, 50, 50))
	s := whole(t, line, polygon, point)
	place := func(x, y int) api.Box { return api.Box{X0: x, Y0: y, X1: x, Y1: y} }
	windowIs(t, s, grid, point, polygon, line)
	windowIs(t, s, place(10, 10), point)
	windowIs(t, s, place(10, 11))
	windowIs(t, s, place(9, 10))
	windowIs(t, s, place(20, 12), line)
	windowIs(t, s, place(22, 14), line)
	// In the line's box, not on the line.
	windowIs(t, s, place(22, 12))
	windowIs(t, s, api.Box{X0: 21, Y0: 10, X1: 24, Y1: 13})
	windowIs(t, s, place(35, 35), polygon)
	windowIs(t, s, place(30, 30), polygon)
	windowIs(t, s, place(40, 45), polygon)
	// In the hole.
	windowIs(t, s, place(45, 45))
	windowIs(t, s, api.Box{X0: 41, Y0: 41, X1: 49, Y1: 49})
	windowIs(t, s, place(0, 0))
	windowIs(t, s, place(top, top))
	windowIs(t, s, api.Box{X0: 61, Y0: 0, X1: top, Y1: top})
}

// TestWindowThatTouches: borders and corners count.
func TestWindowThatTouches(t *testing.T) {
	polygon := polygonOf(3, square(30, 30, 60, 60))
	point, line := pointOf(1, 45, 70), lineOf(2, 70, 40, 80, 50)
	s := whole(t, polygon, point, line)
	touching := []struct {
		b  api.Box
		fs []api.Feature
	}{
		{api.Box{X0: 0, Y0: 0, X1: 30, Y1: 30}, []api.Feature{polygon}},
		{api.Box{X0: 0, Y0: 0, X1: 29, Y1: 60}, nil},
		{api.Box{X0: 0, Y0: 0, X1: 60, Y1: 29}, nil},
		{api.Box{X0: 60, Y0: 60, X1: 99, Y1: 99}, []api.Feature{polygon}},
		{api.Box{X0: 61, Y0: 60, X1: 99, Y1: 99}, nil},
		{api.Box{X0: 60, Y0: 61, X1: 99, Y1: 99}, nil},
		{api.Box{X0: 0, Y0: 60, X1: 30, Y1: 65}, []api.Feature{polygon}},
		{api.Box{X0: 60, Y0: 0, X1: 65, Y1: 30}, []api.Feature{polygon}},
		{api.Box{X0: 60, Y0: 35, X1: 65, Y1: 36}, []api.Feature{polygon}},
		{api.Box{X0: 60, Y0: 35, X1: 70, Y1: 40}, []api.Feature{line, polygon}},
		{api.Box{X0: 61, Y0: 35, X1: 70, Y1: 40}, []api.Feature{line}},
		{api.Box{X0: 61, Y0: 35, X1: 69, Y1: 60}, nil},
		{api.Box{X0: 80, Y0: 50, X1: 90, Y1: 60}, []api.Feature{line}},
		{api.Box{X0: 75, Y0: 40, X1: 80, Y1: 45}, []api.Feature{line}},
		{api.Box{X0: 76, Y0: 40, X1: 80, Y1: 45}, nil},
		{api.Box{X0: 45, Y0: 70, X1: 50, Y1: 75}, []api.Feature{point}},
		{api.Box{X0: 40, Y0: 60, X1: 45, Y1: 70}, []api.Feature{point, polygon}},
		{api.Box{X0: 46, Y0: 61, X1: 50, Y1: 75}, nil},
		{api.Box{X0: 40, Y0: 40, X1: 41, Y1: 41}, []api.Feature{polygon}},
	}
	for _, c := range touching {
		windowIs(t, s, c.b, c.fs...)
	}
}

// TestWindowAtTheGridsEnds: features and windows in all corners of the grid.
func TestWindowAtTheGridsEnds(t *testing.T) {
	corners := []api.Feature{pointOf(1, 0, 0), pointOf(2, 0, top), pointOf(3, top, 0), pointOf(4, top, top)}
	frame := polygonOf(5, square(0, 0, top, top), square(1, 1, top-1, top-1))
	s := whole(t, append(corners, frame)...)
	for _, f := range corners {
		p := f.Rings[0][0]
		windowIs(t, s, api.Box{X0: p.X, Y0: p.Y, X1: p.X, Y1: p.Y}, f, frame)
	}
	windowIs(t, s, api.Box{X0: 2, Y0: 2, X1: top - 2, Y1: top - 2})
	windowIs(t, s, api.Box{X0: 1, Y0: 1, X1: top - 1, Y1: top - 1}, frame)
	windowIs(t, s, api.Box{X0: top, Y0: 0, X1: top, Y1: top}, corners[2], corners[3], frame)
}

// TestWindowHoldsNoMore: a window tells what is held, not what was put.
func TestWindowHoldsNoMore(t *testing.T) {
	s := made(t, 1, 2, halves(1), puts(pointOf(1, half-1, 0), pointOf(2, half, 0), lineOf(3, 0, 5, top, 5)))
	windowIs(t, s, grid, pointOf(2, half, 0), lineOf(3, 0, 5, top, 5))
	// A feature that is held is told at all of its places, those that others own too.
	windowIs(t, s, api.Box{X0: 0, Y0: 5, X1: 0, Y1: 5}, lineOf(3, 0, 5, top, 5))
	windowIs(t, s, api.Box{X0: half - 1, X1: half - 1})
}

func TestMap(t *testing.T) {
	s := made(t, 2, 4, quarters())
	mapIs(t, s, quarters())
	applied(t, s, opPut(pointOf(1, top, top)))
	mapIs(t, s, quarters())
	for _, m := range []api.Map{mapOf(5, 0, 3), mapOf(1, 0, 0, 1, 1, 2, 2, 3, 3, api.Curve-1, 0), quarters()} {
		applied(t, s, opMap(m))
		mapIs(t, s, m)
		applied(t, s, opDelete(1))
		mapIs(t, s, m)
	}
}

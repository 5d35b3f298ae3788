package store

import (
	"reflect"
	"slices"
	"testing"

	"furlong/api"
)

const (
	// half is where the grid's upper half begins, cell how long a side of a cell of level 6 is.
	half = 1 << 31
	cell = 1 << 26
	// quarter is how many places of the curve a quarter of the grid has, cellPlaces how many a cell of level 6.
	quarter    = api.Curve / 4
	cellPlaces = 1 << 20
	top        = api.MaxCoord
)

var grid = api.Box{X1: top, Y1: top}

// ringOf makes a ring out of X, Y, X, Y and so on.
func ringOf(xys ...int) []api.Point {
	var ring []api.Point
	for i := 0; i < len(xys); i += 2 {
		ring = append(ring, api.Point{X: xys[i], Y: xys[i+1]})
	}
	return ring
}

func pointOf(id, x, y int) api.Feature {
	return api.Feature{Id: id, Shape: api.ShapePoint, Rings: [][]api.Point{ringOf(x, y)}}
}

func lineOf(id int, xys ...int) api.Feature {
	return api.Feature{Id: id, Shape: api.ShapeLine, Rings: [][]api.Point{ringOf(xys...)}}
}

func polygonOf(id int, rings ...[]api.Point) api.Feature {
	return api.Feature{Id: id, Shape: api.ShapePolygon, Rings: rings}
}

// square is a ring about a box of more than one place each way.
func square(x0, y0, x1, y1 int) []api.Point {
	return ringOf(x0, y0, x1, y0, x1, y1, x0, y1)
}

// mapOf makes a map out of Start, Owner, Start, Owner and so on.
func mapOf(epoch int, pairs ...int) api.Map {
	m := api.Map{Epoch: epoch}
	for i := 0; i < len(pairs); i += 2 {
		m.Starts, m.Owners = append(m.Starts, pairs[i]), append(m.Owners, pairs[i+1])
	}
	return m
}

// quarters gives node 0 the grid's lower left, 1 the upper left, 2 the upper right, 3 the lower right.
func quarters() api.Map {
	return mapOf(4, 0, 0, quarter, 1, 2*quarter, 2, 3*quarter, 3)
}

// halves gives node 0 the left half, node 1 the right one.
func halves(epoch int) api.Map {
	return mapOf(epoch, 0, 0, 2*quarter, 1)
}

func opPut(f api.Feature) api.Op {
	return api.Op{Kind: api.OpPut, Feature: f}
}

func opDelete(id int) api.Op {
	return api.Op{Kind: api.OpDelete, Id: id}
}

func opMap(m api.Map) api.Op {
	return api.Op{Kind: api.OpMap, Map: m}
}

// puts are operations that put fs, in their row.
func puts(fs ...api.Feature) []api.Op {
	var ops []api.Op
	for _, f := range fs {
		ops = append(ops, opPut(f))
	}
	return ops
}

// made is a store behind rows of operations.
func made(t *testing.T, node, nodes int, m api.Map, rows ...[]api.Op) *Store {
	t.Helper()
	s, e := New(node, nodes, m)
	if s == nil || e != api.OK {
		t.Fatalf("P14.1: New(%d, %d, %v) is %v, %d", node, nodes, m, s, e)
	}
	for _, ops := range rows {
		applied(t, s, ops...)
	}
	return s
}

// whole is a store of one node that holds all that it is given.
func whole(t *testing.T, fs ...api.Feature) *Store {
	t.Helper()
	s := made(t, 0, 1, mapOf(1, 0, 0))
	for _, f := range fs {
		applied(t, s, opPut(f))
	}
	return s
}

// applied applies ops, and fails the test if they are refused.
func applied(t *testing.T, s *Store, ops ...api.Op) {
	t.Helper()
	if e := s.Apply(ops); e != api.OK {
		t.Fatalf("P14.1: Apply(%v) is %d", ops, e)
	}
}

// same tells whether two rows of features are one.
func same(a, b []api.Feature) bool {
	return slices.EqualFunc(a, b, func(f, g api.Feature) bool { return reflect.DeepEqual(f, g) })
}

// holds fails the test if s holds others than fs, which stand by id, by any of its methods, or keeps more than these.
func holds(t *testing.T, s *Store, fs ...api.Feature) {
	t.Helper()
	if got := s.All(); !same(got, fs) {
		t.Fatalf("P14.2: All() is %v, want %v", got, fs)
	}
	windowIs(t, s, grid, fs...)
	for _, f := range fs {
		if got, is := s.Get(f.Id); !is || !reflect.DeepEqual(got, f) {
			t.Fatalf("P14.2: Get(%d) is %v, %v; want %v", f.Id, got, is, f)
		}
	}
	if len(s.features) != len(fs) || s.boxes.Len() != len(fs) {
		t.Fatalf("P14.1: %d features and %d boxes are kept, want %d", len(s.features), s.boxes.Len(), len(fs))
	}
}

// none fails the test if one of ids is held.
func none(t *testing.T, s *Store, ids ...int) {
	t.Helper()
	for _, id := range ids {
		if f, is := s.Get(id); is || !reflect.DeepEqual(f, api.Feature{}) {
			t.Fatalf("P14.2: Get(%d) is %v, %v; want none", id, f, is)
		}
	}
}

// windowIs fails the test if the features that meet b are others than fs.
func windowIs(t *testing.T, s *Store, b api.Box, fs ...api.Feature) {
	t.Helper()
	if got, e := s.Window(b); e != api.OK || !same(got, fs) {
		t.Fatalf("P14.2: Window(%v) is %v, %d; want %v", b, got, e, fs)
	}
}

// mapIs fails the test if the map is another one than m.
func mapIs(t *testing.T, s *Store, m api.Map) {
	t.Helper()
	if got := s.Map(); !reflect.DeepEqual(got, m) {
		t.Fatalf("P14.2: Map() is %v, want %v", got, m)
	}
}

// refused applies ops, and fails the test if that is no ErrStoreForm or changes something; twin is made of the same calls as s.
func refused(t *testing.T, what string, s, twin *Store, ops []api.Op) {
	t.Helper()
	if e := s.Apply(ops); e != api.ErrStoreForm {
		t.Fatalf("P14.1: Apply of %s is %d", what, e)
	}
	holds(t, s, twin.All()...)
	mapIs(t, s, twin.Map())
	if !reflect.DeepEqual(s, twin) {
		t.Fatalf("P14.1: a refused Apply of %s changes the store", what)
	}
}

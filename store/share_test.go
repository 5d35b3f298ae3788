package store

import (
	"reflect"
	"slices"
	"testing"

	"furlong/api"
)

// spare stands in the room behind a list's end, where no call may write or read.
const spare = -77

// guarded copies a list, with room behind it that is filled.
func guarded[T any](list []T, filled T) []T {
	room := append(slices.Clone(list), filled, filled)
	return room[:len(list)]
}

func guardedMap(m api.Map) api.Map {
	return api.Map{Epoch: m.Epoch, Starts: guarded(m.Starts, spare), Owners: guarded(m.Owners, spare)}
}

// guardedOps are ops in memory of their own, with room behind each of their lists.
func guardedOps(ops []api.Op) []api.Op {
	point := api.Point{X: spare, Y: spare}
	ops = guarded(ops, api.Op{Kind: spare})
	for i := range ops {
		op := &ops[i]
		op.Map = guardedMap(op.Map)
		op.Feature.Rings = guarded(op.Feature.Rings, []api.Point{point})
		for j := range op.Feature.Rings {
			op.Feature.Rings[j] = guarded(op.Feature.Rings[j], point)
		}
	}
	return ops
}

// wholeMap and wholeOps have each list as long as its room, in memory of their own.
func wholeMap(m api.Map) api.Map {
	return api.Map{Epoch: m.Epoch, Starts: slices.Clone(m.Starts[:cap(m.Starts)]), Owners: slices.Clone(m.Owners[:cap(m.Owners)])}
}

func wholeOps(ops []api.Op) []api.Op {
	ops = slices.Clone(ops[:cap(ops)])
	for i := range ops {
		op := &ops[i]
		op.Map = wholeMap(op.Map)
		rings := op.Feature.Rings[:cap(op.Feature.Rings)]
		op.Feature.Rings = nil
		for _, ring := range rings {
			op.Feature.Rings = append(op.Feature.Rings, slices.Clone(ring[:cap(ring)]))
		}
	}
	return ops
}

// spoilMap, spoilFeature, spoilOps and spoilFeatures write over all of a list, its room too, and over lists within lists first.
func spoilMap(m api.Map) {
	for _, list := range [][]int{m.Starts, m.Owners} {
		list = list[:cap(list)]
		for i := range list {
			list[i] = 99
		}
	}
}

func spoilFeature(f api.Feature) {
	rings := f.Rings[:cap(f.Rings)]
	for i, ring := range rings {
		ring = ring[:cap(ring)]
		for j := range ring {
			ring[j] = api.Point{X: 123456, Y: 654321}
		}
		rings[i] = ringOf(1, 2)
	}
}

func spoilOps(ops []api.Op) {
	ops = ops[:cap(ops)]
	for i := range ops {
		spoilMap(ops[i].Map)
		spoilFeature(ops[i].Feature)
		ops[i] = opDelete(5)
	}
}

func spoilFeatures(fs []api.Feature) {
	fs = fs[:cap(fs)]
	for i := range fs {
		spoilFeature(fs[i])
		fs[i] = pointOf(77, 7, 7)
	}
}

// three are a feature of each shape, made anew in each call.
func three() []api.Feature {
	return []api.Feature{pointOf(1, 5, 5), lineOf(2, 0, 0, 9, 9, 9, 0), polygonOf(3, square(1, 1, 90, 90), square(20, 20, 30, 30), square(40, 40, 50, 50))}
}

func TestHandedInStays(t *testing.T) {
	rows := [][]api.Op{
		puts(three()...),
		append([]api.Op{opMap(halves(2)), opDelete(7)}, puts(three()...)...),
		{opPut(pointOf(1, top, top)), opDelete(2)},
		{opMap(mapOf(3, 0, 1))},
		nil,
		{opDelete(9), opDelete(3), opPut(pointOf(9, 1, 1)), opDelete(2)},
		{opDelete(4), opMap(halves(4))},
		{opMap(mapOf(9, 0, 2)), opDelete(1)},
		{opPut(lineOf(1, 1, 1, 1, 1))},
	}
	for _, op := range wrongOps() {
		if len(op.Map.Starts) < 99 {
			rows = append(rows, []api.Op{op, opDelete(1)}, []api.Op{opDelete(1), op})
		}
	}
	s := made(t, 0, 2, halves(1))
	for _, row := range rows {
		handed := guardedOps(row)
		before := wholeOps(handed)
		s.Apply(handed)
		if after := wholeOps(handed); !reflect.DeepEqual(after, before) {
			t.Errorf("R4: Apply changes %v to %v", before, after)
		}
	}
	for _, m := range []api.Map{halves(1), mapOf(1, 0, 2), mapOf(1, 5, 1, 4, 0, 3, 1), mapOf(0)} {
		handed := guardedMap(m)
		before := wholeMap(handed)
		New(0, 2, handed)
		if after := wholeMap(handed); !reflect.DeepEqual(after, before) {
			t.Errorf("R4: New changes %v to %v", before, after)
		}
	}
}

// TestHandedInIsNotKept: what is written over behind a call is kept as it was.
func TestHandedInIsNotKept(t *testing.T) {
	m := guardedMap(halves(1))
	s := made(t, 0, 2, m)
	spoilMap(m)
	mapIs(t, s, halves(1))
	applied(t, s, opPut(pointOf(8, half, 1)))
	holds(t, s)
	ops := guardedOps(puts(three()...))
	applied(t, s, ops...)
	spoilOps(ops)
	holds(t, s, three()...)
	windowIs(t, s, api.Box{X0: 80, Y0: 80, X1: 99, Y1: 99}, three()[2])
	windowIs(t, s, api.Box{X0: 123456, Y0: 654321, X1: 123456, Y1: 654321})
	ops = guardedOps(append([]api.Op{opMap(mapOf(2, 0, 0, quarter, 1))}, puts(lineOf(2, 7, 7, 8, 8))...))
	applied(t, s, ops...)
	spoilOps(ops)
	mapIs(t, s, mapOf(2, 0, 0, quarter, 1))
	holds(t, s, three()[0], lineOf(2, 7, 7, 8, 8), three()[2])
	applied(t, s, opPut(pointOf(8, 1, half)))
	none(t, s, 8)
}

// TestOneListHandedInTwice: lists that operations share are not shared by what is held.
func TestOneListHandedInTwice(t *testing.T) {
	ring := ringOf(1, 1, 5, 1, 5, 5)
	rings := [][]api.Point{ring, ring}
	fs := []api.Feature{{Id: 1, Shape: api.ShapePolygon, Rings: rings}, {Id: 2, Shape: api.ShapePolygon, Rings: rings}}
	s := whole(t)
	applied(t, s, puts(fs...)...)
	got := s.All()
	got[0].Rings[0][0].X = 3
	if got[0].Rings[1][0].X != 1 || got[1].Rings[0][0].X != 1 || got[1].Rings[1][0].X != 1 {
		t.Errorf("R4: two lists of one answer share memory: %v", got)
	}
	number := []int{0}
	both := made(t, 0, 1, api.Map{Epoch: 1, Starts: number, Owners: number}).Map()
	both.Starts[0] = 5
	if both.Owners[0] != 0 {
		t.Errorf("R4: Starts and Owners share memory: %v", both)
	}
}

// TestAnswersAreApart: an answer that is written over changes neither another answer nor the store.
func TestAnswersAreApart(t *testing.T) {
	m := quarters()
	answers := map[string]func(s *Store) (again func() bool, spoil func()){
		"Get": func(s *Store) (func() bool, func()) {
			f, _ := s.Get(3)
			return func() bool { return reflect.DeepEqual(f, three()[2]) }, func() { spoilFeature(f) }
		},
		"Window": func(s *Store) (func() bool, func()) {
			fs, _ := s.Window(grid)
			return func() bool { return same(fs, three()) }, func() { spoilFeatures(fs) }
		},
		"All": func(s *Store) (func() bool, func()) {
			fs := s.All()
			return func() bool { return same(fs, three()) }, func() { spoilFeatures(fs) }
		},
		"Map": func(s *Store) (func() bool, func()) {
			got := s.Map()
			return func() bool { return reflect.DeepEqual(got, m) }, func() { spoilMap(got) }
		},
	}
	for what, answer := range answers {
		for beside, other := range answers {
			s := made(t, 0, 4, m, puts(three()...))
			_, spoil := answer(s)
			stays, _ := other(s)
			spoil()
			if !stays() {
				t.Errorf("R4: %s shares memory with %s", what, beside)
			}
			holds(t, s, three()...)
			mapIs(t, s, quarters())
			windowIs(t, s, api.Box{X0: 60, Y0: 60, X1: 70, Y1: 70}, three()[2])
		}
	}
}

// TestListsOfOneAnswer: each list, filled with a mark of its own up to its room, is its own memory.
func TestListsOfOneAnswer(t *testing.T) {
	s := whole(t, append(three(), polygonOf(4, square(0, 0, 5, 5), square(0, 0, 5, 5)), pointOf(5, 5, 5))...)
	window, _ := s.Window(grid)
	one, _ := s.Get(3)
	fs := slices.Concat(s.All(), window, []api.Feature{one})
	var rings [][]api.Point
	for _, f := range fs {
		rings = append(rings, f.Rings...)
	}
	for i, ring := range rings {
		for j := range ring[:cap(ring)] {
			ring[:cap(ring)][j] = api.Point{X: i, Y: i}
		}
	}
	for i, ring := range rings {
		for _, p := range ring[:cap(ring)] {
			if p.X != i {
				t.Fatalf("R4: ring %d shares memory with ring %d", i, p.X)
			}
		}
	}
	for i, f := range fs {
		for j := range f.Rings[:cap(f.Rings)] {
			f.Rings[:cap(f.Rings)][j] = ringOf(i, i)
		}
	}
	for i, f := range fs {
		for _, ring := range f.Rings[:cap(f.Rings)] {
			if ring[0].X != i {
				t.Fatalf("R4: the rings of feature %d share memory with those of feature %d", i, ring[0].X)
			}
		}
	}
}

// TestAnswersStay: later calls do not change what was answered.
func TestAnswersStay(t *testing.T) {
	s := made(t, 0, 4, quarters(), puts(three()...))
	all, m := s.All(), s.Map()
	window, _ := s.Window(grid)
	one, _ := s.Get(2)
	applied(t, s, opPut(pointOf(1, 9, 9)), opPut(lineOf(2, 3, 3, 4, 4)), opDelete(3))
	applied(t, s, opMap(mapOf(7, 0, 3)))
	holds(t, s)
	if !same(all, three()) || !same(window, three()) || !reflect.DeepEqual(one, three()[1]) || !reflect.DeepEqual(m, quarters()) {
		t.Errorf("R4: later calls change what was answered: %v, %v, %v, %v", all, window, one, m)
	}
}

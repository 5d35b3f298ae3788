package store

import (
	"fmt"
	"math"
	"slices"
	"testing"

	"furlong/api"
)

// wrongOps may not be, each for one reason.
func wrongOps() map[string]api.Op {
	good, m := pointOf(7, 1, 1), mapOf(1, 0, 0)
	ring := func(points int) []api.Point {
		var all []api.Point
		for i := range points {
			all = append(all, api.Point{X: i, Y: i * i})
		}
		return all
	}
	wrong := map[string]api.Op{
		"a Kind below the first":         {Kind: -1, Id: 7},
		"a Kind above the last":          {Kind: 3, Id: 7},
		"a Kind with high bits":          {Kind: 1 << 32, Feature: good},
		"a Put of nothing":               {Kind: api.OpPut},
		"a Put with an Id":               {Kind: api.OpPut, Feature: good, Id: 7},
		"a Put with an Epoch":            {Kind: api.OpPut, Feature: good, Map: api.Map{Epoch: 1}},
		"a Put with Starts":              {Kind: api.OpPut, Feature: good, Map: api.Map{Starts: []int{0}}},
		"a Put with Owners":              {Kind: api.OpPut, Feature: good, Map: api.Map{Owners: []int{0}}},
		"a Put with a map":               {Kind: api.OpPut, Feature: good, Map: m},
		"a Delete of Id 0":               opDelete(0),
		"a Delete of Id -1":              opDelete(-1),
		"a Delete of Id MaxId + 1":       opDelete(api.MaxId + 1),
		"a Delete of a great Id":         opDelete(1<<32 + 7),
		"a Delete of the least Id":       opDelete(math.MinInt),
		"a Delete with a feature":        {Kind: api.OpDelete, Id: 7, Feature: good},
		"a Delete with a feature's Id":   {Kind: api.OpDelete, Id: 7, Feature: api.Feature{Id: 7}},
		"a Delete with a Shape":          {Kind: api.OpDelete, Id: 7, Feature: api.Feature{Shape: 1}},
		"a Delete with a ring":           {Kind: api.OpDelete, Id: 7, Feature: api.Feature{Rings: [][]api.Point{nil}}},
		"a Delete with a map":            {Kind: api.OpDelete, Id: 7, Map: m},
		"a Delete with an Epoch":         {Kind: api.OpDelete, Id: 7, Map: api.Map{Epoch: 1}},
		"a Map with an Id":               {Kind: api.OpMap, Map: m, Id: 7},
		"a Map with a feature":           {Kind: api.OpMap, Map: m, Feature: good},
		"a Map with a feature's Id":      {Kind: api.OpMap, Map: m, Feature: api.Feature{Id: 7}},
		"a Map with a ring":              {Kind: api.OpMap, Map: m, Feature: api.Feature{Rings: [][]api.Point{{}}}},
		"a feature of Id 0":              opPut(pointOf(0, 1, 1)),
		"a feature of Id -1":             opPut(pointOf(-1, 1, 1)),
		"a feature of Id MaxId + 1":      opPut(pointOf(api.MaxId+1, 1, 1)),
		"a feature of no shape":          opPut(api.Feature{Id: 7, Shape: 3, Rings: good.Rings}),
		"a feature of Shape -1":          opPut(api.Feature{Id: 7, Shape: -1, Rings: good.Rings}),
		"a feature without rings":        opPut(api.Feature{Id: 7}),
		"a point of no points":           opPut(api.Feature{Id: 7, Rings: [][]api.Point{{}}}),
		"a point of two":                 opPut(api.Feature{Id: 7, Rings: [][]api.Point{ringOf(1, 1, 2, 2)}}),
		"a point of two rings":           opPut(api.Feature{Id: 7, Rings: [][]api.Point{ringOf(1, 1), ringOf(2, 2)}}),
		"a line of one point":            opPut(lineOf(7, 1, 1)),
		"a line with like neighbors":     opPut(lineOf(7, 1, 1, 2, 2, 2, 2)),
		"a line of too many":             opPut(api.Feature{Id: 7, Shape: api.ShapeLine, Rings: [][]api.Point{ring(17)}}),
		"a polygon of two points":        opPut(polygonOf(7, ring(2))),
		"a polygon with like ends":       opPut(polygonOf(7, ringOf(0, 0, 5, 5, 5, 0, 0, 0))),
		"a polygon with a hole of two":   opPut(polygonOf(7, ring(4), ring(2))),
		"a polygon of too many rings":    opPut(polygonOf(7, ring(3), ring(3), ring(3), ring(3), ring(3))),
		"a polygon of too many points":   opPut(polygonOf(7, ring(3), ring(17))),
		"a feature left of the grid":     opPut(pointOf(7, -1, 1)),
		"a feature above the grid":       opPut(pointOf(7, 1, top+1)),
		"a line that leaves the grid":    opPut(lineOf(7, 1, 1, top+1, 1)),
		"a polygon that leaves the grid": opPut(polygonOf(7, ring(3), ringOf(1, 1, 2, 2, 1, -1))),
	}
	for what, m := range wrongMaps() {
		wrong["a Map with "+what] = opMap(m)
	}
	return wrong
}

// pair is two stores of the same calls, node 0 of 8, that hold three features.
func pair(t *testing.T) (s, twin *Store) {
	t.Helper()
	build := func() *Store {
		s := made(t, 0, 8, quarters())
		applied(t, s, opPut(pointOf(1, 5, 5)), opPut(lineOf(2, 0, 0, top, top)), opPut(polygonOf(3, square(1, 1, 9, 9))))
		holds(t, s, pointOf(1, 5, 5), lineOf(2, 0, 0, top, top), polygonOf(3, square(1, 1, 9, 9)))
		return s
	}
	return build(), build()
}

// goodOps may be, and change what pair tells.
func goodOps() []api.Op {
	return []api.Op{opDelete(1), opPut(pointOf(2, 9, 9)), opPut(pointOf(4, 4, 4)), opDelete(3)}
}

// TestOpsThatMayNotBe: alone, first, last and in between, with a map ahead of all and without one.
func TestOpsThatMayNotBe(t *testing.T) {
	for what, op := range wrongOps() {
		s, twin := pair(t)
		refused(t, what, s, twin, []api.Op{op})
		for at := range len(goodOps()) + 1 {
			ops := slices.Insert(goodOps(), at, op)
			refused(t, fmt.Sprintf("%s, as number %d", what, at), s, twin, ops)
			ops = slices.Insert(ops, 0, opMap(mapOf(9, 0, 1)))
			refused(t, fmt.Sprintf("%s, as number %d, a map ahead", what, at+1), s, twin, ops)
		}
		applied(t, s, goodOps()...)
		holds(t, s, pointOf(2, 9, 9), pointOf(4, 4, 4))
	}
}

func TestRowsThatMayNotBe(t *testing.T) {
	deletes := func(many int) []api.Op {
		var ops []api.Op
		for i := range many {
			ops = append(ops, opDelete(1+i))
		}
		return ops
	}
	m, f := mapOf(9, 0, 1), pointOf(1, 6, 6)
	rows := map[string][]api.Op{
		"nothing":                                 nil,
		"no operations":                           {},
		"no operations, with room":                make([]api.Op, 0, 5),
		"one more than MaxOps":                    deletes(api.MaxOps + 1),
		"very many":                               deletes(100000),
		"a map and MaxOps":                        append([]api.Op{opMap(m)}, deletes(api.MaxOps)...),
		"two Puts of one Id":                      {opPut(f), opPut(pointOf(1, 7, 7))},
		"two like Puts":                           {opPut(f), opPut(f)},
		"two Deletes of one Id":                   {opDelete(1), opDelete(1)},
		"a Put and a Delete of one Id":            {opPut(f), opDelete(1)},
		"a Delete and a Put of one Id":            {opDelete(1), opPut(f)},
		"two of an Id that is not held":           {opDelete(9), opDelete(9)},
		"the first and the last one of one Id":    {opDelete(1), opDelete(2), opPut(pointOf(3, 3, 3)), opPut(f)},
		"two in between of one Id":                {opDelete(2), opDelete(1), opPut(f), opDelete(3)},
		"a map, and two of one Id":                {opMap(m), opDelete(1), opDelete(2), opDelete(1)},
		"a map behind a Delete":                   {opDelete(1), opMap(m)},
		"a map behind a Put":                      {opPut(f), opMap(m)},
		"a map in between":                        {opPut(f), opMap(m), opDelete(2)},
		"two maps":                                {opMap(m), opMap(m)},
		"a map ahead, and one at the end":         {opMap(m), opDelete(1), opMap(m)},
		"a map that is the one of now, behind":    {opDelete(1), opMap(quarters())},
		"a map behind as many as may be but one":  append(deletes(api.MaxOps-1), opMap(m)),
		"as many as may be, the last of an elder": append(deletes(api.MaxOps-1), opDelete(1)),
	}
	for what, ops := range rows {
		s, twin := pair(t)
		refused(t, what, s, twin, ops)
		refused(t, what, s, twin, ops)
	}
}

// TestMapsOfOthers: an OpMap that may be by itself, but for more nodes than there are.
func TestMapsOfOthers(t *testing.T) {
	for nodes := 1; nodes < api.MaxNodes; nodes++ {
		build := func() *Store {
			return made(t, nodes-1, nodes, mapOf(1, 0, nodes-1), puts(pointOf(1, 5, 5), pointOf(2, top, top)))
		}
		for owner := nodes; owner < api.MaxNodes; owner++ {
			s, twin := build(), build()
			for _, m := range []api.Map{mapOf(2, 0, owner), mapOf(2, 0, 0, 9, owner), mapOf(2, 0, owner, 9, 0)} {
				refused(t, "a map for more nodes", s, twin, []api.Op{opMap(m)})
				refused(t, "a map for more nodes, with others", s, twin, []api.Op{opMap(m), opDelete(1), opPut(pointOf(3, 3, 3))})
			}
			applied(t, s, opMap(mapOf(2, 0, nodes-1)))
			holds(t, s, pointOf(1, 5, 5), pointOf(2, top, top))
		}
	}
}

// wrongBoxes may not be.
func wrongBoxes() []api.Box {
	return []api.Box{
		{X0: 1}, {Y0: 1}, {X0: 6, X1: 5, Y1: 5}, {Y0: 6, Y1: 5, X1: 5}, {X0: -1}, {Y0: -1}, {X0: -5, X1: -1}, {Y0: -5, Y1: -1},
		{X1: top + 1}, {Y1: top + 1}, {X0: top + 1, X1: top + 2}, {X0: top, X1: top - 1, Y1: 9},
		{X1: math.MaxInt, Y1: 5}, {X0: math.MinInt, X1: 5, Y1: 5}, {X0: 1, Y0: 1, X1: 1<<32 + 1, Y1: 1},
	}
}

func TestWindowOfWrongBoxes(t *testing.T) {
	full, _ := pair(t)
	for _, s := range []*Store{full, whole(t)} {
		before := s.All()
		for _, b := range wrongBoxes() {
			if fs, e := s.Window(b); len(fs) != 0 || e != api.ErrStoreForm {
				t.Errorf("P14.2: Window(%v) is %v, %d", b, fs, e)
			}
		}
		holds(t, s, before...)
	}
}

// TestNil: R3, ahead of every other error.
func TestNil(t *testing.T) {
	var s *Store
	for _, ops := range [][]api.Op{nil, {opDelete(1)}, {opDelete(0)}, {opMap(mapOf(1, 0, 0)), opPut(pointOf(1, 1, 1))}} {
		if e := s.Apply(ops); e != api.ErrNil {
			t.Errorf("R3: Apply(%v) is %d", ops, e)
		}
	}
	none(t, s, -1, 0, 1, api.MaxId)
	for _, b := range append(wrongBoxes(), api.Box{}, grid) {
		if fs, e := s.Window(b); len(fs) != 0 || e != api.ErrNil {
			t.Errorf("R3: Window(%v) is %v, %d", b, fs, e)
		}
	}
	if fs := s.All(); len(fs) != 0 {
		t.Errorf("R3: All() is %v", fs)
	}
	if m := s.Map(); m.Epoch != 0 || len(m.Starts) != 0 || len(m.Owners) != 0 {
		t.Errorf("R3: Map() is %v", m)
	}
}

// TestZero: no method of a store that New did not make panics.
func TestZero(t *testing.T) {
	var s Store
	applied(t, &s, opPut(pointOf(1, 1, 1)), opDelete(2))
	holds(t, &s)
	none(t, &s, 0, 1, 2)
	if e := s.Apply([]api.Op{opMap(mapOf(1, 0, 0))}); e != api.ErrStoreForm {
		t.Errorf("R1: a map for no nodes: %d", e)
	}
	if _, e := s.Window(api.Box{X0: 1}); e != api.ErrStoreForm {
		t.Errorf("R1: Window: %d", e)
	}
	if m := s.Map(); m.Epoch != 0 || len(m.Starts) != 0 || len(m.Owners) != 0 {
		t.Errorf("R1: Map() is %v", m)
	}
}

package may

import (
	"math"
	"slices"
	"testing"

	"furlong/api"
)

// ring has so many points, no two neighbors the same, the ends neither.
func ring(points int) []api.Point {
	var all []api.Point
	for i := range points {
		all = append(all, api.Point{X: i, Y: i * i})
	}
	return all
}

func opPut(id int) api.Op {
	return api.Op{Kind: api.OpPut, Feature: api.Feature{Id: id, Shape: api.ShapePolygon, Rings: [][]api.Point{ring(16), ring(16), ring(16), ring(16)}}}
}

func opDelete(id int) api.Op {
	return api.Op{Kind: api.OpDelete, Id: id}
}

func opMap(owner int) api.Op {
	return api.Op{Kind: api.OpMap, Map: api.Map{Epoch: 1, Starts: []int{0}, Owners: []int{owner}}}
}

// manyOf makes so many operations, of Ids from 1 on.
func manyOf(many int, op func(id int) api.Op) []api.Op {
	var ops []api.Op
	for i := range many {
		ops = append(ops, op(i+1))
	}
	return ops
}

func TestName(t *testing.T) {
	for _, node := range []int{math.MinInt, -1, 0, 1, 7, 8, 9, 256, 1 << 32, math.MaxInt} {
		for _, seq := range []int{math.MinInt, -1, 0, 1, 2, 65534, 65535, 65536, 65537, 1<<32 + 1, math.MaxInt} {
			want := node >= 0 && node < 8 && seq >= 1 && seq < 65536
			if Name(api.Tx{Node: node, Seq: seq}) != want {
				t.Errorf("P11.1: a name of Node %d, Seq %d: %t", node, seq, !want)
			}
		}
	}
}

func TestBase(t *testing.T) {
	for base, want := range map[int]bool{math.MinInt: false, -2: false, -1: true, 0: true, 1: true, 65534: true, 65535: true, 65536: false, 1<<32 - 1: false, math.MaxInt: false} {
		if Base(base) != want {
			t.Errorf("P11.1: Base %d: %t", base, !want)
		}
	}
}

// TestOps asks no length: operations that come to more bytes than a record has may be.
func TestOps(t *testing.T) {
	rows := []struct {
		what string
		ops  []api.Op
		want bool
	}{
		{"none", nil, false},
		{"none, not nil", []api.Op{}, false},
		{"one", []api.Op{opDelete(1)}, true},
		{"MaxOps", manyOf(api.MaxOps, opDelete), true},
		{"one more", manyOf(api.MaxOps+1, opDelete), false},
		{"a hundred thousand", manyOf(100000, opDelete), false},
		{"MaxOps of the greatest features", manyOf(api.MaxOps, opPut), true},
		{"a map ahead of these", append([]api.Op{opMap(7)}, manyOf(api.MaxOps-1, opPut)...), true},
		{"a map behind these", append(manyOf(api.MaxOps-1, opPut), opMap(7)), false},
		{"a map of no node", []api.Op{opMap(8)}, false},
		{"two maps", []api.Op{opMap(1), opMap(1)}, false},
		{"one Id twice", append(manyOf(api.MaxOps-1, opPut), opDelete(1)), false},
		{"another Id", append(manyOf(api.MaxOps-1, opPut), opDelete(api.MaxOps)), true},
		{"a Kind below the first", []api.Op{{Kind: -1}}, false},
		{"a Kind above the last", []api.Op{{Kind: 3, Id: 1}}, false},
		{"a last one that may not be", append(manyOf(api.MaxOps-1, opPut), opDelete(0)), false},
	}
	for _, row := range rows {
		before := slices.Clone(row.ops)
		if Ops(row.ops) != row.want {
			t.Errorf("P11.1: %s: %t", row.what, !row.want)
		}
		for i := range before {
			if before[i].Kind != row.ops[i].Kind || before[i].Id != row.ops[i].Id || before[i].Feature.Id != row.ops[i].Feature.Id {
				t.Errorf("R4: %s: operation %d is another one", row.what, i)
			}
		}
	}
}

func TestNoMap(t *testing.T) {
	rows := []struct {
		m    api.Map
		want bool
	}{
		{api.Map{}, true},
		{api.Map{Starts: []int{}, Owners: make([]int, 0, 5)}, true},
		{api.Map{Epoch: 1}, false},
		{api.Map{Epoch: -1}, false},
		{api.Map{Starts: []int{0}}, false},
		{api.Map{Owners: []int{0}}, false},
	}
	for _, row := range rows {
		if NoMap(row.m) != row.want {
			t.Errorf("DOC, Words: %v is zero: %t", row.m, !row.want)
		}
	}
}

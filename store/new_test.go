package store

import (
	"math"
	"testing"

	"furlong/api"
)

func TestNew(t *testing.T) {
	for nodes := 1; nodes <= api.MaxNodes; nodes++ {
		for node := range nodes {
			for _, m := range []api.Map{mapOf(1, 0, 0), mapOf(api.MaxEpoch, 0, nodes-1, api.Curve-1, 0), mapOf(7, 0, nodes/2, 5, nodes-1)} {
				s := made(t, node, nodes, m)
				holds(t, s)
				mapIs(t, s, m)
				none(t, s, 0, 1, api.MaxId)
			}
		}
	}
	one, other := made(t, 0, 1, mapOf(1, 0, 0)), made(t, 0, 1, mapOf(2, 0, 0))
	applied(t, one, opPut(pointOf(1, 1, 1)))
	applied(t, one, opMap(mapOf(9, 0, 0)))
	holds(t, other)
	mapIs(t, other, mapOf(2, 0, 0))
}

func TestNewOfTheLongestMap(t *testing.T) {
	m := mapOf(3)
	for i := range api.MaxRanges {
		m.Starts, m.Owners = append(m.Starts, i*quarter/8), append(m.Owners, i%8)
	}
	s := made(t, 7, 8, m)
	holds(t, s)
	mapIs(t, s, m)
}

// noNew fails the test if New is not refused, or tells a store.
func noNew(t *testing.T, what string, node, nodes int, m api.Map) {
	t.Helper()
	if s, e := New(node, nodes, m); s != nil || e != api.ErrStoreForm {
		t.Errorf("P14.1: New with %s: %v, %d", what, s, e)
	}
}

// wrongMaps may not be for 8 nodes, each for one reason.
func wrongMaps() map[string]api.Map {
	long, much := mapOf(1), mapOf(1)
	for i := range api.MaxRanges + 1 {
		long.Starts, long.Owners = append(long.Starts, i), append(long.Owners, 0)
	}
	much.Starts, much.Owners = make([]int, 100000), make([]int, 100000)
	return map[string]api.Map{
		"no map":                  {},
		"an Epoch alone":          {Epoch: 1},
		"empty lists":             {Epoch: 1, Starts: []int{}, Owners: []int{}},
		"Epoch 0":                 mapOf(0, 0, 0),
		"Epoch -1":                mapOf(-1, 0, 0),
		"Epoch MaxEpoch + 1":      mapOf(api.MaxEpoch+1, 0, 0),
		"no Start 0":              mapOf(1, 1, 0),
		"a Start below 0":         mapOf(1, -1, 0),
		"Starts that stay":        mapOf(1, 0, 0, 5, 0, 5, 0),
		"Starts that fall":        mapOf(1, 0, 0, 5, 0, 4, 0),
		"a Start of Curve":        mapOf(1, 0, 0, api.Curve, 0),
		"more than MaxRanges":     long,
		"very many Starts":        much,
		"an Owner less":           {Epoch: 1, Starts: []int{0, 5}, Owners: []int{0}},
		"an Owner more":           {Epoch: 1, Starts: []int{0}, Owners: []int{0, 0}},
		"no Owners":               {Epoch: 1, Starts: []int{0}},
		"no Starts":               {Epoch: 1, Owners: []int{0}},
		"an Owner below 0":        mapOf(1, 0, 0, 5, -1),
		"an Owner that is none":   mapOf(1, 0, 0, 5, api.MaxNodes),
		"a first Owner of no one": mapOf(1, 0, math.MaxInt, 5, 0),
	}
}

func TestNewWithWrongMaps(t *testing.T) {
	for what, m := range wrongMaps() {
		noNew(t, what, 0, 8, m)
		noNew(t, what, 7, 8, m)
		noNew(t, what, 0, 1, m)
	}
}

// TestNewWithMapsOfOthers: a map may be for more nodes, not for so many.
func TestNewWithMapsOfOthers(t *testing.T) {
	for nodes := 1; nodes < api.MaxNodes; nodes++ {
		for owner := nodes; owner < api.MaxNodes; owner++ {
			noNew(t, "a first Owner that is none", 0, nodes, mapOf(1, 0, owner))
			noNew(t, "a last Owner that is none", nodes-1, nodes, mapOf(1, 0, 0, 9, owner))
			made(t, owner, owner+1, mapOf(1, 0, owner))
		}
	}
	for _, nodes := range []int{math.MinInt, -8, -1, 0, api.MaxNodes + 1, 16, 1 << 32, 1<<32 + 1, math.MaxInt} {
		noNew(t, "so many nodes as may not be", 0, nodes, mapOf(1, 0, 0))
		noNew(t, "so many nodes as may not be, the last of them", nodes-1, nodes, mapOf(1, 0, 0))
	}
}

func TestNewOfNoNode(t *testing.T) {
	for nodes := 1; nodes <= api.MaxNodes; nodes++ {
		for _, node := range []int{math.MinInt, -nodes, -1, nodes, nodes + 1, api.MaxNodes, nodes + 1<<8, nodes + 1<<32, 1 << 32, math.MaxInt} {
			noNew(t, "a node that is none", node, nodes, mapOf(1, 0, 0))
		}
	}
}

package smap

import (
	"math"
	"math/rand"
	"slices"
	"sync"
	"testing"

	"furlong/api"
	"furlong/cover"
	"furlong/shape"
)

const (
	far = api.MaxCoord
	// cellSide is how many places lie in a row of a cell of api.Level.
	cellSide = 67108864
	// cellStretch is how many places of the curve lie in a cell of api.Level.
	cellStretch = 1048576
	// spare stands in the room behind a list's end, where no call may write or read.
	spare = -77
)

// mapOf makes a map of Epoch 4 out of Start, Owner, Start, Owner and so on.
func mapOf(pairs ...int) api.Map {
	m := api.Map{Epoch: 4}
	for i := 0; i < len(pairs); i += 2 {
		m.Starts, m.Owners = append(m.Starts, pairs[i]), append(m.Owners, pairs[i+1])
	}
	return m
}

// evenMap has so many stretches of one length, its owners from 0 below nodes by turns, the last node first.
func evenMap(count, length, nodes int) api.Map {
	m := api.Map{Epoch: 4}
	for i := range count {
		m.Starts, m.Owners = append(m.Starts, i*length), append(m.Owners, nodes-1-i%nodes)
	}
	return m
}

func withEpoch(m api.Map, epoch int) api.Map {
	m.Epoch = epoch
	return m
}

// withStart is m with another Start at i.
func withStart(m api.Map, i, start int) api.Map {
	m = copyOf(m)
	m.Starts[i] = start
	return m
}

// withOwner is m with another Owner at i.
func withOwner(m api.Map, i, owner int) api.Map {
	m = copyOf(m)
	m.Owners[i] = owner
	return m
}

// copyOf shares no memory with m.
func copyOf(m api.Map) api.Map {
	return api.Map{Epoch: m.Epoch, Starts: slices.Clone(m.Starts), Owners: slices.Clone(m.Owners)}
}

func sameMap(a, b api.Map) bool {
	return a.Epoch == b.Epoch && slices.Equal(a.Starts, b.Starts) && slices.Equal(a.Owners, b.Owners)
}

// isZero tells whether m is what stands beside an error.
func isZero(m api.Map) bool {
	return m.Epoch == 0 && len(m.Starts) == 0 && len(m.Owners) == 0
}

// short tells as much of a map as a failure's line has room for.
func short(m api.Map) any {
	if len(m.Starts) > api.MaxRanges+1 || len(m.Owners) > api.MaxRanges+1 {
		return "a map beyond all bounds"
	}
	return m
}

// rangesOf makes ranges out of From, To, From, To and so on.
func rangesOf(ends ...int) []api.Range {
	var rs []api.Range
	for i := 0; i < len(ends); i += 2 {
		rs = append(rs, api.Range{From: ends[i], To: ends[i+1]})
	}
	return rs
}

func ringOf(xys ...int) []api.Point {
	var ring []api.Point
	for i := 0; i < len(xys); i += 2 {
		ring = append(ring, api.Point{X: xys[i], Y: xys[i+1]})
	}
	return ring
}

func pointAt(x, y int) api.Feature {
	return api.Feature{Id: 1, Shape: api.ShapePoint, Rings: [][]api.Point{ringOf(x, y)}}
}

func lineOf(xys ...int) api.Feature {
	return api.Feature{Id: 2, Shape: api.ShapeLine, Rings: [][]api.Point{ringOf(xys...)}}
}

func polygonOf(rings ...[]api.Point) api.Feature {
	return api.Feature{Id: 3, Shape: api.ShapePolygon, Rings: rings}
}

// ends tells where stretch i of m begins and where the next one does.
func ends(m api.Map, i int) (int, int) {
	if i+1 == len(m.Starts) {
		return m.Starts[i], api.Curve
	}
	return m.Starts[i], m.Starts[i+1]
}

// plainStretch goes through all stretches.
func plainStretch(m api.Map, d int) int {
	for i := range m.Starts {
		if from, to := ends(m, i); from <= d && d < to {
			return i
		}
	}
	return -1
}

// plainOwners asks each node of each stretch and each range.
func plainOwners(m api.Map, rs []api.Range) []int {
	var owners []int
	for node := range api.MaxNodes {
		met := false
		for i, owner := range m.Owners {
			from, to := ends(m, i)
			for _, r := range rs {
				met = met || owner == node && max(from, r.From) < min(to, r.To)
			}
		}
		if met {
			owners = append(owners, node)
		}
	}
	return owners
}

// wrongNodes are no numbers of nodes; some would be, if bits were lost.
func wrongNodes() []int {
	return []int{0, 9, 10, -1, -8, 256, 257, 1 << 32, 1<<32 + 1, 1<<32 + 8, math.MinInt, math.MinInt + 1, math.MaxInt}
}

// wrongPlaces are none of the curve; some would be, if bits were lost.
func wrongPlaces() []int {
	return []int{-1, -2, api.Curve, api.Curve + 1, api.Curve + 5, 1 << 33, -api.Curve, math.MinInt, math.MaxInt}
}

// goodMaps may be for just so many nodes and more.
func goodMaps() map[string]struct {
	m     api.Map
	nodes int
} {
	type sized = struct {
		m     api.Map
		nodes int
	}
	full := evenMap(api.MaxRanges, api.Curve/api.MaxRanges, 8)
	return map[string]sized{
		"one stretch":                {mapOf(0, 0), 1},
		"one stretch, the last node": {mapOf(0, 7), 8},
		"two":                        {mapOf(0, 1, 5, 0), 2},
		"the last place alone":       {mapOf(0, 0, api.Curve-1, 2), 3},
		"the first place alone":      {mapOf(0, 3, 1, 0), 4},
		"single places":              {mapOf(0, 0, 1, 1, 2, 2, 3, 1, 4, 0), 3},
		"the last places":            {mapOf(0, 4, api.Curve-3, 3, api.Curve-2, 2, api.Curve-1, 1), 5},
		"one owner of all":           {mapOf(0, 2, 9, 2, 100, 2), 3},
		"owners that fall":           {mapOf(0, 5, 1<<20, 4, 1<<30, 3, 1<<31, 2), 6},
		"an owner that comes again":  {mapOf(0, 6, 1<<20, 0, 1<<30, 6, 1<<31, 0), 7},
		"all nodes":                  {evenMap(8, api.Curve/8, 8), 8},
		"MaxRanges":                  {full, 8},
		"MaxRanges of one node":      {evenMap(api.MaxRanges, 1, 1), 1},
		"MaxRanges but one":          {evenMap(api.MaxRanges-1, cellStretch+1, 3), 3},
		"Epoch 1":                    {withEpoch(mapOf(0, 1, 5, 0), 1), 2},
		"Epoch MaxEpoch":             {withEpoch(full, api.MaxEpoch), 8},
	}
}

// wrongMaps may not be for any number of nodes.
func wrongMaps() []api.Map {
	good := mapOf(0, 1, 5, 0, 9, 1)
	full := evenMap(api.MaxRanges, api.Curve/api.MaxRanges, 8)
	wrong := []api.Map{
		{}, {Epoch: 1}, {Epoch: 1, Starts: []int{}, Owners: []int{}},
		{Epoch: 1, Starts: []int{0}}, {Epoch: 1, Owners: []int{0}},
		{Epoch: 1, Starts: []int{0, 5}, Owners: []int{0}}, {Epoch: 1, Starts: []int{0}, Owners: []int{0, 0}},
		{Epoch: 1, Starts: []int{0}, Owners: []int{}}, {Epoch: 1, Starts: full.Starts, Owners: full.Owners[:31]},
		{Epoch: 1, Starts: full.Starts[:31], Owners: full.Owners}, {Epoch: 1, Starts: full.Starts, Owners: evenMap(100000, 1, 8).Owners},
		evenMap(api.MaxRanges+1, 1, 1), evenMap(api.MaxRanges+1, cellStretch, 8), evenMap(100000, 1, 8), evenMap(256+1, 1, 1),
		mapOf(1, 0), mapOf(-1, 0), mapOf(-1, 0, 0, 1), mapOf(5, 1, 9, 0), mapOf(math.MinInt, 0, 0, 0), mapOf(api.Curve, 0),
		mapOf(0, 0, 0, 0), mapOf(0, 0, 0, 1, 5, 0), mapOf(0, 1, 9, 0, 5, 1), mapOf(0, 1, -1, 0), mapOf(0, 1, 5, 0, 5, 1), mapOf(0, 0, 5, 1, 0, 0),
		mapOf(0, 0, math.MaxInt, 1), mapOf(0, 0, math.MinInt, 1), mapOf(0, 0, api.Curve, 1), mapOf(0, 0, 5, 1, api.Curve+1, 0),
		mapOf(0, 0, api.Curve, 1, api.Curve+1, 0),
	}
	for _, epoch := range []int{0, -1, api.MaxEpoch + 1, api.MaxEpoch + 2, -api.MaxEpoch, 1 << 32, 1<<32 + 1, math.MinInt, math.MaxInt} {
		wrong = append(wrong, withEpoch(good, epoch), withEpoch(mapOf(0, 0), epoch), withEpoch(full, epoch))
	}
	for i := range full.Starts {
		for _, owner := range []int{-1, 8, 9, 256, 1 << 32, math.MinInt, math.MaxInt} {
			wrong = append(wrong, withOwner(full, i, owner))
		}
		for _, start := range []int{-1, api.Curve, api.Curve + i, math.MinInt, math.MaxInt} {
			wrong = append(wrong, withStart(full, i, start))
		}
		if i > 0 {
			wrong = append(wrong, withStart(full, i, full.Starts[i-1]), withStart(full, i, full.Starts[i-1]-1), withStart(full, i-1, full.Starts[i]))
		}
	}
	return wrong
}

// wrongRanges are lists that may not be.
func wrongRanges() [][]api.Range {
	return [][]api.Range{
		rangesOf(0, 0), rangesOf(1, 1), rangesOf(2, 1), rangesOf(-1, 1), rangesOf(0, api.Curve+1), rangesOf(api.Curve, api.Curve+1),
		rangesOf(0, 2, 2, 3), rangesOf(0, 2, 1, 3), rangesOf(5, 6, 1, 3), rangesOf(0, 1, 3, 3), rangesOf(0, 1, 4, 3, 7, 8),
		rangesOf(0, 1, 3, api.Curve+1), rangesOf(0, api.Curve, api.Curve+1, api.Curve+2), rangesOf(math.MinInt, 1), rangesOf(0, math.MaxInt), rangesOf(math.MinInt, math.MaxInt),
	}
}

// goodFeatures may be.
func goodFeatures() []api.Feature {
	return []api.Feature{
		pointAt(0, 0), pointAt(far, far), pointAt(cellSide, cellSide-1), lineOf(0, 0, far, far), lineOf(5, 5, 9, 9),
		polygonOf(ringOf(0, 0, far, 0, 0, far)), polygonOf(ringOf(7, 7, 3*cellSide, 9, 2*cellSide, 5*cellSide)),
	}
}

// wrongFeatures may not be.
func wrongFeatures() []api.Feature {
	withId := func(id int) api.Feature {
		f := pointAt(0, 0)
		f.Id = id
		return f
	}
	return []api.Feature{
		{}, {Id: 1}, {Id: 1, Rings: [][]api.Point{nil}}, withId(0), withId(-1), withId(api.MaxId + 1), withId(math.MaxInt),
		{Id: 1, Shape: -1, Rings: [][]api.Point{ringOf(0, 0)}}, {Id: 1, Shape: 3, Rings: [][]api.Point{ringOf(0, 0)}},
		pointAt(-1, 0), pointAt(0, far+1), pointAt(1<<33, 0), lineOf(0, 0), lineOf(0, 0, 0, 0), polygonOf(ringOf(0, 0, 1, 1)),
		{Id: 1, Shape: api.ShapePoint, Rings: [][]api.Point{ringOf(0, 0, 1, 1)}}, polygonOf(),
	}
}

func TestMayOfGoodMaps(t *testing.T) {
	for name, good := range goodMaps() {
		for nodes := 1; nodes <= api.MaxNodes; nodes++ {
			if May(good.m, nodes) != (nodes >= good.nodes) {
				t.Errorf("P7.1: %s: May(%v, %d) is %v", name, good.m, nodes, nodes < good.nodes)
			}
		}
		for _, nodes := range wrongNodes() {
			if May(good.m, nodes) {
				t.Errorf("P7.1: %s: May(%v, %d) is true", name, good.m, nodes)
			}
		}
	}
}

func TestMayOfWrongMaps(t *testing.T) {
	for _, m := range wrongMaps() {
		for nodes := -1; nodes <= api.MaxNodes+1; nodes++ {
			if May(m, nodes) {
				t.Errorf("P7.1: May(%v, %d) is true", short(m), nodes)
			}
		}
	}
}

// TestMayOfEpochs has each Epoch about its bounds, and some between.
func TestMayOfEpochs(t *testing.T) {
	for epoch := -3; epoch <= api.MaxEpoch+3; epoch++ {
		if want := epoch >= 1 && epoch <= 65535; May(withEpoch(mapOf(0, 0), epoch), 1) != want {
			t.Fatalf("P7.1: a map of Epoch %d: may be is %v", epoch, !want)
		}
	}
}

// TestMayOfCounts has each number of stretches up to beyond the bounds, with as many Owners, fewer and more.
func TestMayOfCounts(t *testing.T) {
	for starts := range api.MaxRanges + 4 {
		for owners := range api.MaxRanges + 4 {
			m := api.Map{Epoch: 1, Starts: evenMap(starts, 3, 1).Starts, Owners: evenMap(owners, 3, 2).Owners}
			if want := starts == owners && starts >= 1 && starts <= 32; May(m, 2) != want {
				t.Errorf("P7.1: %d Starts, %d Owners: may be is %v", starts, owners, !want)
			}
		}
	}
}

// TestMayOfAllShortMaps holds May against the chapter's words, for all maps of three stretches out of few numbers.
func TestMayOfAllShortMaps(t *testing.T) {
	starts := []int{-1, 0, 1, 2, api.Curve - 1, api.Curve}
	owners := []int{-1, 0, 1, 2}
	for n := range 6 * 6 * 6 * 4 * 4 * 4 {
		a, b, c := starts[n%6], starts[n/6%6], starts[n/36%6]
		u, v, w := owners[n/216%4], owners[n/864%4], owners[n/3456]
		m := mapOf(a, u, b, v, c, w)
		want := a == 0 && b > a && c > b && c < api.Curve && min(u, v, w) >= 0 && max(u, v, w) < 2
		if May(m, 2) != want {
			t.Fatalf("P7.1: May(%v, 2) is %v", m, !want)
		}
	}
}

func TestFirst(t *testing.T) {
	known := [][]int{
		1: {0},
		2: {0, 2147483648},
		3: {0, 1431655765, 2863311530},
		4: {0, 1073741824, 2147483648, 3221225472},
		5: {0, 858993459, 1717986918, 2576980377, 3435973836},
		6: {0, 715827882, 1431655765, 2147483648, 2863311530, 3579139413},
		7: {0, 613566756, 1227133513, 1840700269, 2454267026, 3067833782, 3681400539},
		8: {0, 536870912, 1073741824, 1610612736, 2147483648, 2684354560, 3221225472, 3758096384},
	}
	for nodes := 1; nodes <= api.MaxNodes; nodes++ {
		m, e := First(nodes)
		want := api.Map{Epoch: 1, Starts: known[nodes], Owners: []int{0, 1, 2, 3, 4, 5, 6, 7}[:nodes]}
		if e != api.OK || !sameMap(m, want) {
			t.Errorf("P7.1: First(%d) is %v, %d, not %v", nodes, m, e, want)
		}
		if !May(m, nodes) || May(m, nodes-1) {
			t.Errorf("P7.1: First(%d): %v may not be for them, or for fewer", nodes, m)
		}
	}
}

// TestFirstGivesShares: no two nodes' shares differ by more than a place.
func TestFirstGivesShares(t *testing.T) {
	for nodes := 1; nodes <= api.MaxNodes; nodes++ {
		m, _ := First(nodes)
		for i := range nodes {
			from, to := ends(m, i)
			if share := to - from; share != api.Curve/nodes && share != (api.Curve+nodes-1)/nodes {
				t.Errorf("P7.1: First(%d): node %d's share is %d", nodes, i, share)
			}
			for _, d := range []int{from, (from + to) / 2, to - 1} {
				if owner, e := Owner(m, d); owner != i || e != api.OK {
					t.Errorf("P7.1: First(%d): the owner of %d is %d, %d, not %d", nodes, d, owner, e, i)
				}
			}
		}
	}
}

func TestFirstOfWrongNodes(t *testing.T) {
	for _, nodes := range wrongNodes() {
		if m, e := First(nodes); !isZero(m) || e != api.ErrSmapForm {
			t.Errorf("P7.1: First(%d) is %v, %d", nodes, m, e)
		}
	}
}

// TestOwner asks at each stretch's ends, and beside them.
func TestOwner(t *testing.T) {
	for name, good := range goodMaps() {
		for i := range good.m.Starts {
			from, to := ends(good.m, i)
			for _, d := range []int{from, from + (to-from)/2, to - 1, max(from-1, 0), min(from+1, api.Curve-1), min(to, api.Curve-1), 0, api.Curve - 1} {
				want := good.m.Owners[plainStretch(good.m, d)]
				if owner, e := Owner(good.m, d); owner != want || e != api.OK {
					t.Errorf("P7.1: %s: Owner(%v, %d) is %d, %d, not %d", name, good.m, d, owner, e, want)
				}
			}
		}
	}
	known := []struct{ d, want int }{{0, 3}, {1, 3}, {9, 3}, {10, 6}, {11, 6}, {19, 6}, {20, 1}, {21, 1}, {1 << 31, 1}, {api.Curve - 2, 1}, {api.Curve - 1, 4}}
	for _, k := range known {
		if owner, e := Owner(mapOf(0, 3, 10, 6, 20, 1, api.Curve-1, 4), k.d); owner != k.want || e != api.OK {
			t.Errorf("P7.1: the owner of %d is %d, %d, not %d", k.d, owner, e, k.want)
		}
	}
}

// TestOwnerOfEachCount asks all places of maps with each number of stretches: so each search by halves is gone through.
func TestOwnerOfEachCount(t *testing.T) {
	for count := 1; count <= api.MaxRanges; count++ {
		m := evenMap(count, 3, 7)
		for d := range 3*count + 3 {
			want := m.Owners[min(d/3, count-1)]
			if owner, e := Owner(m, d); owner != want || e != api.OK {
				t.Fatalf("P7.1: Owner(%v, %d) is %d, %d, not %d", m, d, owner, e, want)
			}
		}
	}
}

// TestOwnerOfWrongOnes has maps whose owners aren't 0: so what stands beside an error shows.
func TestOwnerOfWrongOnes(t *testing.T) {
	for _, d := range wrongPlaces() {
		for _, m := range []api.Map{mapOf(0, 5), mapOf(0, 5, 9, 6), evenMap(api.MaxRanges, cellStretch, 8)} {
			if owner, e := Owner(m, d); owner != 0 || e != api.ErrSmapForm {
				t.Errorf("P7.1: Owner(%v, %d) is %d, %d", m, d, owner, e)
			}
		}
	}
	for _, m := range wrongMaps() {
		for _, d := range []int{0, 1, 6, cellStretch, api.Curve - 1, -1} {
			if owner, e := Owner(m, d); owner != 0 || e != api.ErrSmapForm {
				t.Errorf("P7.1: Owner(%v, %d) is %d, %d", short(m), d, owner, e)
			}
		}
	}
}

func checkOwners(t *testing.T, what string, m api.Map, rs []api.Range, want []int) {
	t.Helper()
	if got, e := Owners(m, rs); !slices.Equal(got, want) || e != api.OK {
		t.Fatalf("P7.1: %s: Owners(%v, %v) is %v, %d, not %v", what, m, rs, got, e, want)
	}
}

func TestOwnersOfKnownRanges(t *testing.T) {
	m := mapOf(0, 5, 10, 2, 20, 5, 30, 7, 40, 0)
	known := []struct {
		what string
		rs   []api.Range
		want []int
	}{
		{"nothing", nil, nil},
		{"an empty list", []api.Range{}, nil},
		{"the first place", rangesOf(0, 1), []int{5}},
		{"the last place", rangesOf(api.Curve-1, api.Curve), []int{0}},
		{"the whole curve", rangesOf(0, api.Curve), []int{0, 2, 5, 7}},
		{"one stretch", rangesOf(10, 20), []int{2}},
		{"a Start alone", rangesOf(10, 11), []int{2}},
		{"the place ahead of a Start", rangesOf(9, 10), []int{5}},
		{"both", rangesOf(9, 11), []int{2, 5}},
		{"up to a Start", rangesOf(3, 10), []int{5}},
		{"up to a place more", rangesOf(3, 11), []int{2, 5}},
		{"a stretch and a place ahead", rangesOf(29, 40), []int{5, 7}},
		{"a stretch and a place behind", rangesOf(30, 41), []int{0, 7}},
		{"owners that fall", rangesOf(35, 50), []int{0, 7}},
		{"an owner of two stretches", rangesOf(5, 6, 25, 26), []int{5}},
		{"an owner of two stretches, and the one between", rangesOf(5, 26), []int{2, 5}},
		{"a stretch between that has none", rangesOf(19, 20, 30, 31), []int{2, 7}},
		{"two ranges in one stretch", rangesOf(11, 12, 13, 14), []int{2}},
		{"a range behind all Starts", rangesOf(40, 41, 99, 1<<31), []int{0}},
	}
	for _, k := range known {
		checkOwners(t, k.what, m, k.rs, k.want)
	}
	full := evenMap(api.MaxRanges, api.Curve/api.MaxRanges, 8)
	checkOwners(t, "MaxRanges", full, rangesOf(0, api.Curve), []int{0, 1, 2, 3, 4, 5, 6, 7})
	checkOwners(t, "the last of MaxRanges", full, rangesOf(api.Curve-1, api.Curve), []int{0})
	checkOwners(t, "the first ones of MaxRanges", full, rangesOf(0, 3*api.Curve/api.MaxRanges), []int{5, 6, 7})
	checkOwners(t, "one stretch alone", mapOf(0, 7), rangesOf(4, 9), []int{7})
}

// TestOwnersOfAllSmallOnes: all maps and all ranges of seven places, laid at the curve's begin and over all of it.
func TestOwnersOfAllSmallOnes(t *testing.T) {
	const places = 7
	layouts := []func(int) int{
		func(i int) int { return i },
		func(i int) int { return i * api.Curve / places },
	}
	for _, at := range layouts {
		for starts := range 1 << (places - 1) {
			m := mapOf(0, 6)
			for i := 1; i < places; i++ {
				if starts>>(i-1)&1 == 1 {
					m.Starts, m.Owners = append(m.Starts, at(i)), append(m.Owners, (6+5*len(m.Owners))%8)
				}
			}
			for marks := range 1 << places {
				var rs []api.Range
				var met [api.MaxNodes]bool
				for i := range places {
					if marks>>i&1 == 0 {
						continue
					}
					if i > 0 && marks>>(i-1)&1 == 1 {
						rs[len(rs)-1].To = at(i + 1)
					} else {
						rs = append(rs, api.Range{From: at(i), To: at(i + 1)})
					}
					met[m.Owners[plainStretch(m, at(i))]] = true
				}
				var want []int
				for node := range met {
					if met[node] {
						want = append(want, node)
					}
				}
				checkOwners(t, "small ones", m, rs, want)
			}
		}
	}
}

// anyMap has Starts of all kinds: near one another, at cells' ends, anywhere.
func anyMap(r *rand.Rand, nodes int) api.Map {
	starts := []int{0}
	for range r.Intn(api.MaxRanges) {
		near := starts[r.Intn(len(starts))]
		starts = append(starts, []int{near + 1, near + r.Intn(9), r.Intn(4096) * cellStretch, r.Intn(api.Curve)}[r.Intn(4)])
	}
	slices.Sort(starts)
	m := api.Map{Epoch: 1 + r.Intn(api.MaxEpoch-1)}
	for _, start := range slices.Compact(starts) {
		if start < api.Curve {
			m.Starts, m.Owners = append(m.Starts, start), append(m.Owners, r.Intn(nodes))
		}
	}
	return m
}

// anyRanges may be; many of their ends are m's Starts or beside them.
func anyRanges(r *rand.Rand, m api.Map) []api.Range {
	var ats []int
	for range 2 * r.Intn(12) {
		at := r.Intn(api.Curve + 1)
		if r.Intn(3) > 0 {
			at = max(m.Starts[r.Intn(len(m.Starts))]+r.Intn(3)-1, 0)
		}
		ats = append(ats, at)
	}
	slices.Sort(ats)
	ats = slices.Compact(ats)
	return rangesOf(ats[:len(ats)&^1]...)
}

func TestOwnersOfAnyOnes(t *testing.T) {
	r := rand.New(rand.NewSource(7))
	for range 20000 {
		m := anyMap(r, 8)
		rs := anyRanges(r, m)
		checkOwners(t, "any ones", m, rs, plainOwners(m, rs))
	}
}

// TestOwnersOfLongLists ends only if the work grows no faster than the list.
func TestOwnersOfLongLists(t *testing.T) {
	const count = 400000
	rs := make([]api.Range, count)
	for i := range rs {
		rs[i] = api.Range{From: 10000 * i, To: 10000*i + 1}
	}
	m := evenMap(api.MaxRanges, api.Curve/api.MaxRanges, 8)
	checkOwners(t, "a long list", m, rs, []int{0, 1, 2, 3, 4, 5, 6, 7})
	if got, e := Owners(m, append(rs, api.Range{From: 10000 * count, To: 0})); len(got) != 0 || e != api.ErrSmapForm {
		t.Errorf("P7.1: Owners of a long list with a wrong end is %v, %d", got, e)
	}
}

func TestOwnersOfWrongOnes(t *testing.T) {
	for _, rs := range wrongRanges() {
		for _, m := range []api.Map{mapOf(0, 5), mapOf(0, 5, 9, 6), evenMap(api.MaxRanges, cellStretch, 8), {}} {
			if owners, e := Owners(m, rs); len(owners) != 0 || e != api.ErrSmapForm {
				t.Errorf("P7.1: Owners(%v, %v) is %v, %d", m, rs, owners, e)
			}
		}
	}
	for _, m := range wrongMaps() {
		for _, rs := range [][]api.Range{nil, rangesOf(0, 1), rangesOf(0, api.Curve), rangesOf(3, 6, 9, 99)} {
			if owners, e := Owners(m, rs); len(owners) != 0 || e != api.ErrSmapForm {
				t.Errorf("P7.1: Owners(%v, %v) is %v, %d", short(m), rs, owners, e)
			}
		}
	}
}

// checkHolds asks all nodes, and some that are none.
func checkHolds(t *testing.T, what string, m api.Map, f api.Feature, want ...int) {
	t.Helper()
	for node := -2; node <= api.MaxNodes+2; node++ {
		if got := Holds(m, node, f); got != slices.Contains(want, node) {
			t.Errorf("P7.1: %s: Holds(%v, %d, %v) is %v", what, m, node, f, got)
		}
	}
}

func TestHoldsOfKnownFeatures(t *testing.T) {
	const half = 1 << 31
	quarters, _ := First(4)
	quarters.Owners = []int{6, 1, 4, 0}
	checkHolds(t, "the first place", quarters, pointAt(0, 0), 6)
	checkHolds(t, "the last place of the first column", quarters, pointAt(0, far), 1)
	checkHolds(t, "the last place", quarters, pointAt(far, far), 4)
	checkHolds(t, "the last place of the first row", quarters, pointAt(far, 0), 0)
	checkHolds(t, "ahead of the middle", quarters, pointAt(half-1, half-1), 6)
	checkHolds(t, "behind the middle", quarters, pointAt(half, half), 4)
	checkHolds(t, "a line in one quarter", quarters, lineOf(0, 0, half-1, half-1), 6)
	checkHolds(t, "a line into the next quarter", quarters, lineOf(5, 5, half, 5), 0, 6)
	checkHolds(t, "a line along the upper rim", quarters, lineOf(0, far, far, far), 1, 4)
	checkHolds(t, "a line whose box is the grid", quarters, lineOf(0, 0, far, far), 0, 1, 4, 6)
	checkHolds(t, "a polygon about the middle", quarters, polygonOf(ringOf(half-1, half-1, half, half-1, half, half)), 0, 1, 4, 6)
	// The box is asked, a hole in it too.
	holed := polygonOf(ringOf(0, 0, far, 0, far, far, 0, far), ringOf(1, 1, far-1, 1, far-1, far-1, 1, far-1))
	checkHolds(t, "a polygon with a great hole", evenMap(api.MaxRanges, api.Curve/api.MaxRanges, 8), holed, 0, 1, 2, 3, 4, 5, 6, 7)
	// The cover has whole cells: their places of the curve have one owner or several.
	parted := mapOf(0, 3, cellStretch-1, 5, cellStretch, 2)
	checkHolds(t, "a point of a parted cell", parted, pointAt(0, 0), 3, 5)
	checkHolds(t, "the last place of a parted cell", parted, pointAt(cellSide-1, cellSide-1), 3, 5)
	checkHolds(t, "a point of the next cell", parted, pointAt(cellSide, 0), 2)
	checkHolds(t, "a line over both", parted, lineOf(0, 0, cellSide, 1), 2, 3, 5)
	checkHolds(t, "the last cell", mapOf(0, 1, api.Curve-cellStretch, 7), pointAt(far, 0), 7)
	checkHolds(t, "the cell ahead of the last one", mapOf(0, 1, api.Curve-cellStretch, 7), pointAt(far-cellSide, 0), 1)
	checkHolds(t, "the last place of the curve", mapOf(0, 1, api.Curve-1, 7), pointAt(far, 0), 1, 7)
	checkHolds(t, "one owner of all", mapOf(0, 7), holed, 7)
}

// TestHoldsOfAnyFeatures holds Holds against a reckoning of its own, out of the layers below.
func TestHoldsOfAnyFeatures(t *testing.T) {
	r := rand.New(rand.NewSource(77))
	coord := func(from int) int {
		return []int{min(from+r.Intn(3*cellSide), far), max(from-r.Intn(9), 0), r.Intn(64) * cellSide, r.Intn(far + 1)}[r.Intn(4)]
	}
	for range 3000 {
		x, y := coord(r.Intn(far)), coord(r.Intn(far))
		f := []api.Feature{pointAt(x, y), lineOf(x, y, coord(x), coord(y)), polygonOf(ringOf(x, y, coord(x), coord(y), coord(x), coord(y)))}[r.Intn(3)]
		box, e := shape.Box(f)
		if e != api.OK {
			continue
		}
		m := anyMap(r, 8)
		rs, _ := cover.Of(box)
		checkHolds(t, "any ones", m, f, plainOwners(m, rs)...)
	}
}

func TestHoldsOfWrongOnes(t *testing.T) {
	for _, f := range wrongFeatures() {
		for _, m := range []api.Map{mapOf(0, 0), evenMap(api.MaxRanges, api.Curve/api.MaxRanges, 8), {}} {
			checkHolds(t, "a feature that may not be", m, f)
		}
	}
	for _, m := range wrongMaps() {
		for node := range api.MaxNodes {
			for _, f := range goodFeatures() {
				if Holds(m, node, f) {
					t.Errorf("P7.1: Holds(%v, %d, %v) is true", short(m), node, f)
				}
			}
		}
	}
	for _, f := range goodFeatures() {
		for _, node := range []int{-1, 8, 256, 1 << 32, math.MinInt, math.MaxInt} {
			if Holds(mapOf(0, 0), node, f) || Holds(evenMap(8, 1, 8), node, f) {
				t.Errorf("P7.1: node %d, which is none, holds %v", node, f)
			}
		}
	}
}

func split(at int) api.Change    { return api.Change{Kind: 0, At: at} }
func give(at, to int) api.Change { return api.Change{Kind: 1, At: at, To: to} }
func join(at int) api.Change     { return api.Change{Kind: 2, At: at} }

// withTo is c with a To that it doesn't ask for.
func withTo(c api.Change, to int) api.Change {
	c.To = to
	return c
}

func checkChange(t *testing.T, m api.Map, nodes int, c api.Change, want api.Map) {
	t.Helper()
	if got, e := Change(m, nodes, c); e != api.OK || !sameMap(got, want) {
		t.Errorf("P7.2: Change(%v, %d, %v) is %v, %d, not %v", m, nodes, c, got, e, want)
	}
}

func checkNoChange(t *testing.T, m api.Map, nodes int, c api.Change, want api.Errno) {
	t.Helper()
	if got, e := Change(m, nodes, c); e != want || !isZero(got) {
		t.Errorf("P7.2: Change(%v, %d, %v) is %v, %d, not %d", short(m), nodes, c, got, e, want)
	}
}

func TestChangeOfKnownMaps(t *testing.T) {
	m := mapOf(0, 3, 10, 1, 20, 2)
	known := []struct {
		c    api.Change
		want api.Map
	}{
		{split(1), mapOf(0, 3, 1, 3, 10, 1, 20, 2)},
		{split(9), mapOf(0, 3, 9, 3, 10, 1, 20, 2)},
		{split(11), mapOf(0, 3, 10, 1, 11, 1, 20, 2)},
		{split(19), mapOf(0, 3, 10, 1, 19, 1, 20, 2)},
		{split(21), mapOf(0, 3, 10, 1, 20, 2, 21, 2)},
		{split(api.Curve - 1), mapOf(0, 3, 10, 1, 20, 2, api.Curve-1, 2)},
		{give(0, 0), mapOf(0, 0, 10, 1, 20, 2)},
		{give(9, 2), mapOf(0, 2, 10, 1, 20, 2)},
		{give(10, 3), mapOf(0, 3, 10, 3, 20, 2)},
		{give(19, 0), mapOf(0, 3, 10, 0, 20, 2)},
		{give(20, 1), mapOf(0, 3, 10, 1, 20, 1)},
		{give(api.Curve-1, 3), mapOf(0, 3, 10, 1, 20, 3)},
		// What is given to its owner is given all the same.
		{give(12, 1), mapOf(0, 3, 10, 1, 20, 2)},
		{join(0), mapOf(0, 3, 20, 2)},
		{join(9), mapOf(0, 3, 20, 2)},
		{join(10), mapOf(0, 3, 10, 1)},
		{join(19), mapOf(0, 3, 10, 1)},
	}
	for _, k := range known {
		k.want.Epoch = 5
		checkChange(t, m, 4, k.c, k.want)
		checkChange(t, m, 8, k.c, k.want)
		checkChange(t, withEpoch(m, api.MaxEpoch-1), 4, k.c, withEpoch(k.want, api.MaxEpoch))
		checkChange(t, withEpoch(m, 1), 4, k.c, withEpoch(k.want, 2))
		if k.c.Kind == api.ChangeGive {
			continue
		}
		for _, to := range []int{-1, 1, 4, 8, math.MinInt, math.MaxInt} {
			checkChange(t, m, 4, withTo(k.c, to), k.want)
		}
	}
}

func TestChangeOfOneStretch(t *testing.T) {
	m := mapOf(0, 0)
	checkChange(t, m, 1, split(1), withEpoch(mapOf(0, 0, 1, 0), 5))
	checkChange(t, m, 1, split(1<<31), withEpoch(mapOf(0, 0, 1<<31, 0), 5))
	checkChange(t, m, 1, split(api.Curve-1), withEpoch(mapOf(0, 0, api.Curve-1, 0), 5))
	checkChange(t, m, 1, give(7, 0), withEpoch(mapOf(0, 0), 5))
	checkChange(t, m, 8, give(7, 7), withEpoch(mapOf(0, 7), 5))
	checkChange(t, mapOf(0, 2, 1, 1), 3, join(0), withEpoch(mapOf(0, 2), 5))
	for _, at := range []int{0, 1, 1 << 31, api.Curve - 1} {
		checkNoChange(t, m, 1, join(at), api.ErrSmapForm)
	}
}

// TestChangeAtMaxRanges fills a map up to MaxRanges stretches; of these each is given and joined, and none is parted.
func TestChangeAtMaxRanges(t *testing.T) {
	m := evenMap(api.MaxRanges-1, 10, 8)
	full, e := Change(m, 8, split(1<<31))
	if e != api.OK || !May(full, 8) || len(full.Starts) != 32 || full.Starts[31] != 1<<31 || full.Owners[31] != m.Owners[30] {
		t.Fatalf("P7.2: the last split of %v is %v, %d", m, full, e)
	}
	for i := range full.Starts {
		from, to := ends(full, i)
		for _, at := range []int{from, from + 1, to - 1} {
			checkNoChange(t, full, 8, split(at), api.ErrSmapForm)
		}
		given := withEpoch(withOwner(full, i, 3), full.Epoch+1)
		checkChange(t, full, 8, give(from+1, 3), given)
		if i == 31 {
			checkNoChange(t, full, 8, join(from+1), api.ErrSmapForm)
			continue
		}
		joined := api.Map{Epoch: full.Epoch + 1, Starts: slices.Delete(slices.Clone(full.Starts), i+1, i+2), Owners: slices.Delete(slices.Clone(full.Owners), i+1, i+2)}
		checkChange(t, full, 8, join(from), joined)
	}
}

// ownersOf are those of the first places, one by one.
func ownersOf(m api.Map, places int) []int {
	var owners []int
	for d := range places {
		owners = append(owners, m.Owners[plainStretch(m, d)])
	}
	return owners
}

// TestChangeOfAllSmallMaps: all maps of six places with all changes there, held against what each place's owner is to be.
func TestChangeOfAllSmallMaps(t *testing.T) {
	const places = 6
	for starts := range 1 << (places - 1) {
		m := mapOf(0, 2)
		for i := 1; i < places; i++ {
			if starts>>(i-1)&1 == 1 {
				m.Starts, m.Owners = append(m.Starts, i), append(m.Owners, (2+len(m.Owners))%3)
			}
		}
		for at := range places {
			for to := range 3 {
				for kind := range 3 {
					checkSmallChange(t, m, api.Change{Kind: kind, At: at, To: to}, places)
				}
			}
		}
	}
}

// checkSmallChange reckons the Starts and the places' owners anew.
func checkSmallChange(t *testing.T, m api.Map, c api.Change, places int) {
	t.Helper()
	i := plainStretch(m, c.At)
	from, to := ends(m, i)
	starts, owners := slices.Clone(m.Starts), ownersOf(m, places)
	owner := owners[c.At]
	switch c.Kind {
	case api.ChangeSplit:
		starts = append(starts, c.At)
		slices.Sort(starts)
	case api.ChangeGive:
		owner = c.To
	case api.ChangeJoin:
		starts = slices.DeleteFunc(starts, func(s int) bool { return s == to })
		if i+1 < len(m.Starts) {
			_, to = ends(m, i+1)
		}
	}
	if c.Kind == api.ChangeSplit && c.At == from || c.Kind == api.ChangeJoin && i+1 == len(m.Starts) {
		checkNoChange(t, m, 3, c, api.ErrSmapForm)
		return
	}
	for d := from; d < min(to, places); d++ {
		owners[d] = owner
	}
	got, e := Change(m, 3, c)
	if e != api.OK || got.Epoch != m.Epoch+1 || !May(got, 3) || !slices.Equal(got.Starts, starts) || !slices.Equal(ownersOf(got, places), owners) {
		t.Fatalf("P7.2: Change(%v, 3, %v) is %v, %d; Starts %v, owners %v are due", m, c, got, e, starts, owners)
	}
}

// TestChangesInARow goes from one map to the next one, by all kinds.
func TestChangesInARow(t *testing.T) {
	r := rand.New(rand.NewSource(9))
	m, _ := First(8)
	for range 20000 {
		c := api.Change{Kind: r.Intn(3), At: r.Intn(api.Curve), To: r.Intn(8)}
		i := plainStretch(m, c.At)
		from, _ := ends(m, i)
		refused := c.Kind == api.ChangeSplit && (c.At == from || len(m.Starts) == 32) || c.Kind == api.ChangeJoin && i+1 == len(m.Starts)
		next, e := Change(m, 8, c)
		if refused {
			checkNoChange(t, m, 8, c, api.ErrSmapForm)
			continue
		}
		if grown := len(next.Starts) - len(m.Starts); e != api.OK || !May(next, 8) || next.Epoch != m.Epoch+1 || grown != []int{1, 0, -1}[c.Kind] {
			t.Fatalf("P7.2: Change(%v, 8, %v) is %v, %d", m, c, next, e)
		}
		want := m.Owners[i]
		if c.Kind == api.ChangeGive {
			want = c.To
		}
		if owner, _ := Owner(next, c.At); owner != want {
			t.Fatalf("P7.2: behind Change(%v, 8, %v) the owner is %d", m, c, owner)
		}
		m = next
	}
}

func TestChangeOfWrongOnes(t *testing.T) {
	m := mapOf(0, 3, 10, 1, 20, 2)
	fine := []api.Change{split(5), give(5, 0), join(5)}
	for _, c := range fine {
		for _, w := range wrongMaps() {
			for nodes := -1; nodes <= api.MaxNodes+1; nodes++ {
				checkNoChange(t, w, nodes, c, api.ErrSmapForm)
			}
		}
		for _, nodes := range append(wrongNodes(), 1, 2, 3) {
			checkNoChange(t, m, nodes, c, api.ErrSmapForm)
		}
		for _, at := range wrongPlaces() {
			c.At = at
			checkNoChange(t, m, 4, c, api.ErrSmapForm)
		}
	}
	for _, kind := range []int{-1, 3, 4, 256, 257, 1 << 32, 1<<32 + 1, math.MinInt, math.MaxInt} {
		checkNoChange(t, m, 4, api.Change{Kind: kind, At: 5}, api.ErrSmapForm)
		checkNoChange(t, m, 4, api.Change{Kind: kind, At: 5, To: 1}, api.ErrSmapForm)
	}
	for _, at := range []int{0, 10, 20} {
		checkNoChange(t, m, 4, split(at), api.ErrSmapForm)
	}
	for _, at := range []int{20, 21, 1 << 31, api.Curve - 1} {
		checkNoChange(t, m, 4, join(at), api.ErrSmapForm)
	}
	for _, to := range []int{-1, 4, 5, 7, 8, 256, 1 << 32, math.MinInt, math.MaxInt} {
		checkNoChange(t, m, 4, give(5, to), api.ErrSmapForm)
		checkNoChange(t, m, 4, give(25, to), api.ErrSmapForm)
	}
	checkNoChange(t, m, 8, give(5, 8), api.ErrSmapForm)
}

// TestChangeAtMaxEpoch: what may not be is told first, what a kind refuses last.
func TestChangeAtMaxEpoch(t *testing.T) {
	last := withEpoch(mapOf(0, 3, 10, 1, 20, 2), api.MaxEpoch)
	full := withEpoch(evenMap(api.MaxRanges, 10, 4), api.MaxEpoch)
	for _, c := range []api.Change{split(5), give(5, 0), join(5), split(0), split(10), split(20), give(5, 4), give(5, -1), join(20), join(api.Curve - 1)} {
		checkNoChange(t, last, 4, c, api.ErrSmapEpoch)
		checkNoChange(t, full, 4, c, api.ErrSmapEpoch)
		checkNoChange(t, last, 3, c, api.ErrSmapForm)
		checkNoChange(t, last, 9, c, api.ErrSmapForm)
		checkNoChange(t, withStart(last, 1, 0), 4, c, api.ErrSmapForm)
		checkNoChange(t, withEpoch(last, api.MaxEpoch+1), 4, c, api.ErrSmapForm)
		for _, at := range wrongPlaces() {
			checkNoChange(t, last, 4, api.Change{Kind: c.Kind, At: at, To: c.To}, api.ErrSmapForm)
		}
		for _, kind := range []int{-1, 3} {
			checkNoChange(t, last, 4, api.Change{Kind: kind, At: c.At, To: c.To}, api.ErrSmapForm)
		}
	}
}

// guarded is a copy of a list with marked room behind its end.
func guarded(list []int) []int {
	return append(slices.Clone(list), spare, spare, spare, spare)[:len(list)]
}

func guardedMap(m api.Map) api.Map {
	return api.Map{Epoch: m.Epoch, Starts: guarded(m.Starts), Owners: guarded(m.Owners)}
}

func guardedRanges(rs []api.Range) []api.Range {
	mark := api.Range{From: spare, To: spare}
	return append(slices.Clone(rs), mark, mark)[:len(rs)]
}

// listUntouched tells whether what guarded made of a list is as it was, the room with it.
func listUntouched(made, list []int) bool {
	return slices.Equal(made[:len(list)+4], guarded(list)[:len(list)+4])
}

func mapUntouched(made, m api.Map) bool {
	return made.Epoch == m.Epoch && listUntouched(made.Starts, m.Starts) && listUntouched(made.Owners, m.Owners)
}

// TestNothingIsChanged hands each map in with room behind its lists, right ones and wrong ones.
func TestNothingIsChanged(t *testing.T) {
	maps := wrongMaps()
	for _, good := range goodMaps() {
		maps = append(maps, good.m)
	}
	lists := append(wrongRanges(), nil, rangesOf(0, api.Curve), rangesOf(0, 1, 3, 99, api.Curve-1, api.Curve))
	for _, from := range maps {
		m, plain := guardedMap(from), copyOf(from)
		if May(m, 8) != May(plain, 8) {
			t.Errorf("R5: %v: the room behind a list's end is seen", short(from))
		}
		for _, list := range lists {
			rs := guardedRanges(list)
			got, e := Owners(m, rs)
			if want, f := Owners(plain, list); !slices.Equal(got, want) || e != f {
				t.Errorf("R5: %v, %v: the room behind a list's end is seen", short(from), list)
			}
			if !slices.Equal(rs[:len(list)+2], guardedRanges(list)[:len(list)+2]) {
				t.Errorf("R4: %v is changed to %v", list, rs[:len(list)+2])
			}
		}
		for _, at := range []int{-1, 0, 1, 6, 1<<31 + 1, api.Curve - 1} {
			Owner(m, at)
			for _, c := range []api.Change{split(at), give(at, 1), join(at), {Kind: 3, At: at}} {
				got, e := Change(m, 8, c)
				if want, f := Change(plain, 8, c); !sameMap(got, want) || e != f {
					t.Errorf("R5: %v, %v: the room behind a list's end is seen", short(from), c)
				}
			}
		}
		for _, f := range goodFeatures() {
			Holds(m, 1, f)
		}
		if !mapUntouched(m, from) {
			t.Errorf("R4: %v is changed", short(from))
		}
	}
}

// spoil writes over all of a list, the room behind its end too.
func spoil(list []int) {
	room := list[:cap(list)]
	for i := range room {
		room[i] = spare - 1
	}
}

// TestChangesShareNothing spoils what was answered, list by list.
func TestChangesShareNothing(t *testing.T) {
	for name, good := range goodMaps() {
		if good.m.Epoch == api.MaxEpoch {
			continue
		}
		for _, c := range []api.Change{split(1<<31 + 1), give(1<<31, good.nodes-1), join(0), split(api.Curve - 1), give(0, 0)} {
			m := guardedMap(good.m)
			first, e := Change(m, good.nodes, c)
			second, _ := Change(m, good.nodes, c)
			kept := copyOf(first)
			if e != api.OK {
				continue
			}
			spoil(first.Starts)
			if !slices.Equal(first.Owners, kept.Owners) {
				t.Errorf("R4: %s: two lists of Change(%v, %v) share memory", name, good.m, c)
			}
			spoil(first.Owners)
			if !sameMap(second, kept) {
				t.Errorf("R4: %s: two answers of Change(%v, %v) share memory", name, good.m, c)
			}
			if !mapUntouched(m, good.m) {
				t.Errorf("R4: %s: Change(%v, %v) shares memory with what came in", name, good.m, c)
			}
			again, _ := Change(m, good.nodes, c)
			if !sameMap(again, kept) {
				t.Errorf("R4: %s: behind a change of what was answered, Change(%v, %v) is %v", name, good.m, c, again)
			}
		}
	}
}

func TestFirstAndOwnersShareNothing(t *testing.T) {
	for nodes := 1; nodes <= api.MaxNodes; nodes++ {
		first, _ := First(nodes)
		second, _ := First(nodes)
		kept := copyOf(first)
		spoil(first.Starts)
		if !slices.Equal(first.Owners, kept.Owners) {
			t.Errorf("R4: two lists of First(%d) share memory", nodes)
		}
		spoil(first.Owners)
		third, _ := First(nodes)
		if !sameMap(second, kept) || !sameMap(third, kept) {
			t.Errorf("R4: two answers of First(%d) share memory", nodes)
		}
	}
	for name, good := range goodMaps() {
		m, rs := guardedMap(good.m), guardedRanges(rangesOf(0, api.Curve))
		first, _ := Owners(m, rs)
		second, _ := Owners(m, rs)
		kept := slices.Clone(first)
		spoil(first)
		third, _ := Owners(m, rs)
		if !slices.Equal(second, kept) || !slices.Equal(third, kept) || !mapUntouched(m, good.m) {
			t.Errorf("R4: %s: the Owners of %v share memory", name, good.m)
		}
	}
}

func TestTogether(t *testing.T) {
	m, rs, f := mapOf(0, 3, 10, 1, 20, 2), rangesOf(5, 6, 19, 21), pointAt(0, 0)
	var wait sync.WaitGroup
	var fine [16]bool
	for i := range fine {
		wait.Add(1)
		go func() {
			defer wait.Done()
			first, _ := First(8)
			owner, _ := Owner(m, i)
			owners, _ := Owners(m, rs)
			next, _ := Change(m, 4, split(21+i))
			fine[i] = May(m, 4) && len(first.Starts) == 8 && owner == 3-i/10*2 && slices.Equal(owners, []int{1, 2, 3}) &&
				Holds(m, 1, f) && !Holds(m, 0, f) && next.Starts[3] == 21+i
		}()
	}
	wait.Wait()
	for i, is := range fine {
		if !is {
			t.Errorf("R5: goroutine %d is told something else", i)
		}
	}
}

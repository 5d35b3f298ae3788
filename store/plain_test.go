package store

import (
	"cmp"
	"math/rand"
	"reflect"
	"slices"

	"furlong/api"
	"furlong/hilbert"
	"furlong/shape"
)

// plain is a store as a plain list of features and a map.
type plain struct {
	node     int
	m        api.Map
	owners   *[64][64]int
	features []api.Feature
}

func plainOf(node int, m api.Map) *plain {
	return &plain{node: node, m: m, owners: ownersOf(m)}
}

// ownersOf tells of each cell of level 6, as bits, who owns a place of it.
func ownersOf(m api.Map) *[64][64]int {
	var owners [64][64]int
	for x := range 64 {
		for y := range 64 {
			at, _ := hilbert.Cell(x, y, 6)
			from, to := at*cellPlaces, (at+1)*cellPlaces
			for i, start := range m.Starts {
				end := api.Curve
				if i+1 < len(m.Starts) {
					end = m.Starts[i+1]
				}
				if start < to && from < end {
					owners[x][y] |= 1 << m.Owners[i]
				}
			}
		}
	}
	return &owners
}

// ours tells whether the node owns a place of a cell that f's box meets.
func (p *plain) ours(f api.Feature) bool {
	x0, y0, x1, y1 := 63, 63, 0, 0
	for _, ring := range f.Rings {
		for _, at := range ring {
			x0, x1 = min(x0, at.X/cell), max(x1, at.X/cell)
			y0, y1 = min(y0, at.Y/cell), max(y1, at.Y/cell)
		}
	}
	for x := x0; x <= x1; x++ {
		for y := y0; y <= y1; y++ {
			if p.owners[x][y]>>p.node&1 == 1 {
				return true
			}
		}
	}
	return false
}

func (p *plain) drop(id int) {
	p.features = slices.DeleteFunc(p.features, func(f api.Feature) bool { return f.Id == id })
}

func (p *plain) apply(ops []api.Op) {
	for _, op := range ops {
		switch op.Kind {
		case api.OpPut:
			p.drop(op.Feature.Id)
			if p.ours(op.Feature) {
				p.features = append(p.features, op.Feature)
			}
		case api.OpDelete:
			p.drop(op.Id)
		default:
			p.m, p.owners = op.Map, ownersOf(op.Map)
			p.features = slices.DeleteFunc(p.features, func(f api.Feature) bool { return !p.ours(f) })
		}
	}
}

// where tells the features that are asked for, by id.
func (p *plain) where(asked func(f api.Feature) bool) []api.Feature {
	var all []api.Feature
	for _, f := range p.features {
		if asked(f) {
			all = append(all, f)
		}
	}
	slices.SortFunc(all, func(f, g api.Feature) int { return cmp.Compare(f.Id, g.Id) })
	return all
}

func (p *plain) all() []api.Feature {
	return p.where(func(api.Feature) bool { return true })
}

func (p *plain) window(b api.Box) []api.Feature {
	return p.where(func(f api.Feature) bool {
		is, _ := shape.Meets(f, b)
		return is
	})
}

func (p *plain) get(id int) (api.Feature, bool) {
	for _, f := range p.features {
		if f.Id == id {
			return f, true
		}
	}
	return api.Feature{}, false
}

// span says how many nodes and ids a row of operations has, how many operations of a row there are at most, of how many rows one begins with a map, and where coordinates lie.
type span struct {
	nodes, ids, most, maps, steps int
	coord                         func(r *rand.Rand) int
}

// anywhere lies on the whole grid, small on a few places, atBorders at cells' borders, inCorner in a few cells.
func anywhere(r *rand.Rand) int { return r.Intn(1 << 32) }
func small(r *rand.Rand) int    { return r.Intn(6) }
func inCorner(r *rand.Rand) int { return top - r.Intn(3*cell) }
func atBorders(r *rand.Rand) int {
	border := []int{cell, 2 * cell, half / 2, half, half + cell, top + 1}[r.Intn(6)]
	return border - 1 + r.Intn(2)*min(1, top+1-border)
}

var spans = []span{
	{1, 5, 4, 9, 200, small},
	{2, 8, 6, 4, 200, anywhere},
	{3, 40, 8, 6, 200, anywhere},
	{4, 30, 6, 5, 250, atBorders},
	{8, 200, api.MaxOps, 12, 150, atBorders},
	{8, api.MaxId, api.MaxOps, 30, 100, anywhere},
	{5, 60, 9, 3, 200, inCorner},
	{8, 3, 3, 2, 300, anywhere},
}

// ring has so many points, no two neighbors the same, the ends neither.
func (s span) ring(r *rand.Rand, points int) []api.Point {
	for {
		var ring []api.Point
		for range points {
			ring = append(ring, api.Point{X: s.coord(r), Y: s.coord(r)})
		}
		alike := false
		for i := range points {
			alike = alike || points > 1 && ring[i] == ring[(i+1)%points]
		}
		if !alike {
			return ring
		}
	}
}

func (s span) feature(r *rand.Rand, id int) api.Feature {
	f := api.Feature{Id: id, Shape: r.Intn(3)}
	switch f.Shape {
	case api.ShapePoint:
		f.Rings = [][]api.Point{s.ring(r, 1)}
	case api.ShapeLine:
		f.Rings = [][]api.Point{s.ring(r, 2+r.Intn(3))}
	case api.ShapePolygon:
		for range 1 + r.Intn(3) {
			f.Rings = append(f.Rings, s.ring(r, 3+r.Intn(4)))
		}
	}
	return f
}

// someMap has stretches that begin anywhere, at cells' first places, or close to one another.
func (s span) someMap(r *rand.Rand) api.Map {
	m := mapOf(1+r.Intn(api.MaxEpoch), 0, r.Intn(s.nodes))
	step := []int{3, 2 * cellPlaces, api.Curve / 8, api.Curve / 2}[r.Intn(4)]
	for range r.Intn(api.MaxRanges) {
		next := m.Starts[len(m.Starts)-1] + 1 + r.Intn(step)
		if r.Intn(2) == 0 {
			next = (next/cellPlaces + 1) * cellPlaces
		}
		if next >= api.Curve {
			break
		}
		m.Starts, m.Owners = append(m.Starts, next), append(m.Owners, r.Intn(s.nodes))
	}
	return m
}

// ops may be.
func (s span) ops(r *rand.Rand) []api.Op {
	var ops []api.Op
	if r.Intn(s.maps) == 0 {
		ops = append(ops, opMap(s.someMap(r)))
	}
	taken := map[int]bool{}
	for range r.Intn(min(s.most, s.ids) + 1) {
		id := 1 + r.Intn(s.ids)
		if taken[id] || len(ops) == api.MaxOps {
			continue
		}
		taken[id] = true
		if r.Intn(3) == 0 {
			ops = append(ops, opDelete(id))
		} else {
			ops = append(ops, opPut(s.feature(r, id)))
		}
	}
	if len(ops) == 0 {
		return []api.Op{opDelete(1 + r.Intn(s.ids))}
	}
	return ops
}

// box is any, a place alone, or as low or narrow as may be.
func (s span) box(r *rand.Rand) api.Box {
	x0, y0, x1, y1 := s.coord(r), s.coord(r), s.coord(r), s.coord(r)
	switch r.Intn(4) {
	case 0:
		x1, y1 = x0, y0
	case 1:
		x1 = x0
	}
	return api.Box{X0: min(x0, x1), Y0: min(y0, y1), X1: max(x0, x1), Y1: max(y0, y1)}
}

// copyOf is ops in memory of their own, some of their lists with room behind them.
func copyOf(ops []api.Op) []api.Op {
	all := slices.Clone(ops)
	for i := range all {
		op := &all[i]
		op.Map.Starts, op.Map.Owners = slices.Clone(op.Map.Starts), slices.Clone(op.Map.Owners)
		op.Feature.Rings = slices.Grow(slices.Clone(op.Feature.Rings), 3)
		for j, ring := range op.Feature.Rings {
			op.Feature.Rings[j] = slices.Grow(slices.Clone(ring), i)
		}
	}
	return all
}

// alike tells whether two operations are one, an empty list as nil.
func alike(a, b []api.Op) bool {
	return slices.EqualFunc(a, b, func(x, y api.Op) bool {
		return x.Kind == y.Kind && x.Id == y.Id && x.Map.Epoch == y.Map.Epoch && slices.Equal(x.Map.Starts, y.Map.Starts) &&
			slices.Equal(x.Map.Owners, y.Map.Owners) && x.Feature.Id == y.Feature.Id && x.Feature.Shape == y.Feature.Shape &&
			slices.EqualFunc(x.Feature.Rings, y.Feature.Rings, func(r, q []api.Point) bool { return reflect.DeepEqual(r, q) })
	})
}

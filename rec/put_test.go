package rec

import (
	"fmt"
	"math"
	"math/rand"
	"slices"
	"testing"

	"furlong/api"
)

func TestKnownRecords(t *testing.T) {
	for _, k := range knownRecords() {
		s := put(t, k.name, k.r)
		if len(s) != len(k.text()) {
			t.Errorf("P11.1: %s: %d bytes, not %d", k.name, len(s), len(k.text()))
		}
		at := 0
		for _, p := range k.parts {
			to := min(len(s), at+len(p.bytes))
			if s[min(at, to):to] != p.bytes {
				t.Errorf("P11.1: %s: %s: %x, not %x", k.name, p.what, s[min(at, to):to], p.bytes)
			}
			at += len(p.bytes)
		}
		checkPut(t, k.name, k.r)
	}
}

func TestEdges(t *testing.T) {
	for name, r := range edgeRecords() {
		checkPut(t, name, r)
	}
}

func TestAnyRecords(t *testing.T) {
	r := rand.New(rand.NewSource(11))
	for range 5000 {
		checkPut(t, "a random record", anyRecord(r))
	}
}

// TestEachNumber goes through all values of the short ones.
func TestEachNumber(t *testing.T) {
	for seq := 1; seq <= api.MaxSeq; seq += 1 + seq%7 {
		checkPut(t, "a Seq", decide(seq%8, seq, seq%2 == 0))
		checkPut(t, "a Seq", end(seq%8, seq))
		checkPut(t, "a Base, an Id", work(api.RecBegin, seq, opDelete(seq)))
		checkPut(t, "an Epoch, a Start", mapRecord(mapOf(seq, 0, 0, seq*65537, seq%8)))
	}
	for ops := 1; ops <= api.MaxOps; ops++ {
		checkPut(t, "a count of operations", work(api.RecPrepare, ops, deletes(ops, ops)...))
		checkPut(t, "a count of stretches", mapRecord(longMap(ops)))
	}
	for points := 3; points <= api.MaxPoints; points++ {
		for rings := 1; rings <= api.MaxRings; rings++ {
			var all [][]api.Point
			for range rings {
				all = append(all, longRing(points))
			}
			checkPut(t, "a count of rings and points", work(api.RecBegin, 0, opPut(polygonOf(7, all...))))
		}
	}
}

// TestSizes goes over the bound of MaxRecord, byte by byte.
func TestSizes(t *testing.T) {
	for _, kind := range []int{api.RecBegin, api.RecPrepare} {
		for size := api.MaxRecord - 24; size <= api.MaxRecord+24; size++ {
			r, what := recordOfSize(kind, size), fmt.Sprintf("Kind %d, %d bytes", kind, size)
			if len(textOf(r)) != size {
				t.Fatalf("%s: the test's record has %d", what, len(textOf(r)))
			}
			if size <= api.MaxRecord {
				checkPut(t, what, r)
			} else {
				checkRefused(t, what, r)
			}
		}
		var most []api.Op
		for i := range api.MaxOps {
			most = append(most, opPut(fullPolygon(1+i)))
		}
		for many := 15; many <= api.MaxOps; many++ {
			r, what := work(kind, 0, most[:many]...), fmt.Sprintf("Kind %d, %d full polygons", kind, many)
			if many == 15 {
				checkPut(t, what, r)
			} else {
				checkRefused(t, what, r)
			}
		}
	}
}

// wrongNumbers are none of those from least to most; some would be, if bits were lost.
func wrongNumbers(least, most int) []int {
	wrong := []int{least - 1, most + 1, least - 2, most + 2, math.MinInt, math.MinInt + 1, math.MaxInt, math.MaxInt - 1}
	for _, lost := range []int{1 << 8, 1 << 16, 1 << 32} {
		wrong = append(wrong, least+lost, least-lost, most+lost, most-lost)
	}
	return slices.DeleteFunc(wrong, func(n int) bool { return n >= least && n <= most })
}

func TestWrongKinds(t *testing.T) {
	for _, k := range knownRecords() {
		for _, kind := range wrongNumbers(api.RecMap, api.RecEnd) {
			r := k.r
			r.Kind = kind
			checkRefused(t, fmt.Sprintf("%s of Kind %d", k.name, kind), r)
		}
	}
}

// TestOtherKinds: a record of another Kind has parts that its row does not name, or lacks some, but where two rows name the same.
func TestOtherKinds(t *testing.T) {
	for _, k := range knownRecords() {
		alike := []int{k.r.Kind}
		switch {
		case k.r.Kind == api.RecBegin || k.r.Kind == api.RecPrepare:
			alike = []int{api.RecBegin, api.RecPrepare}
		case len(k.r.Ops) == 0 && k.r.Kind != api.RecMap && !k.r.Commit:
			alike = []int{api.RecDecide, api.RecEnd}
		}
		for kind := range 256 {
			r, what := k.r, fmt.Sprintf("%s with the Kind %d", k.name, kind)
			r.Kind = kind
			if slices.Contains(alike, kind) {
				checkPut(t, what, r)
			} else if s, e := Put(r); s != "" || e != api.ErrRecForm {
				t.Errorf("P11.1: %s: Put: %s, %d", what, short(s), e)
			}
		}
	}
}

// named are records that have a name.
func named() []api.Record {
	var rs []api.Record
	for _, k := range knownRecords() {
		if k.r.Kind != api.RecMap {
			rs = append(rs, k.r)
		}
	}
	return rs
}

func TestWrongNames(t *testing.T) {
	for _, r := range named() {
		for _, node := range wrongNumbers(0, api.MaxNodes-1) {
			wrong := r
			wrong.Tx.Node = node
			checkRefused(t, fmt.Sprintf("Kind %d, Node %d", r.Kind, node), wrong)
		}
		for _, seq := range wrongNumbers(1, api.MaxSeq) {
			wrong := r
			wrong.Tx.Seq = seq
			checkRefused(t, fmt.Sprintf("Kind %d, Seq %d", r.Kind, seq), wrong)
		}
		wrong := r
		wrong.Tx = api.Tx{}
		checkRefused(t, fmt.Sprintf("Kind %d, no name", r.Kind), wrong)
	}
}

func TestWrongBases(t *testing.T) {
	for _, kind := range []int{api.RecBegin, api.RecPrepare} {
		for _, base := range append(wrongNumbers(-1, api.MaxSeq), 1<<31, 1<<32-2, 1<<32) {
			checkRefused(t, fmt.Sprintf("Kind %d, Base %d", kind, base), work(kind, base, opDelete(1)))
		}
	}
}

// TestPartsThatAreNotNamed: what a record's row does not name has to be zero.
func TestPartsThatAreNotNamed(t *testing.T) {
	turns := []struct {
		what  string
		kinds []int
		turn  func(r *api.Record)
	}{
		{"a Node", []int{api.RecMap}, func(r *api.Record) { r.Tx.Node = 1 }},
		{"a Node below 0", []int{api.RecMap}, func(r *api.Record) { r.Tx.Node = -1 }},
		{"a Seq", []int{api.RecMap}, func(r *api.Record) { r.Tx.Seq = 1 }},
		{"a name", []int{api.RecMap}, func(r *api.Record) { r.Tx = api.Tx{Node: 2, Seq: 3} }},
		{"a Base of 1", []int{api.RecMap, api.RecDecide, api.RecEnd}, func(r *api.Record) { r.Base = 1 }},
		{"a Base of -1", []int{api.RecMap, api.RecDecide, api.RecEnd}, func(r *api.Record) { r.Base = -1 }},
		{"a Base of MaxSeq", []int{api.RecMap, api.RecDecide, api.RecEnd}, func(r *api.Record) { r.Base = api.MaxSeq }},
		{"Commit", []int{api.RecMap, api.RecBegin, api.RecPrepare, api.RecEnd}, func(r *api.Record) { r.Commit = true }},
		{"an Epoch", []int{api.RecBegin, api.RecPrepare, api.RecDecide, api.RecEnd}, func(r *api.Record) { r.Map.Epoch = 1 }},
		{"an Epoch below 0", []int{api.RecBegin, api.RecPrepare, api.RecDecide, api.RecEnd}, func(r *api.Record) { r.Map.Epoch = -1 }},
		{"a Start", []int{api.RecBegin, api.RecPrepare, api.RecDecide, api.RecEnd}, func(r *api.Record) { r.Map.Starts = []int{0} }},
		{"an Owner", []int{api.RecBegin, api.RecPrepare, api.RecDecide, api.RecEnd}, func(r *api.Record) { r.Map.Owners = []int{0} }},
		{"a map", []int{api.RecBegin, api.RecPrepare, api.RecDecide, api.RecEnd}, func(r *api.Record) { r.Map = mapOf(1, 0, 0) }},
		{"operations", []int{api.RecMap, api.RecDecide, api.RecEnd}, func(r *api.Record) { r.Ops = []api.Op{opDelete(1)} }},
		{"operations of zeros", []int{api.RecMap, api.RecDecide, api.RecEnd}, func(r *api.Record) { r.Ops = make([]api.Op, 1) }},
	}
	for _, row := range turns {
		for _, k := range knownRecords() {
			if !slices.Contains(row.kinds, k.r.Kind) {
				continue
			}
			wrong := k.r
			row.turn(&wrong)
			what := k.name + " with " + row.what
			if s, e := Put(wrong); s != "" || e != api.ErrRecForm {
				t.Errorf("P11.1: %s: Put: %s, %d", what, short(s), e)
			}
		}
	}
}

// checkOps refuses operations in both Kinds that have them.
func checkOps(t *testing.T, what string, ops ...api.Op) {
	t.Helper()
	for _, kind := range []int{api.RecBegin, api.RecPrepare} {
		checkRefused(t, fmt.Sprintf("Kind %d, %s", kind, what), work(kind, 0, ops...))
	}
}

// checkOp refuses an operation that may not be, alone and beside others.
func checkOp(t *testing.T, what string, op api.Op) {
	t.Helper()
	checkOps(t, what, op)
	checkOps(t, what+", ahead of others", op, opDelete(501), opPut(pointOf(502, 1, 1)))
	checkOps(t, what+", behind others", opDelete(501), opPut(pointOf(502, 1, 1)), op)
	checkOps(t, what+", as the last of MaxOps", append(deletes(501, api.MaxOps-1), op)...)
}

func TestWrongCountsOfOps(t *testing.T) {
	checkOps(t, "no operations")
	checkOps(t, "no operations", []api.Op{}...)
	for _, many := range []int{33, 34, 64, 255, 256, 257, 288, 60000, 100000} {
		checkOps(t, fmt.Sprintf("%d operations", many), deletes(1, many)...)
	}
	checkOps(t, "a map and MaxOps of others", append([]api.Op{opMap(mapOf(1, 0, 0))}, deletes(1, api.MaxOps)...)...)
}

func TestOneIdTwice(t *testing.T) {
	rows := map[string][2]api.Op{
		"two Puts of one feature":     {opPut(pointOf(5, 1, 1)), opPut(pointOf(5, 1, 1))},
		"two Puts of unlike features": {opPut(pointOf(5, 1, 1)), opPut(lineOf(5, longRing(3)))},
		"two Deletes":                 {opDelete(5), opDelete(5)},
		"a Put and a Delete":          {opPut(pointOf(5, 1, 1)), opDelete(5)},
		"a Delete and a Put":          {opDelete(5), opPut(polygonOf(5, longRing(3)))},
		"two Deletes of MaxId":        {opDelete(api.MaxId), opDelete(api.MaxId)},
		"two Puts of 1":               {opPut(pointOf(1, 1, 1)), opPut(pointOf(1, 2, 2))},
	}
	for name, row := range rows {
		one, other := row[0], row[1]
		checkOps(t, name, one, other)
		checkOps(t, name+", behind a map", opMap(mapOf(1, 0, 0)), one, other)
		checkOps(t, name+", others between", one, opDelete(9), opPut(pointOf(8, 0, 0)), other, opDelete(2))
		far := append(append([]api.Op{one}, deletes(100, api.MaxOps-2)...), other)
		checkOps(t, name+", the first and the last of MaxOps", far...)
		checkOps(t, name+" and once more", one, other, other)
	}
}

func TestMapsBehindTheFirst(t *testing.T) {
	m, same, del, feature := opMap(mapOf(1, 0, 0)), opMap(mapOf(1, 0, 0)), opDelete(1), opPut(pointOf(2, 1, 1))
	checkOps(t, "a map behind a Delete", del, m)
	checkOps(t, "a map behind a Put", feature, m)
	checkOps(t, "a map between", del, m, feature)
	checkOps(t, "a map as the last of MaxOps", append(deletes(1, api.MaxOps-1), m)...)
	checkOps(t, "two maps", m, same)
	checkOps(t, "two unlike maps", m, opMap(mapOf(2, 0, 1)))
	checkOps(t, "a map first and third", m, del, same)
	checkOps(t, "a map first and as the last of MaxOps", append(append([]api.Op{m}, deletes(1, api.MaxOps-2)...), same)...)
	checkOps(t, "three maps", m, same, m)
}

func TestWrongOps(t *testing.T) {
	for _, kind := range wrongNumbers(api.OpPut, api.OpMap) {
		what := fmt.Sprintf("an operation of Kind %d", kind)
		checkOp(t, what, api.Op{Kind: kind})
		checkOp(t, what+" with an Id", api.Op{Kind: kind, Id: 1})
		checkOp(t, what+" with a feature", api.Op{Kind: kind, Feature: pointOf(1, 1, 1)})
		checkOp(t, what+" with a map", api.Op{Kind: kind, Map: mapOf(1, 0, 0)})
	}
	for _, id := range wrongNumbers(1, api.MaxId) {
		checkOp(t, fmt.Sprintf("a Delete of %d", id), opDelete(id))
	}
	for kind := range 3 {
		checkOp(t, fmt.Sprintf("an operation of zeros but its Kind %d", kind), api.Op{Kind: kind})
	}
}

// TestOpsWithOtherParts: what an operation's Kind does not name has to be zero. (Its text is that of a good one, so Put alone is asked.)
func TestOpsWithOtherParts(t *testing.T) {
	turns := []struct {
		what string
		turn func(op *api.Op)
		has  int
	}{
		{"an Id", func(op *api.Op) { op.Id = 1 }, api.OpDelete},
		{"an Id below 0", func(op *api.Op) { op.Id = -1 }, api.OpDelete},
		{"its feature's Id", func(op *api.Op) { op.Id = 3 }, api.OpDelete},
		{"an Epoch", func(op *api.Op) { op.Map.Epoch = 1 }, api.OpMap},
		{"an Epoch below 0", func(op *api.Op) { op.Map.Epoch = -1 }, api.OpMap},
		{"a Start", func(op *api.Op) { op.Map.Starts = []int{0} }, api.OpMap},
		{"an Owner", func(op *api.Op) { op.Map.Owners = []int{0} }, api.OpMap},
		{"a map", func(op *api.Op) { op.Map = mapOf(1, 0, 0) }, api.OpMap},
		{"a feature's Id", func(op *api.Op) { op.Feature.Id = 3 }, api.OpPut},
		{"a feature's Id below 0", func(op *api.Op) { op.Feature.Id = -1 }, api.OpPut},
		{"a Shape", func(op *api.Op) { op.Feature.Shape = api.ShapeLine }, api.OpPut},
		{"a Shape below 0", func(op *api.Op) { op.Feature.Shape = -1 }, api.OpPut},
		{"a ring without points", func(op *api.Op) { op.Feature.Rings = [][]api.Point{nil} }, api.OpPut},
		{"a ring", func(op *api.Op) { op.Feature.Rings = [][]api.Point{longRing(3)} }, api.OpPut},
		{"a feature", func(op *api.Op) { op.Feature = pointOf(4, 1, 1) }, api.OpPut},
	}
	for _, row := range turns {
		for _, op := range []api.Op{opPut(pointOf(3, 1, 1)), opDelete(3), opMap(mapOf(1, 0, 0))} {
			if op.Kind == row.has {
				continue
			}
			row.turn(&op)
			for _, kind := range []int{api.RecBegin, api.RecPrepare} {
				for _, r := range []api.Record{work(kind, 0, op), work(kind, 0, op, opDelete(9))} {
					if s, e := Put(r); s != "" || e != api.ErrRecForm {
						t.Errorf("P11.1: Kind %d: an operation of Kind %d with %s: %s, %d", kind, op.Kind, row.what, short(s), e)
					}
				}
			}
		}
	}
}

func TestWrongFeatures(t *testing.T) {
	for _, good := range []api.Feature{pointOf(1, 1, 1), lineOf(1, longRing(2)), polygonOf(1, longRing(3))} {
		what := fmt.Sprintf("a feature of Shape %d with ", good.Shape)
		for _, id := range wrongNumbers(1, api.MaxId) {
			f := good
			f.Id = id
			checkOp(t, what+fmt.Sprintf("Id %d", id), opPut(f))
		}
		for _, shape := range wrongNumbers(api.ShapePoint, api.ShapePolygon) {
			f := good
			f.Shape = shape
			checkOp(t, what+fmt.Sprintf("Shape %d", shape), opPut(f))
		}
		for _, coord := range wrongNumbers(0, api.MaxCoord) {
			f := good
			f.Rings = [][]api.Point{slices.Clone(good.Rings[0])}
			f.Rings[0][0].X = coord
			checkOp(t, what+fmt.Sprintf("X %d", coord), opPut(f))
			f.Rings = [][]api.Point{slices.Clone(good.Rings[0])}
			f.Rings[0][len(f.Rings[0])-1].Y = coord
			checkOp(t, what+fmt.Sprintf("Y %d", coord), opPut(f))
		}
		many := good
		many.Rings = slices.Repeat(good.Rings, 1000000)
		checkOps(t, what+"a million rings", opPut(many))
	}
	rows := map[string]api.Feature{
		"no rings, a point":                {Id: 1, Shape: api.ShapePoint},
		"no rings, a line":                 {Id: 1, Shape: api.ShapeLine},
		"no rings, a polygon":              {Id: 1, Shape: api.ShapePolygon},
		"a ring without points, a point":   {Id: 1, Shape: api.ShapePoint, Rings: [][]api.Point{nil}},
		"a ring without points, a line":    lineOf(1, nil),
		"a ring without points, a polygon": polygonOf(1, nil),
		"two points":                       {Id: 1, Shape: api.ShapePoint, Rings: [][]api.Point{longRing(2)}},
		"a point of two rings":             {Id: 1, Shape: api.ShapePoint, Rings: [][]api.Point{longRing(1), longRing(1)}},
		"a line of one point":              lineOf(1, longRing(1)),
		"a line of 17 points":              lineOf(1, longRing(17)),
		"a line of two rings":              {Id: 1, Shape: api.ShapeLine, Rings: [][]api.Point{longRing(2), longRing(2)}},
		"a line that stands":               lineOf(1, ringOf(1, 1, 1, 1)),
		"a line that stands at its end":    lineOf(1, ringOf(1, 1, 2, 2, 2, 2)),
		"a polygon of two points":          polygonOf(1, longRing(2)),
		"a polygon of 17 points":           polygonOf(1, longRing(17)),
		"a polygon of five rings":          polygonOf(1, longRing(3), longRing(3), longRing(3), longRing(3), longRing(3)),
		"a polygon that stands":            polygonOf(1, ringOf(1, 1, 2, 2, 2, 2, 3, 3)),
		"a polygon that is closed":         polygonOf(1, ringOf(1, 1, 2, 2, 3, 1, 1, 1)),
		"a hole of two points":             polygonOf(1, longRing(3), longRing(2)),
		"a hole without points":            polygonOf(1, longRing(3), nil),
		"a hole of 17 points":              polygonOf(1, longRing(3), longRing(17)),
		"a hole that is closed":            polygonOf(1, longRing(3), longRing(3), ringOf(1, 1, 2, 2, 3, 1, 1, 1)),
		"a hole beside the grid":           polygonOf(1, longRing(3), ringOf(1, 1, 2, 2, 3, api.MaxCoord+1)),
		"a line of 256 points":             lineOf(1, longRing(256)),
		"a line of 258 points":             lineOf(1, longRing(258)),
	}
	for name, f := range rows {
		checkOp(t, name, opPut(f))
	}
	checkOps(t, "a line of a million points", opPut(lineOf(1, longRing(1000000))))
}

// wrongMaps may not be for MaxNodes nodes.
func wrongMaps() map[string]api.Map {
	wrong := map[string]api.Map{
		"nothing":                     {},
		"an Epoch alone":              {Epoch: 1},
		"no Epoch":                    mapOf(0, 0, 0),
		"no Owners":                   {Epoch: 1, Starts: []int{0}},
		"no Starts":                   {Epoch: 1, Owners: []int{0}},
		"an Owner too few":            {Epoch: 1, Starts: []int{0, 9}, Owners: []int{0}},
		"an Owner too many":           {Epoch: 1, Starts: []int{0}, Owners: []int{0, 1}},
		"a first Start that is not 0": mapOf(1, 1, 0),
		"Starts that stand":           mapOf(1, 0, 0, 5, 1, 5, 2),
		"two Starts of 0":             mapOf(1, 0, 0, 0, 1),
		"Starts that fall":            mapOf(1, 0, 0, 6, 1, 5, 2),
		"a last Start that falls":     mapOf(1, 0, 0, 5, 1, 6, 2, 1, 3),
		"a Start of Curve":            mapOf(1, 0, 0, api.Curve, 1),
		"a Start beyond Curve":        mapOf(1, 0, 0, api.Curve+5, 1),
		"33 stretches":                longMap(33),
		"256 stretches":               longMap(254),
		"a million stretches":         longMap(1000000),
	}
	for _, epoch := range wrongNumbers(1, api.MaxEpoch) {
		wrong[fmt.Sprintf("Epoch %d", epoch)] = mapOf(epoch, 0, 0)
	}
	for _, owner := range wrongNumbers(0, api.MaxNodes-1) {
		wrong[fmt.Sprintf("the Owner %d", owner)] = mapOf(1, 0, owner)
		wrong[fmt.Sprintf("a last Owner %d", owner)] = mapOf(1, 0, 1, 5, 2, 9, owner)
	}
	return wrong
}

func TestWrongMaps(t *testing.T) {
	for name, m := range wrongMaps() {
		checkRefused(t, "a RecMap with "+name, mapRecord(m))
		checkOps(t, "an OpMap with "+name, opMap(m))
		checkOps(t, "an OpMap ahead of others with "+name, opMap(m), opDelete(1))
	}
}

package rec

import (
	"fmt"
	"math/rand"

	"furlong/api"
)

// ringOf makes a ring out of X, Y, X, Y and so on.
func ringOf(xys ...int) []api.Point {
	var ring []api.Point
	for i := 0; i < len(xys); i += 2 {
		ring = append(ring, api.Point{X: xys[i], Y: xys[i+1]})
	}
	return ring
}

// longRing has so many points, no two neighbors the same, the ends neither.
func longRing(points int) []api.Point {
	var ring []api.Point
	for i := range points {
		ring = append(ring, api.Point{X: i, Y: api.MaxCoord - i*i})
	}
	return ring
}

func pointOf(id, x, y int) api.Feature {
	return api.Feature{Id: id, Shape: api.ShapePoint, Rings: [][]api.Point{ringOf(x, y)}}
}

func lineOf(id int, ring []api.Point) api.Feature {
	return api.Feature{Id: id, Shape: api.ShapeLine, Rings: [][]api.Point{ring}}
}

func polygonOf(id int, rings ...[]api.Point) api.Feature {
	return api.Feature{Id: id, Shape: api.ShapePolygon, Rings: rings}
}

// fullPolygon takes the most bytes that a feature may.
func fullPolygon(id int) api.Feature {
	return polygonOf(id, longRing(16), longRing(16), longRing(16), longRing(16))
}

// mapOf makes a map out of Start, Owner, Start, Owner and so on.
func mapOf(epoch int, pairs ...int) api.Map {
	m := api.Map{Epoch: epoch}
	for i := 0; i < len(pairs); i += 2 {
		m.Starts, m.Owners = append(m.Starts, pairs[i]), append(m.Owners, pairs[i+1])
	}
	return m
}

// longMap has so many stretches.
func longMap(stretches int) api.Map {
	m := api.Map{Epoch: 9}
	for i := range stretches {
		m.Starts, m.Owners = append(m.Starts, i*0x01020304), append(m.Owners, i%8)
	}
	return m
}

func opPut(f api.Feature) api.Op {
	return api.Op{Kind: api.OpPut, Feature: f}
}

func opDelete(id int) api.Op {
	return api.Op{Kind: api.OpDelete, Id: id}
}

func opMap(m api.Map) api.Op {
	return api.Op{Kind: api.OpMap, Map: m}
}

// deletes are so many operations, of the Ids from first on.
func deletes(first, many int) []api.Op {
	var ops []api.Op
	for i := range many {
		ops = append(ops, opDelete(first+i))
	}
	return ops
}

func mapRecord(m api.Map) api.Record {
	return api.Record{Kind: api.RecMap, Map: m}
}

func work(kind, base int, ops ...api.Op) api.Record {
	return api.Record{Kind: kind, Tx: api.Tx{Node: 5, Seq: 0x0A0B}, Base: base, Ops: ops}
}

func decide(node, seq int, commit bool) api.Record {
	return api.Record{Kind: api.RecDecide, Tx: api.Tx{Node: node, Seq: seq}, Commit: commit}
}

func end(node, seq int) api.Record {
	return api.Record{Kind: api.RecEnd, Tx: api.Tx{Node: node, Seq: seq}}
}

// known is a record and its bytes, part by part.
type known struct {
	name  string
	r     api.Record
	parts []part
}

type part struct {
	what, bytes string
}

func (k known) text() string {
	s := ""
	for _, p := range k.parts {
		s += p.bytes
	}
	return s
}

// knownRecords have each part of a record, each byte of a number another one.
func knownRecords() []known {
	polygon := polygonOf(0x0708, ringOf(1, 2, 0x01020304, 3, 5, 0xFFFFFFFF), ringOf(9, 9, 8, 9, 8, 8))
	return []known{
		{"a RecMap", mapRecord(mapOf(0x0102, 0, 7, 0x01020304, 0, 0xFFFFFFFF, 3)), []part{
			{"Kind", "\x00"}, {"Epoch", "\x01\x02"}, {"how many stretches", "\x03"},
			{"the Starts", "\x00\x00\x00\x00" + "\x01\x02\x03\x04" + "\xff\xff\xff\xff"}, {"the Owners", "\x07\x00\x03"},
		}},
		{"a RecBegin", work(api.RecBegin, 0x0C0D, opMap(mapOf(3, 0, 6)), opPut(pointOf(0x0506, 0xA1B2C3D4, 0x0E0F1011)), opPut(lineOf(9, ringOf(1, 2, 3, 4))), opPut(polygon), opDelete(0x0203)), []part{
			{"Kind", "\x01"}, {"the name", "\x05\x0a\x0b"}, {"Base + 1", "\x00\x00\x0c\x0e"}, {"how many operations", "\x05"},
			{"an OpMap", "\x02" + "\x00\x03" + "\x01" + "\x00\x00\x00\x00" + "\x06"},
			{"an OpPut of a point", "\x00" + "\x05\x06" + "\x00" + "\x01" + "\x01" + "\xa1\xb2\xc3\xd4\x0e\x0f\x10\x11"},
			{"an OpPut of a line", "\x00" + "\x00\x09" + "\x01" + "\x01" + "\x02" + "\x00\x00\x00\x01\x00\x00\x00\x02" + "\x00\x00\x00\x03\x00\x00\x00\x04"},
			{"an OpPut of a polygon", "\x00" + "\x07\x08" + "\x02" + "\x02"},
			{"its outline", "\x03" + "\x00\x00\x00\x01\x00\x00\x00\x02" + "\x01\x02\x03\x04\x00\x00\x00\x03" + "\x00\x00\x00\x05\xff\xff\xff\xff"},
			{"its hole", "\x03" + "\x00\x00\x00\x09\x00\x00\x00\x09" + "\x00\x00\x00\x08\x00\x00\x00\x09" + "\x00\x00\x00\x08\x00\x00\x00\x08"},
			{"an OpDelete", "\x01" + "\x02\x03"},
		}},
		{"a RecPrepare", work(api.RecPrepare, -1, opDelete(1)), []part{
			{"Kind", "\x02"}, {"the name", "\x05\x0a\x0b"}, {"Base + 1", "\x00\x00\x00\x00"}, {"how many operations", "\x01"},
			{"an OpDelete", "\x01" + "\x00\x01"},
		}},
		{"a RecDecide to commit", decide(7, 0xFFFF, true), []part{{"Kind", "\x03"}, {"Node", "\x07"}, {"Seq", "\xff\xff"}, {"Commit", "\x01"}}},
		{"a RecDecide not to commit", decide(0, 1, false), []part{{"Kind", "\x03"}, {"Node", "\x00"}, {"Seq", "\x00\x01"}, {"Commit", "\x00"}}},
		{"a RecEnd", end(6, 0x0102), []part{{"Kind", "\x04"}, {"Node", "\x06"}, {"Seq", "\x01\x02"}}},
	}
}

// edgeRecords stand at the bounds of what may be.
func edgeRecords() map[string]api.Record {
	emptyMap := api.Map{Starts: []int{}, Owners: []int{}}
	emptyFeature := api.Feature{Rings: [][]api.Point{}}
	edges := map[string]api.Record{
		"Node 0, Seq 1":                  end(0, 1),
		"Node MaxNodes - 1, Seq MaxSeq":  end(api.MaxNodes-1, api.MaxSeq),
		"a decision at the upper bounds": decide(api.MaxNodes-1, api.MaxSeq, true),
		"a map of one stretch, Epoch 1":  mapRecord(mapOf(1, 0, 0)),
		"Epoch MaxEpoch, the last node":  mapRecord(mapOf(api.MaxEpoch, 0, 7)),
		"a map of MaxRanges":             mapRecord(longMap(api.MaxRanges)),
		"MaxRanges of one place each":    mapRecord(tightMap(0)),
		"the curve's last places":        mapRecord(tightMap(api.Curve - api.MaxRanges)),
		"empty lists, a RecMap":          {Kind: api.RecMap, Map: mapOf(1, 0, 0), Ops: []api.Op{}},
		"empty lists, a RecDecide":       {Kind: api.RecDecide, Tx: api.Tx{Seq: 1}, Map: emptyMap, Ops: []api.Op{}},
		"empty lists, a RecEnd":          {Kind: api.RecEnd, Tx: api.Tx{Seq: 1}, Map: emptyMap, Ops: []api.Op{}},
	}
	for _, kind := range []int{api.RecBegin, api.RecPrepare} {
		for name, r := range map[string]api.Record{
			"Base -1":                          work(kind, -1, opDelete(3)),
			"Base 0":                           work(kind, 0, opDelete(3)),
			"Base MaxSeq":                      work(kind, api.MaxSeq, opDelete(3)),
			"Id 1":                             work(kind, 0, opDelete(1)),
			"Id MaxId":                         work(kind, 0, opDelete(api.MaxId)),
			"a feature's Ids":                  work(kind, 0, opPut(pointOf(1, 0, 0)), opPut(pointOf(api.MaxId, 0, 0))),
			"MaxOps":                           work(kind, 0, deletes(1, api.MaxOps)...),
			"MaxOps, a map":                    work(kind, 0, append([]api.Op{opMap(longMap(32))}, deletes(api.MaxId-30, 31)...)...),
			"a map alone":                      work(kind, 0, opMap(mapOf(api.MaxEpoch, 0, 7, api.Curve-1, 0))),
			"a map ahead":                      work(kind, 0, opMap(mapOf(1, 0, 0)), opDelete(1)),
			"coordinates":                      work(kind, 0, opPut(pointOf(1, 0, api.MaxCoord)), opPut(pointOf(2, api.MaxCoord, 0)), opPut(pointOf(3, api.MaxCoord, api.MaxCoord))),
			"the least line":                   work(kind, 0, opPut(lineOf(1, ringOf(0, 0, 0, 1)))),
			"the longest line":                 work(kind, 0, opPut(lineOf(1, longRing(16)))),
			"a line that ends where it begins": work(kind, 0, opPut(lineOf(1, ringOf(0, 0, 5, 5, 0, 0)))),
			"the least polygon":                work(kind, 0, opPut(polygonOf(1, longRing(3)))),
			"the greatest polygon":             work(kind, 0, opPut(fullPolygon(1))),
			"rings of all lengths":             work(kind, 0, opPut(polygonOf(1, longRing(3), longRing(16), longRing(4), longRing(15)))),
			"Ids that fall":                    work(kind, 0, opDelete(9), opPut(pointOf(8, 1, 1)), opDelete(7), opPut(pointOf(6, 1, 1))),
			"as many bytes as may be":          recordOfSize(kind, api.MaxRecord),
			"one byte less":                    recordOfSize(kind, api.MaxRecord-1),
			"empty lists": {Kind: kind, Tx: api.Tx{Seq: 1}, Map: emptyMap, Ops: []api.Op{
				{Kind: api.OpMap, Map: mapOf(1, 0, 0), Feature: emptyFeature},
				{Kind: api.OpPut, Feature: pointOf(1, 1, 1), Map: emptyMap},
				{Kind: api.OpDelete, Id: 2, Feature: emptyFeature, Map: emptyMap},
			}},
		} {
			edges[fmt.Sprintf("%s, Kind %d", name, kind)] = r
		}
	}
	return edges
}

// tightMap has MaxRanges stretches; those behind the first one begin one place behind each other, from first + 1 on.
func tightMap(first int) api.Map {
	m := longMap(api.MaxRanges)
	for i := 1; i < len(m.Starts); i++ {
		m.Starts[i] = first + i
	}
	return m
}

// goodTexts are those of all known and edge records.
func goodTexts() map[string]string {
	texts := map[string]string{}
	for _, k := range knownRecords() {
		texts[k.name] = k.text()
	}
	for name, r := range edgeRecords() {
		texts[name] = textOf(r)
	}
	return texts
}

// recordOfSize has just so many bytes: it is made of full polygons, deletes and lines.
func recordOfSize(kind, size int) api.Record {
	full := 14
	for many := range api.MaxOps - full {
		for lines := 1; many+lines+full <= api.MaxOps; lines++ {
			// Kind, name, Base and the count have 9 bytes, a full polygon 521, a delete 3, a line 6 and 8 for each point.
			left := size - 9 - 521*full - 3*many - 6*lines
			if left%8 != 0 || left/8 < 2*lines || left/8 > 16*lines {
				continue
			}
			ops := deletes(1, many)
			for i := range full {
				ops = append(ops, opPut(fullPolygon(100+i)))
			}
			for i, points := 0, left/8; i < lines; i++ {
				here := min(16, points-2*(lines-i-1))
				ops = append(ops, opPut(lineOf(200+i, longRing(here))))
				points -= here
			}
			return work(kind, 0, ops...)
		}
	}
	return api.Record{}
}

// anyRing has so many points, neighbors unlike.
func anyRing(r *rand.Rand, points int) []api.Point {
	ring := longRing(points)
	for i := range ring {
		// The height of each point of a long ring is its own: it alone keeps neighbors unlike.
		ring[i].X = r.Intn(1 << 32)
	}
	return ring
}

func anyFeature(r *rand.Rand, id int) api.Feature {
	switch r.Intn(3) {
	case 0:
		return api.Feature{Id: id, Rings: [][]api.Point{anyRing(r, 1)}}
	case 1:
		return lineOf(id, anyRing(r, 2+r.Intn(15)))
	}
	f := polygonOf(id)
	for range 1 + r.Intn(4) {
		f.Rings = append(f.Rings, anyRing(r, 3+r.Intn(14)))
	}
	return f
}

func anyMap(r *rand.Rand) api.Map {
	m := mapOf(1+r.Intn(api.MaxEpoch), 0, r.Intn(8))
	for range r.Intn(32) {
		m.Starts, m.Owners = append(m.Starts, m.Starts[len(m.Starts)-1]+1+r.Intn(1<<27)), append(m.Owners, r.Intn(8))
	}
	return m
}

func anyOps(r *rand.Rand, most int) []api.Op {
	var ops []api.Op
	if r.Intn(3) == 0 {
		ops = append(ops, opMap(anyMap(r)))
	}
	ids := r.Perm(100)
	for i := range 1 + r.Intn(most) {
		if r.Intn(2) == 0 {
			ops = append(ops, opDelete(1+ids[i]))
		} else {
			ops = append(ops, opPut(anyFeature(r, 1+ids[i])))
		}
	}
	return ops
}

// anyRecord may be.
func anyRecord(r *rand.Rand) api.Record {
	x := api.Record{Kind: r.Intn(5), Tx: api.Tx{Node: r.Intn(8), Seq: 1 + r.Intn(api.MaxSeq)}}
	switch x.Kind {
	case api.RecMap:
		x.Tx, x.Map = api.Tx{}, anyMap(r)
	case api.RecBegin, api.RecPrepare:
		x.Base, x.Ops = r.Intn(api.MaxSeq+2)-1, anyOps(r, 6)
	case api.RecDecide:
		x.Commit = r.Intn(2) == 0
	}
	return x
}

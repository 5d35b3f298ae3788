package rec

import (
	"encoding/binary"
	"fmt"
	"testing"

	"furlong/api"
)

// textOf writes a record as the chapter's words tell it, whether it may be or not: of a number too great for its bytes the lowest ones.
func textOf(r api.Record) string {
	b := []byte{byte(r.Kind)}
	if r.Kind == api.RecMap {
		return string(addMap(b, r.Map))
	}
	b = binary.BigEndian.AppendUint16(append(b, byte(r.Tx.Node)), uint16(r.Tx.Seq))
	switch r.Kind {
	case api.RecBegin, api.RecPrepare:
		b = binary.BigEndian.AppendUint32(b, uint32(r.Base+1))
		b = addOps(b, r.Ops)
	case api.RecDecide:
		b = append(b, map[bool]byte{false: 0, true: 1}[r.Commit])
	}
	return string(b)
}

func addMap(b []byte, m api.Map) []byte {
	b = append(binary.BigEndian.AppendUint16(b, uint16(m.Epoch)), byte(len(m.Starts)))
	for _, start := range m.Starts {
		b = binary.BigEndian.AppendUint32(b, uint32(start))
	}
	for _, owner := range m.Owners {
		b = append(b, byte(owner))
	}
	return b
}

func addOps(b []byte, ops []api.Op) []byte {
	b = append(b, byte(len(ops)))
	for _, op := range ops {
		b = append(b, byte(op.Kind))
		switch op.Kind {
		case api.OpPut:
			b = addFeature(b, op.Feature)
		case api.OpDelete:
			b = binary.BigEndian.AppendUint16(b, uint16(op.Id))
		case api.OpMap:
			b = addMap(b, op.Map)
		}
	}
	return b
}

func addFeature(b []byte, f api.Feature) []byte {
	b = append(binary.BigEndian.AppendUint16(b, uint16(f.Id)), byte(f.Shape), byte(len(f.Rings)))
	for _, ring := range f.Rings {
		b = append(b, byte(len(ring)))
		for _, p := range ring {
			b = binary.BigEndian.AppendUint32(b, uint32(p.X))
			b = binary.BigEndian.AppendUint32(b, uint32(p.Y))
		}
	}
	return b
}

// strict reads a text and refuses, at each byte where it stands, what may not be there.
type strict struct {
	rest string
	bad  bool
}

// recordOf tells the record of a text; false: there is none.
func recordOf(s string) (api.Record, bool) {
	p := &strict{rest: s}
	r := api.Record{Kind: p.number(1, 0, 4)}
	if r.Kind == api.RecMap {
		r.Map = p.aMap()
	} else {
		r.Tx.Node = p.number(1, 0, 7)
		r.Tx.Seq = p.number(2, 1, 65535)
	}
	switch r.Kind {
	case api.RecBegin, api.RecPrepare:
		r.Base = p.number(4, 0, 65536) - 1
		r.Ops = p.ops()
	case api.RecDecide:
		r.Commit = p.number(1, 0, 1) == 1
	}
	if p.bad || p.rest != "" || len(s) > 8192 {
		return api.Record{}, false
	}
	return r, true
}

// number reads one of so many bytes that is from least to most; behind what is bad it reads least.
func (p *strict) number(size, least, most int) int {
	if p.bad || len(p.rest) < size {
		p.bad = true
		return least
	}
	eight := append(make([]byte, 8-size), p.rest[:size]...)
	n := int(binary.BigEndian.Uint64(eight))
	p.rest = p.rest[size:]
	if n < least || n > most {
		p.bad = true
		return least
	}
	return n
}

func (p *strict) aMap() api.Map {
	m := api.Map{Epoch: p.number(2, 1, 65535)}
	count := p.number(1, 1, 32)
	least, most := 0, 0
	for range count {
		m.Starts = append(m.Starts, p.number(4, least, most))
		least, most = m.Starts[len(m.Starts)-1]+1, 1<<32-1
	}
	for range count {
		m.Owners = append(m.Owners, p.number(1, 0, 7))
	}
	return m
}

func (p *strict) ops() []api.Op {
	var ops []api.Op
	seen := map[int]bool{}
	most := 2
	for range p.number(1, 1, 32) {
		op := api.Op{Kind: p.number(1, 0, most)}
		id := 0
		switch op.Kind {
		case api.OpPut:
			op.Feature = p.feature()
			id = op.Feature.Id
		case api.OpDelete:
			op.Id = p.number(2, 1, 65535)
			id = op.Id
		case api.OpMap:
			op.Map = p.aMap()
		}
		p.bad = p.bad || seen[id]
		seen[id] = true
		ops = append(ops, op)
		// A map stands first or not at all.
		most = 1
	}
	return ops
}

func (p *strict) feature() api.Feature {
	f := api.Feature{Id: p.number(2, 1, 65535), Shape: p.number(1, 0, 2)}
	rings := [3]int{1, 1, 4}[f.Shape]
	least, most := [3]int{1, 2, 3}[f.Shape], [3]int{1, 16, 16}[f.Shape]
	for range p.number(1, 1, rings) {
		var ring []api.Point
		for i := range p.number(1, least, most) {
			ring = append(ring, api.Point{X: p.number(4, 0, 1<<32-1), Y: p.number(4, 0, 1<<32-1)})
			p.bad = p.bad || i > 0 && ring[i-1] == ring[i]
		}
		p.bad = p.bad || f.Shape == api.ShapePolygon && ring[0] == ring[len(ring)-1]
		f.Rings = append(f.Rings, ring)
	}
	return f
}

// shown tells a record by all its parts, an empty list as none.
func shown(r api.Record) string {
	return fmt.Sprint(r)
}

// short tells as much of a text as a failure's line has room for.
func short(s string) string {
	if len(s) > 150 {
		return fmt.Sprintf("%x.. (%d bytes)", s[:150], len(s))
	}
	return fmt.Sprintf("%x", s)
}

func put(t *testing.T, what string, r api.Record) string {
	t.Helper()
	s, e := Put(r)
	if e != api.OK {
		t.Fatalf("P11.1: %s: Put: %d", what, e)
	}
	return s
}

// checkPut holds Put against the plain text, and Get against the record.
func checkPut(t *testing.T, what string, r api.Record) {
	t.Helper()
	s := put(t, what, r)
	if s != textOf(r) {
		t.Fatalf("P11.1: %s: Put: %s, not %s", what, short(s), short(textOf(r)))
	}
	if back, e := Get(s); shown(back) != shown(r) || e != api.OK {
		t.Fatalf("P11.1: %s: Get of what Put told: %v, %d", what, back, e)
	}
}

// checkRefused finds an error and an empty text, and Get as strict as its reader of the record's text.
func checkRefused(t *testing.T, what string, r api.Record) {
	t.Helper()
	if s, e := Put(r); s != "" || e != api.ErrRecForm {
		t.Errorf("P11.1: %s: Put: %s, %d", what, short(s), e)
	}
	checkGet(t, what, textOf(r))
}

// checkNone finds an error and a record of zero values.
func checkNone(t *testing.T, what string, s string) {
	t.Helper()
	if r, e := Get(s); shown(r) != shown(api.Record{}) || e != api.ErrRecForm {
		t.Errorf("P11.1: %s: Get(%s): %v, %d", what, short(s), r, e)
	}
}

// checkGet holds Get against the strict reader, and Put against the text; it tells whether there is a record.
func checkGet(t *testing.T, what string, s string) bool {
	t.Helper()
	want, is := recordOf(s)
	if !is {
		checkNone(t, what, s)
		return false
	}
	r, e := Get(s)
	if shown(r) != shown(want) || e != api.OK {
		t.Fatalf("P11.1: %s: Get(%s): %v, %d", what, short(s), r, e)
	}
	if again := put(t, what, r); again != s {
		t.Fatalf("P11.1: %s: Put of what Get told: %s, not %s", what, short(again), short(s))
	}
	return true
}

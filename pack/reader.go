package pack

import (
	"furlong/api"
)

// Reader goes over the bytes of a text, part by part. It refuses nothing, and what the text is short of it reads as 0: a thing that may be has just one text, so whoever reads writes anew what was read, and sees by that whether the text was this one.
type Reader struct {
	rest string
}

// NewReader tells a reader that stands ahead of all bytes of s.
func NewReader(s string) *Reader {
	return &Reader{rest: s}
}

// Number reads a number of so many bytes, the highest of them first.
func (r *Reader) Number(size int) int {
	if size > len(r.rest) {
		// Nothing is left then, so that no count is read any more: what is read ends with the text.
		r.rest = ""
		return 0
	}
	n := 0
	for i := range size {
		n = n<<8 | int(r.rest[i])
	}
	r.rest = r.rest[size:]
	return n
}

// Kind reads what kind a thing is of.
func (r *Reader) Kind() int {
	return r.Number(kindBytes)
}

// Flag reads whether it is so.
func (r *Reader) Flag() bool {
	return r.Number(flagBytes) == 1
}

// Name reads a transaction's name.
func (r *Reader) Name() api.Tx {
	tx := api.Tx{Node: r.Number(nodeBytes)}
	tx.Seq = r.Number(seqBytes)
	return tx
}

// Base reads a transaction's base.
func (r *Reader) Base() int {
	return r.Number(baseBytes) + noBase
}

// Ops reads a transaction's operations.
func (r *Reader) Ops() []api.Op {
	var ops []api.Op
	for range r.Number(countBytes) {
		ops = append(ops, r.op())
	}
	return ops
}

// Map reads a map.
func (r *Reader) Map() api.Map {
	m := api.Map{Epoch: r.Number(epochBytes)}
	count := r.Number(countBytes)
	for range count {
		m.Starts = append(m.Starts, r.Number(placeBytes))
	}
	for range count {
		m.Owners = append(m.Owners, r.Number(nodeBytes))
	}
	return m
}

// Feature reads a feature.
func (r *Reader) Feature() api.Feature {
	f := api.Feature{Id: r.Number(idBytes)}
	f.Shape = r.Kind()
	for range r.Number(countBytes) {
		f.Rings = append(f.Rings, r.ring())
	}
	return f
}

// op reads an operation; of a Kind that there is not it is the Kind alone.
func (r *Reader) op() api.Op {
	op := api.Op{Kind: r.Kind()}
	switch op.Kind {
	case api.OpPut:
		op.Feature = r.Feature()
	case api.OpDelete:
		op.Id = r.Number(idBytes)
	case api.OpMap:
		op.Map = r.Map()
	}
	return op
}

// ring reads a feature's ring.
func (r *Reader) ring() []api.Point {
	var ring []api.Point
	for range r.Number(countBytes) {
		ring = append(ring, r.point())
	}
	return ring
}

// point reads a point.
func (r *Reader) point() api.Point {
	p := api.Point{X: r.Number(coordBytes)}
	p.Y = r.Number(coordBytes)
	return p
}

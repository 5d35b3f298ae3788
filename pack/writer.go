package pack

import (
	"furlong/api"
)

// Writer writes part behind part; its zero value has written nothing. The parts are those that may be: what a number's bytes can't hold is lost.
type Writer struct {
	bytes []byte
}

// Text tells what is written.
func (w *Writer) Text() string {
	return string(w.bytes)
}

// Number writes n with so many bytes, the highest of them first.
func (w *Writer) Number(n int, size int) {
	for i := range size {
		w.bytes = append(w.bytes, byte(n>>(8*(size-1-i))))
	}
}

// Kind writes what kind a thing is of.
func (w *Writer) Kind(kind int) {
	w.Number(kind, kindBytes)
}

// Flag writes 1 if it is so, else 0.
func (w *Writer) Flag(is bool) {
	flag := 0
	if is {
		flag = 1
	}
	w.Number(flag, flagBytes)
}

// Name writes a transaction's name.
func (w *Writer) Name(tx api.Tx) {
	w.Number(tx.Node, nodeBytes)
	w.Number(tx.Seq, seqBytes)
}

// Base writes a transaction's base.
func (w *Writer) Base(base int) {
	w.Number(base-noBase, baseBytes)
}

// Ops writes a transaction's operations.
func (w *Writer) Ops(ops []api.Op) {
	w.Number(len(ops), countBytes)
	for _, op := range ops {
		w.op(op)
	}
}

// Map writes a map.
func (w *Writer) Map(m api.Map) {
	w.Number(m.Epoch, epochBytes)
	w.Number(len(m.Starts), countBytes)
	for _, start := range m.Starts {
		w.Number(start, placeBytes)
	}
	for _, owner := range m.Owners {
		w.Number(owner, nodeBytes)
	}
}

// Feature writes a feature.
func (w *Writer) Feature(f api.Feature) {
	w.Number(f.Id, idBytes)
	w.Kind(f.Shape)
	w.Number(len(f.Rings), countBytes)
	for _, ring := range f.Rings {
		w.ring(ring)
	}
}

// op writes an operation.
func (w *Writer) op(op api.Op) {
	w.Kind(op.Kind)
	switch op.Kind {
	case api.OpPut:
		w.Feature(op.Feature)
	case api.OpDelete:
		w.Number(op.Id, idBytes)
	case api.OpMap:
		w.Map(op.Map)
	}
}

// ring writes a feature's ring.
func (w *Writer) ring(ring []api.Point) {
	w.Number(len(ring), countBytes)
	for _, p := range ring {
		w.Number(p.X, coordBytes)
		w.Number(p.Y, coordBytes)
	}
}

// Package may tells what of a transaction may be, for the layers that are handed such parts: see DOC.md, chapter 11.
package may

import (
	"slices"

	"furlong/api"
	"furlong/shape"
	"furlong/smap"
)

// Name tells whether tx may be a transaction's name.
func Name(tx api.Tx) bool {
	return tx.Node >= 0 && tx.Node < api.MaxNodes && tx.Seq >= 1 && tx.Seq <= api.MaxSeq
}

// Base tells whether base may be a transaction's.
func Base(base int) bool {
	return base >= -1 && base <= api.MaxSeq
}

// Ops tells whether ops may be a transaction's operations.
func Ops(ops []api.Op) bool {
	// The count is asked first: what lies beyond it is not walked.
	return len(ops) >= 1 && len(ops) <= api.MaxOps && eachMay(ops) && mapsFirst(ops) && idsDiffer(ops)
}

// NoMap tells whether m is zero, as a map is where none stands.
func NoMap(m api.Map) bool {
	return m.Epoch == 0 && len(m.Starts) == 0 && len(m.Owners) == 0
}

// noFeature tells whether f is zero.
func noFeature(f api.Feature) bool {
	return f.Id == 0 && f.Shape == 0 && len(f.Rings) == 0
}

// eachMay tells whether each of ops may be by itself.
func eachMay(ops []api.Op) bool {
	return !slices.ContainsFunc(ops, func(op api.Op) bool { return !opMay(op) })
}

// opMay tells whether op may be by itself.
func opMay(op api.Op) bool {
	switch op.Kind {
	case api.OpPut:
		return shape.May(op.Feature) && op.Id == 0 && NoMap(op.Map)
	case api.OpDelete:
		return op.Id >= 1 && op.Id <= api.MaxId && noFeature(op.Feature) && NoMap(op.Map)
	case api.OpMap:
		return smap.May(op.Map, api.MaxNodes) && op.Id == 0 && noFeature(op.Feature)
	}
	return false
}

// mapsFirst tells whether there is no OpMap behind the first one of ops; there is one at least.
func mapsFirst(ops []api.Op) bool {
	return !slices.ContainsFunc(ops[1:], func(op api.Op) bool { return op.Kind == api.OpMap })
}

// idsDiffer tells whether no two of ops put or delete one Id.
func idsDiffer(ops []api.Op) bool {
	var ids []int
	for _, op := range ops {
		switch op.Kind {
		case api.OpPut:
			ids = append(ids, op.Feature.Id)
		case api.OpDelete:
			ids = append(ids, op.Id)
		}
	}
	many := len(ids)
	slices.Sort(ids)
	return len(slices.Compact(ids)) == many
}

package index

import (
	"cmp"

	"furlong/api"
	"furlong/geom"
	"furlong/wide"
)

// sight is an entry with how far it is.
type sight struct {
	entry
	far api.Wide
}

// near tells the first k ids below root by how far their boxes are from p, then by id.
func near(root *node, p api.Point, k int) []int {
	see := func(e entry) sight {
		far, _ := geom.Far(p, e.Box)
		return sight{entry: e, far: far}
	}
	open := func(s sight) ([]sight, bool) {
		if s.below == nil {
			return nil, false
		}
		var all []sight
		for _, e := range s.below.entries {
			all = append(all, see(e))
		}
		return all, true
	}
	var ids []int
	for _, s := range nearest(see(root.sum()), k, ahead, open) {
		ids = append(ids, s.Id)
	}
	return ids
}

// ahead tells whether a comes ahead of b. No two that are seen at one time have one Id.
func ahead(a sight, b sight) bool {
	return cmp.Or(wide.Cmp(a.far, b.far), cmp.Compare(a.Id, b.Id)) < 0
}

// nearest tells the first k ends that lie behind start, in their row by ahead. open tells what lies just behind one, none of which comes ahead of it; false, if it is an end itself. No more is opened than comes ahead of what is told.
func nearest[T any](start T, k int, ahead func(T, T) bool, open func(T) ([]T, bool)) []T {
	var ends []T
	front := []T{start}
	for len(front) > 0 && len(ends) < k {
		first, rest := pop(front, ahead)
		front = rest
		behind, is := open(first)
		if !is {
			ends = append(ends, first)
			continue
		}
		for _, x := range behind {
			front = push(front, x, ahead)
		}
	}
	return ends
}

// push puts x into a heap: the one at i never comes behind those at 2i+1 and 2i+2.
func push[T any](heap []T, x T, ahead func(T, T) bool) []T {
	heap = append(heap, x)
	at := len(heap) - 1
	for at > 0 && ahead(heap[at], heap[(at-1)/2]) {
		up := (at - 1) / 2
		heap[at], heap[up] = heap[up], heap[at]
		at = up
	}
	return heap
}

// pop tells the first one of a heap that is not empty, and the heap without it.
func pop[T any](heap []T, ahead func(T, T) bool) (T, []T) {
	first, last := heap[0], len(heap)-1
	heap[0] = heap[last]
	heap = heap[:last]
	for at := 0; ; {
		next := foremost(heap, at, ahead)
		if next == at {
			return first, heap
		}
		heap[at], heap[next] = heap[next], heap[at]
		at = next
	}
}

// foremost tells which of the one at at and the two below it comes ahead of the others.
func foremost[T any](heap []T, at int, ahead func(T, T) bool) int {
	best := at
	for _, down := range []int{2*at + 1, 2*at + 2} {
		if down < len(heap) && ahead(heap[down], heap[best]) {
			best = down
		}
	}
	return best
}

package index

import (
	"cmp"
	"math/bits"
	"slices"

	"furlong/api"
	"furlong/geom"
	"furlong/wide"
)

// part is one of the two that a node's entries are parted into, with the least box about it.
type part struct {
	entries []entry
	box     api.Box
}

// parted parts a node's entries into two, each of at least least, whose boxes are to be small: quadratically, as all pairs are asked for the two that are to begin.
func parted(all []entry) ([]entry, []entry) {
	i, j := seeds(all)
	one, two := begun(all[i]), begun(all[j])
	rest := slices.Clone(all)
	// j first: it is behind i, which stays where it is.
	rest = slices.Delete(rest, j, j+1)
	rest = slices.Delete(rest, i, i+1)
	for len(rest) > 0 {
		at := clearest(rest, one.box, two.box)
		to := &two
		if toFirst(rest[at], one, two, len(rest)) {
			to = &one
		}
		to.take(rest[at])
		rest = slices.Delete(rest, at, at+1)
	}
	return one.entries, two.entries
}

// begun tells a part of e alone.
func begun(e entry) part {
	return part{entries: []entry{e}, box: e.Box}
}

// take puts e into p.
func (p *part) take(e entry) {
	p.entries = append(p.entries, e)
	p.box = join(p.box, e.Box)
}

// seeds tells where the two stand that would waste most, were they in one part; the first of them stands ahead.
func seeds(all []entry) (int, int) {
	first, second := 0, 1
	for j := range all {
		for i := range j {
			if wide.Cmp(waste(all[i].Box, all[j].Box), waste(all[first].Box, all[second].Box)) > 0 {
				first, second = i, j
			}
		}
	}
	return first, second
}

// clearest tells where the one of rest stands to which it matters most which box has to take it.
func clearest(rest []entry, one api.Box, two api.Box) int {
	matters := func(e entry) api.Wide {
		return apart(growth(one, e.Box), growth(two, e.Box))
	}
	best := 0
	for i := range rest {
		if wide.Cmp(matters(rest[i]), matters(rest[best])) > 0 {
			best = i
		}
	}
	return best
}

// toFirst tells whether e goes to the first part; left is how many belong to none yet, e with them.
func toFirst(e entry, one part, two part, left int) bool {
	switch {
	case len(one.entries)+left <= least:
		return true
	case len(two.entries)+left <= least:
		return false
	}
	return cmp.Or(
		wide.Cmp(growth(one.box, e.Box), growth(two.box, e.Box)),
		wide.Cmp(area(one.box), area(two.box)),
		cmp.Compare(len(one.entries), len(two.entries)),
	) <= 0
}

// join tells the least box that both are in; boxes that the tree holds may be.
func join(a api.Box, b api.Box) api.Box {
	both, _ := geom.Join(a, b)
	return both
}

// area tells how many places b has: up to 2^64. (Places and not sides' products, which are 0 for all boxes of one place or row, whatever lies between them.)
func area(b api.Box) api.Wide {
	return wide.Mul(uint64(b.X1-b.X0+1), uint64(b.Y1-b.Y0+1))
}

// growth tells how many places b has to get to have c in it.
func growth(b api.Box, c api.Box) api.Wide {
	return minus(area(join(b, c)), area(b))
}

// waste tells how many places the box about a and b has beyond theirs, and twice the grid's more: boxes that lie over one another have it below 0.
func waste(a api.Box, b api.Box) api.Wide {
	all, _ := wide.Add(area(join(a, b)), api.Wide{Hi: 2})
	return minus(minus(all, area(a)), area(b))
}

// apart tells how far a is from b.
func apart(a api.Wide, b api.Wide) api.Wide {
	if wide.Cmp(a, b) < 0 {
		return minus(b, a)
	}
	return minus(a, b)
}

// minus tells a less b, which is not above a.
func minus(a api.Wide, b api.Wide) api.Wide {
	low, borrow := bits.Sub64(a.Lo, b.Lo, 0)
	return api.Wide{Hi: a.Hi - b.Hi - borrow, Lo: low}
}

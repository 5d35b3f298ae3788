// Package clone copies what layers keep or hand out, so that both sides share no memory: see DOC.md, rule R4.
package clone

import (
	"slices"

	"furlong/api"
)

// Feature tells a copy of f, each of its rings in memory of its own.
func Feature(f api.Feature) api.Feature {
	f.Rings = slices.Clone(f.Rings)
	for i, ring := range f.Rings {
		f.Rings[i] = slices.Clone(ring)
	}
	return f
}

// Map tells a copy of m.
func Map(m api.Map) api.Map {
	m.Starts = slices.Clone(m.Starts)
	m.Owners = slices.Clone(m.Owners)
	return m
}

package index

import (
	"math/rand"
	"slices"
	"strings"
	"testing"

	"furlong/api"
)

// hill is a thing that nearest may be asked of as well: ends are those with nothing behind them.
type hill struct {
	word   string
	behind []hill
}

func openHill(h hill) ([]hill, bool) {
	return h.behind, len(h.behind) > 0
}

func hillAhead(a, b hill) bool { return a.word < b.word }

// TestNearestOfWords: the ends come in their row, whatever lies ahead of them.
func TestNearestOfWords(t *testing.T) {
	end := func(words ...string) []hill {
		var all []hill
		for _, w := range words {
			all = append(all, hill{word: w})
		}
		return all
	}
	all := hill{"", []hill{
		{"b", end("z", "b", "f")},
		{"a", []hill{{"c", end("d", "c", "y")}, {"x", nil}, {"e", end("g")}}},
		{"aa", end("w")},
	}}
	want := []string{"b", "c", "d", "f", "g", "w", "x", "y", "z"}
	for k := range len(want) + 3 {
		var got []string
		for _, h := range nearest(all, k, hillAhead, openHill) {
			got = append(got, h.word)
		}
		if !slices.Equal(got, want[:min(k, len(want))]) {
			t.Errorf("P12.1: the first %d are %s", k, strings.Join(got, " "))
		}
	}
}

// TestNearestOfNumbers: a heap that is filled at once, in any row, with many alike.
func TestNearestOfNumbers(t *testing.T) {
	r := rand.New(rand.NewSource(12))
	for size := range 70 {
		var all []int
		for range size {
			all = append(all, 1+r.Intn(40))
		}
		open := func(n int) ([]int, bool) {
			return all, n == 0
		}
		want := slices.Sorted(slices.Values(all))
		for k := range size + 2 {
			got := nearest(0, k, func(a, b int) bool { return a < b }, open)
			if !slices.Equal(got, want[:min(k, size)]) {
				t.Fatalf("P12.1: the first %d of %v are %v", k, all, got)
			}
		}
	}
}

// TestNearOpensFewNodes: the nearest few of very many, also where all boxes are one and the same.
func TestNearOpensFewNodes(t *testing.T) {
	boxes := map[string]func(i int) api.Box{
		"the same":    func(int) api.Box { return boxOf(5, 5, 9, 9) },
		"all of grid": func(int) api.Box { return allOfGrid() },
		"a square":    func(i int) api.Box { return placeBox(i%128*1000, i/128*1000) },
		"a row":       func(i int) api.Box { return placeBox(i, 50) },
	}
	for name, at := range boxes {
		tree := New()
		for i := range 1 << 14 {
			put(t, tree, i+1, at(i))
		}
		for _, p := range append(cornersOfGrid(), api.Point{X: 64000, Y: 64000}) {
			opened := 0
			open := func(s sight) ([]sight, bool) {
				var all []sight
				if s.below == nil {
					return nil, false
				}
				opened++
				for _, e := range s.below.entries {
					far := squareTo(p, e.Box)
					all = append(all, sight{entry: e, far: api.Wide{Hi: far[0], Lo: far[1]}})
				}
				return all, true
			}
			if got := nearest(sight{entry: tree.root.sum()}, 3, ahead, open); len(got) != 3 || opened > 60 {
				t.Errorf("%s: %d come from %d nodes", name, len(got), opened)
			}
		}
	}
}

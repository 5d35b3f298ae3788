package index

import (
	"math/rand"
	"slices"
	"testing"

	"furlong/api"
)

// layouts tell boxes at which a tree could go wrong.
func layouts() map[string]func(r *rand.Rand) api.Box {
	anywhere := func(r *rand.Rand) int { return int(r.Uint32()) }
	edge := func(r *rand.Rand) int {
		edges := []int{0, 1, 2, 1<<31 - 1, 1 << 31, far - 2, far - 1, far}
		return edges[r.Intn(len(edges))]
	}
	return map[string]func(r *rand.Rand) api.Box{
		"any boxes":  func(r *rand.Rand) api.Box { return boxBetween(anywhere(r), anywhere(r), anywhere(r), anywhere(r)) },
		"any places": func(r *rand.Rand) api.Box { return placeBox(anywhere(r), anywhere(r)) },
		"edges":      func(r *rand.Rand) api.Box { return boxBetween(edge(r), edge(r), edge(r), edge(r)) },
		"small boxes": func(r *rand.Rand) api.Box {
			return boxBetween(r.Intn(6), r.Intn(6), r.Intn(6), r.Intn(6))
		},
		"few places": func(r *rand.Rand) api.Box { return placeBox(r.Intn(4), r.Intn(4)) },
		"one box":    func(r *rand.Rand) api.Box { return boxOf(10, 10, 20, 20) },
		"two boxes":  func(r *rand.Rand) api.Box { n := r.Intn(2) * (far - 20); return boxOf(n, n, n+20, n+20) },
		"one row":    func(r *rand.Rand) api.Box { return placeBox(r.Intn(500), 3) },
		"boxes about one place": func(r *rand.Rand) api.Box {
			n := r.Intn(300)
			return boxOf(1000-n, 1000-n, 1000+n, 1000+n)
		},
		"little and great": func(r *rand.Rand) api.Box {
			if r.Intn(10) == 0 {
				return allOfGrid()
			}
			x, y := r.Intn(1000), r.Intn(1000)
			return boxOf(x, y, x+r.Intn(30), y+r.Intn(30))
		},
	}
}

// asked are boxes, places and counts to ask for, of the layout's kind and others.
func asked(r *rand.Rand, box func(r *rand.Rand) api.Box, length int) ([]api.Box, []api.Point, []int) {
	b, c := box(r), box(r)
	boxes := []api.Box{b, placeBox(b.X1, b.Y0), placeBox(c.X0, c.Y1), boxBetween(b.X0, b.Y0, c.X1, c.Y1), boxBetween(int(r.Uint32()), int(r.Uint32()), int(r.Uint32()), int(r.Uint32()))}
	places := []api.Point{{X: b.X0, Y: c.Y1}, {X: int(r.Uint32()), Y: int(r.Uint32())}, cornersOfGrid()[r.Intn(4)]}
	return boxes, places, []int{r.Intn(length + 3), 1 + r.Intn(9)}
}

// TestRowsOfCalls: many Puts and Removes of few ids, with a list beside; nearly all are put anew and removed again and again.
func TestRowsOfCalls(t *testing.T) {
	for name, box := range layouts() {
		t.Run(name, func(t *testing.T) {
			r := rand.New(rand.NewSource(1))
			for _, ids := range []int{3, 9, 30, 400} {
				tree := New()
				var items plain
				for n := range 900 {
					id := 1 + r.Intn(ids)
					// Rows that grow, and rows that shrink, by turns.
					if r.Intn(10) < 2+5*(n/300%2) {
						is := items.remove(id)
						if e := tree.Remove(id); is != (e == api.OK) || !is && e != api.ErrIndexNone {
							t.Fatalf("P12.1: Remove(%d) is %d, and it was held: %v", id, e, is)
						}
					} else {
						item := api.Item{Id: id, Box: box(r)}
						items.put(item)
						put(t, tree, item.Id, item.Box)
					}
					checkSize(t, tree, len(items))
					if n%3 == 0 {
						checkShape(t, tree)
					}
					if n%4 == 0 {
						boxes, places, ks := asked(r, box, len(items))
						checkTree(t, tree, items, boxes, places, ks)
					}
				}
			}
		})
	}
}

// orders are rows in which ids may come.
func orders(n int) map[string][]int {
	var rising, inward []int
	for i := range n {
		rising = append(rising, i+1)
	}
	falling := slices.Clone(rising)
	slices.Reverse(falling)
	for i := range n / 2 {
		inward = append(inward, i+1, n-i)
	}
	shuffled := slices.Clone(rising)
	rand.New(rand.NewSource(5)).Shuffle(n, func(i, j int) { shuffled[i], shuffled[j] = shuffled[j], shuffled[i] })
	return map[string][]int{"rising": rising, "falling": falling, "inward": inward, "shuffled": shuffled}
}

// TestOrders puts many items in one order and removes them in another.
func TestOrders(t *testing.T) {
	const count = 300
	for name, box := range layouts() {
		t.Run(name, func(t *testing.T) {
			for into, puts := range orders(count) {
				for out, removes := range orders(count) {
					checkOrder(t, box, into+", "+out, puts, removes)
				}
			}
		})
	}
}

func checkOrder(t *testing.T, box func(r *rand.Rand) api.Box, name string, puts, removes []int) {
	t.Helper()
	r := rand.New(rand.NewSource(2))
	tree := New()
	var items plain
	check := func(n int) {
		t.Helper()
		checkSize(t, tree, len(items))
		if n%23 == 0 {
			checkShape(t, tree)
			boxes, places, ks := asked(r, box, len(items))
			checkTree(t, tree, items, boxes, places, ks)
		}
	}
	for n, id := range puts {
		item := api.Item{Id: id, Box: box(r)}
		items.put(item)
		put(t, tree, item.Id, item.Box)
		check(n)
	}
	for n, id := range removes {
		items.remove(id)
		remove(t, tree, id)
		check(n)
	}
	if len(items) != 0 {
		t.Fatalf("%s: %d items are left", name, len(items))
	}
	checkEmpty(t, tree)
}

// TestAllBoxesOfASmallGrid: each box of four by four places is an item; all boxes and places are asked for.
func TestAllBoxesOfASmallGrid(t *testing.T) {
	var boxes []api.Box
	var places []api.Point
	for i := range 16 {
		places = append(places, api.Point{X: i % 4, Y: i / 4})
		for j := range 16 {
			if i%4 <= j%4 && i/4 <= j/4 {
				boxes = append(boxes, boxOf(i%4, i/4, j%4, j/4))
			}
		}
	}
	var ks []int
	for k := range len(boxes) + 2 {
		ks = append(ks, k)
	}
	for name, order := range orders(len(boxes)) {
		tree := New()
		var items plain
		for _, id := range order {
			items.put(api.Item{Id: id, Box: boxes[id-1]})
			put(t, tree, id, boxes[id-1])
		}
		if len(items) != 100 {
			t.Fatalf("%s: %d items", name, len(items))
		}
		checkShape(t, tree)
		checkTree(t, tree, items, boxes, places, ks)
		for id := 1; id <= 100; id += 2 {
			items.remove(id)
			remove(t, tree, id)
		}
		checkShape(t, tree)
		checkTree(t, tree, items, boxes, places, ks)
	}
}

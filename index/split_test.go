package index

import (
	"math/big"
	"math/rand"
	"testing"

	"furlong/api"
	"furlong/wide"
)

// bigOf is a number of 128 bits as a great one.
func bigOf(w api.Wide) *big.Int {
	n := new(big.Int).SetUint64(w.Hi)
	return n.Add(n.Lsh(n, 64), new(big.Int).SetUint64(w.Lo))
}

// bigArea is how many places a box has.
func bigArea(b api.Box) *big.Int {
	return new(big.Int).Mul(big.NewInt(int64(b.X1-b.X0+1)), big.NewInt(int64(b.Y1-b.Y0+1)))
}

func bigJoin(a, b api.Box) api.Box {
	return boxOf(min(a.X0, b.X0), min(a.Y0, b.Y0), max(a.X1, b.X1), max(a.Y1, b.Y1))
}

func bigGrowth(b, c api.Box) *big.Int {
	return new(big.Int).Sub(bigArea(bigJoin(b, c)), bigArea(b))
}

// bigWaste is below 0, if the boxes lie over one another.
func bigWaste(a, b api.Box) *big.Int {
	return new(big.Int).Sub(bigGrowth(a, b), bigArea(b))
}

// splitBoxes are boxes of all layouts, also those with the greatest areas.
func splitBoxes(r *rand.Rand) []api.Box {
	all := []api.Box{
		allOfGrid(), placeBox(0, 0), placeBox(far, far), placeBox(far, 0), boxOf(0, 0, far, 0), boxOf(0, 0, 0, far), boxOf(0, 0, far, far-1), boxOf(1, 0, far, far),
		boxOf(0, 0, 1<<31-1, far), boxOf(1<<31, 0, far, far), boxOf(3, 3, 3, 9), boxOf(3, 3, 9, 3), boxOf(3, 3, 9, 9),
	}
	for _, box := range layouts() {
		for range 4 {
			all = append(all, box(r))
		}
	}
	return all
}

func TestReckonings(t *testing.T) {
	boxes := splitBoxes(rand.New(rand.NewSource(3)))
	for _, a := range boxes {
		if bigOf(area(a)).Cmp(bigArea(a)) != 0 {
			t.Errorf("%v has %v places, not %v", a, area(a), bigArea(a))
		}
		for _, b := range boxes {
			if bigOf(growth(a, b)).Cmp(bigGrowth(a, b)) != 0 {
				t.Errorf("%v grows by %v, not %v, to have %v in it", a, growth(a, b), bigGrowth(a, b), b)
			}
			for _, c := range boxes {
				want := bigWaste(a, b).Cmp(bigWaste(b, c))
				if got := wide.Cmp(waste(a, b), waste(b, c)); got != want {
					t.Fatalf("the waste of %v with %v and with %v: %d, not %d", b, a, c, got, want)
				}
			}
		}
	}
}

// nodesToSplit are lists of one entry more than a node has, all of one layout or of several.
func nodesToSplit(r *rand.Rand) [][]entry {
	var all [][]entry
	for _, box := range layouts() {
		for range 60 {
			var boxes []api.Box
			for range most + 1 {
				boxes = append(boxes, box(r))
			}
			all = append(all, entriesOf(boxes...))
		}
	}
	boxes := splitBoxes(r)
	for range 300 {
		r.Shuffle(len(boxes), func(i, j int) { boxes[i], boxes[j] = boxes[j], boxes[i] })
		all = append(all, entriesOf(boxes[:most+1]...))
	}
	return all
}

// TestSeeds: no pair wastes more than those that are told.
func TestSeeds(t *testing.T) {
	for _, all := range nodesToSplit(rand.New(rand.NewSource(4))) {
		i, j := seeds(all)
		if i < 0 || i >= j || j >= len(all) {
			t.Fatalf("the seeds of %v are at %d and %d", all, i, j)
		}
		best := bigWaste(all[i].Box, all[j].Box)
		for m := range all {
			for n := range m {
				if bigWaste(all[n].Box, all[m].Box).Cmp(best) > 0 {
					t.Fatalf("the seeds of %v are at %d and %d, not %d and %d", all, i, j, n, m)
				}
			}
		}
	}
}

// TestClearest: for none of the others it matters more which box takes it.
func TestClearest(t *testing.T) {
	for _, all := range nodesToSplit(rand.New(rand.NewSource(5))) {
		one, two, rest := all[0].Box, all[1].Box, all[2:]
		matters := func(e entry) *big.Int {
			n := new(big.Int).Sub(bigGrowth(one, e.Box), bigGrowth(two, e.Box))
			return n.Abs(n)
		}
		best := clearest(rest, one, two)
		for i := range rest {
			if matters(rest[i]).Cmp(matters(rest[best])) > 0 {
				t.Fatalf("of %v between %v and %v, %d is told, not %d", rest, one, two, best, i)
			}
		}
	}
}

// TestToFirst: to the box that grows less, then to the lesser one, then to the part of fewer; but to the one that needs all that are left.
func TestToFirst(t *testing.T) {
	partOf := func(boxes ...api.Box) part {
		p := begun(entriesOf(boxes...)[0])
		for _, e := range entriesOf(boxes...)[1:] {
			p.take(e)
		}
		return p
	}
	low, high := boxOf(0, 0, 4, 4), boxOf(20, 0, 24, 4)
	rows := []struct {
		what     string
		e        api.Box
		one, two part
		left     int
		want     bool
	}{
		{"nearer to the first", placeBox(6, 2), partOf(low), partOf(high), 7, true},
		{"nearer to the second", placeBox(18, 2), partOf(low), partOf(high), 7, false},
		{"in both, the first lesser", placeBox(3, 3), partOf(low), partOf(boxOf(0, 0, 9, 9)), 7, true},
		{"in both, the second lesser", placeBox(3, 3), partOf(boxOf(0, 0, 9, 9)), partOf(low), 7, false},
		{"alike, the first of fewer", placeBox(3, 3), partOf(low), partOf(low, low), 6, true},
		{"alike, the second of fewer", placeBox(3, 3), partOf(low, low), partOf(low), 6, false},
		{"nearer to the second, the first one too small", placeBox(18, 2), partOf(low), partOf(high), 2, true},
		{"nearer to the first, the second one too small", placeBox(6, 2), partOf(low, low, low), partOf(high, high), 1, false},
		{"nearer to the second, the first one just not too small", placeBox(18, 2), partOf(low), partOf(high), 3, false},
		{"a part's box grows with it", placeBox(12, 2), partOf(low, placeBox(11, 0)), partOf(high), 5, true},
		{"a part's box grows with it, the second", placeBox(12, 2), partOf(low), partOf(high, placeBox(13, 0)), 5, false},
	}
	for _, row := range rows {
		if got := toFirst(entriesOf(row.e)[0], row.one, row.two, row.left); got != row.want {
			t.Errorf("%s: %v", row.what, got)
		}
	}
}

// TestPartedBoxes: whatever is parted, both parts have enough, and nothing is lost.
func TestPartedBoxes(t *testing.T) {
	for _, all := range nodesToSplit(rand.New(rand.NewSource(6))) {
		one, two := parted(all)
		if len(one) < least || len(two) < least {
			t.Fatalf("%v are parted into %v and %v", all, idsOf(one), idsOf(two))
		}
		checkParted(t, all, idsOf(one))
	}
}

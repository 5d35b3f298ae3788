package cover

import (
	"math"
	"math/rand"
	"slices"
	"sync"
	"testing"

	"furlong/api"
	"furlong/hilbert"
)

const (
	far = api.MaxCoord
	// side is how many cells of api.Level lie in a row.
	side = 64
	// cellSide is how many places lie in a row of a cell of api.Level.
	cellSide = 67108864
	// cellStretch is how many places of the curve lie in a cell of api.Level.
	cellStretch = 1048576
	// spare stands in the room behind a list's end, where no call may write or read.
	spare = -77
)

// mixCall is a call that mixes two lists, with what it does of one place.
type mixCall struct {
	name string
	call func(a, b []api.Range) ([]api.Range, api.Errno)
	keep func(inA, inB bool) bool
}

func mixCalls() []mixCall {
	return []mixCall{
		{"Union", Union, func(inA, inB bool) bool { return inA || inB }},
		{"Common", Common, func(inA, inB bool) bool { return inA && inB }},
		{"Less", Less, func(inA, inB bool) bool { return inA && !inB }},
	}
}

// rangesOf makes ranges out of From, To, From, To and so on.
func rangesOf(ends ...int) []api.Range {
	var rs []api.Range
	for i := 0; i < len(ends); i += 2 {
		rs = append(rs, api.Range{From: ends[i], To: ends[i+1]})
	}
	return rs
}

// rangesOfMarks are those that may be with the places that are marked, place i going from at(i) up to at(i+1).
func rangesOfMarks(marks []bool, at func(int) int) []api.Range {
	var rs []api.Range
	for i, marked := range marks {
		if !marked {
			continue
		}
		if i > 0 && marks[i-1] {
			rs[len(rs)-1].To = at(i + 1)
		} else {
			rs = append(rs, api.Range{From: at(i), To: at(i + 1)})
		}
	}
	return rs
}

// itself is rangesOfMarks' at of single places.
func itself(i int) int { return i }

func boxOf(x0, y0, x1, y1 int) api.Box {
	return api.Box{X0: x0, Y0: y0, X1: x1, Y1: y1}
}

// boxBetween has the corners x, y and v, w, whichever of them lies first.
func boxBetween(x, y, v, w int) api.Box {
	return boxOf(min(x, v), min(y, w), max(x, v), max(y, w))
}

// cellIndexes are the indexes of all cells of api.Level, by X and Y.
func cellIndexes(t *testing.T) [side][side]int {
	t.Helper()
	var indexes [side][side]int
	for x := range side {
		for y := range side {
			d, e := hilbert.Cell(x, y, 6)
			if e != api.OK {
				t.Fatalf("no index of cell %d, %d", x, y)
			}
			indexes[x][y] = d
		}
	}
	return indexes
}

// reckoned is the chapter's cover of b: each cell is asked whether b meets it.
func reckoned(b api.Box, indexes *[side][side]int) []api.Range {
	marks := make([]bool, side*side)
	for x := range side {
		for y := range side {
			ahead := b.X1 < x*cellSide || b.Y1 < y*cellSide
			behind := b.X0 >= (x+1)*cellSide || b.Y0 >= (y+1)*cellSide
			marks[indexes[x][y]] = !ahead && !behind
		}
	}
	return rangesOfMarks(marks, func(i int) int { return i * cellStretch })
}

// coverOf is Of of what may be.
func coverOf(t *testing.T, b api.Box) []api.Range {
	t.Helper()
	rs, e := Of(b)
	if e != api.OK {
		t.Fatalf("P6.1: Of(%v) is refused: %d", b, e)
	}
	return rs
}

// has asks each range in its turn.
func has(rs []api.Range, d int) bool {
	for _, r := range rs {
		if d >= r.From && d < r.To {
			return true
		}
	}
	return false
}

// edgeCoords are coordinates at which cells of several levels begin or end, with those beside them.
func edgeCoords() []int {
	all := []int{0, 1, 2, far - 1, far}
	for _, n := range []int{1, 2, 3, 16, 31, 32, 33, 63} {
		all = append(all, n*cellSide-1, n*cellSide, n*cellSide+1)
	}
	return all
}

// wrongCoords lie outside of the grid; the later ones would be inside, if bits were lost.
func wrongCoords() []int {
	return []int{-1, far + 1, -2, far + 2, -far, -far - 1, 1 << 33, 1<<32 + 5, -1 << 32, 1 << 62, math.MinInt, math.MinInt + 1, math.MaxInt}
}

// anyBoxes are boxes of all sizes, with many at the edges of cells.
func anyBoxes(count int) []api.Box {
	r := rand.New(rand.NewSource(6))
	edges := edgeCoords()
	coord := func() int {
		if r.Intn(2) == 0 {
			return edges[r.Intn(len(edges))]
		}
		return int(r.Uint32())
	}
	var boxes []api.Box
	for range count {
		x, y := coord(), coord()
		boxes = append(boxes, boxBetween(x, y, coord(), coord()))
		near := r.Intn(4 * cellSide)
		boxes = append(boxes, boxOf(x, y, min(x+near, far), min(y+near/3, far)))
	}
	return boxes
}

// wrongRanges are lists that may not be.
func wrongRanges() map[string][]api.Range {
	return map[string][]api.Range{
		"empty at 0":              rangesOf(0, 0),
		"empty":                   rangesOf(1, 1),
		"empty at Curve":          rangesOf(api.Curve, api.Curve),
		"turned":                  rangesOf(2, 1),
		"turned at 0":             rangesOf(1, 0),
		"turned, the whole curve": rangesOf(api.Curve, 0),
		"below 0":                 rangesOf(-1, 1),
		"all below 0":             rangesOf(-2, -1),
		"from the least number":   rangesOf(math.MinInt, 1),
		"above Curve":             rangesOf(0, api.Curve+1),
		"all above Curve":         rangesOf(api.Curve+1, api.Curve+2),
		"from Curve":              rangesOf(api.Curve, api.Curve+1),
		"to the greatest number":  rangesOf(0, math.MaxInt),
		"all there is":            rangesOf(math.MinInt, math.MaxInt),
		"no gap":                  rangesOf(0, 2, 2, 3),
		"no gap, later":           rangesOf(0, 2, 4, 6, 6, 8),
		"over one another":        rangesOf(0, 2, 1, 3),
		"within one another":      rangesOf(0, 9, 3, 4),
		"twice":                   rangesOf(3, 4, 3, 4),
		"falling":                 rangesOf(5, 6, 1, 3),
		"falling, later":          rangesOf(0, 1, 5, 6, 2, 3),
		"the first is wrong":      rangesOf(-1, 1, 3, 4),
		"the first is empty":      rangesOf(0, 0, 3, 4),
		"the last is empty":       rangesOf(0, 1, 3, 3),
		"the last is turned":      rangesOf(0, 1, 5, 3),
		"the last is above Curve": rangesOf(0, 1, 3, api.Curve+1),
		"behind the whole curve":  rangesOf(0, api.Curve, api.Curve+1, api.Curve+2),
		"joined at Curve":         rangesOf(0, api.Curve, api.Curve, api.Curve+1),
		"a bad one in the middle": rangesOf(0, 1, 4, 3, 7, 8),
	}
}

// rightRanges are lists that may be.
func rightRanges() map[string][]api.Range {
	return map[string][]api.Range{
		"nil":                nil,
		"empty":              {},
		"the first place":    rangesOf(0, 1),
		"the last place":     rangesOf(api.Curve-1, api.Curve),
		"the whole curve":    rangesOf(0, api.Curve),
		"a gap of one place": rangesOf(0, 1, 2, 3),
		"first and last":     rangesOf(0, 1, api.Curve-1, api.Curve),
		"all but one place":  rangesOf(0, 5, 6, api.Curve),
		"many":               rangesOf(0, 3, 4, 5, 9, 100, 102, 103, 1<<31, 1<<31+1),
	}
}

func TestOfKnownBoxes(t *testing.T) {
	const half, quarter = 1 << 31, 1 << 30
	known := []struct {
		name string
		b    api.Box
		want []api.Range
	}{
		{"the first place", boxOf(0, 0, 0, 0), rangesOf(0, cellStretch)},
		{"the last place of the first row", boxOf(far, 0, far, 0), rangesOf(4095*cellStretch, api.Curve)},
		{"the last place of the first column", boxOf(0, far, 0, far), rangesOf(1365*cellStretch, 1366*cellStretch)},
		{"the last place", boxOf(far, far, far, far), rangesOf(2730*cellStretch, 2731*cellStretch)},
		{"the whole grid", boxOf(0, 0, far, far), rangesOf(0, api.Curve)},
		{"the whole grid but its rim", boxOf(1, 1, far-1, far-1), rangesOf(0, api.Curve)},
		{"first quarter", boxOf(0, 0, half-1, half-1), rangesOf(0, quarter)},
		{"second quarter", boxOf(0, half, half-1, far), rangesOf(quarter, 2*quarter)},
		{"third quarter", boxOf(half, half, far, far), rangesOf(2*quarter, 3*quarter)},
		{"fourth quarter", boxOf(half, 0, far, half-1), rangesOf(3*quarter, api.Curve)},
		{"left half", boxOf(0, 0, half-1, far), rangesOf(0, 2*quarter)},
		{"upper half", boxOf(0, half, far, far), rangesOf(quarter, 3*quarter)},
		{"lower half", boxOf(0, 0, far, half-1), rangesOf(0, quarter, 3*quarter, api.Curve)},
		{"over the middle of the first row", boxOf(half-1, 0, half, 0), rangesOf(341*cellStretch, 342*cellStretch, 3754*cellStretch, 3755*cellStretch)},
		{"over the middle of the grid", boxOf(half-1, half-1, half, half), rangesOf(682*cellStretch, 683*cellStretch, 2047*cellStretch, 2049*cellStretch, 3413*cellStretch, 3414*cellStretch)},
	}
	for _, k := range known {
		if got := coverOf(t, k.b); !slices.Equal(got, k.want) {
			t.Errorf("P6.1: %s: Of(%v) is %v, not %v", k.name, k.b, got, k.want)
		}
	}
}

// TestOfEachCell: a box of one cell's places, of its corners alone, and one place more on each side.
func TestOfEachCell(t *testing.T) {
	indexes := cellIndexes(t)
	for x := range side {
		for y := range side {
			x0, y0 := x*cellSide, y*cellSide
			x1, y1 := x0+cellSide-1, y0+cellSide-1
			boxes := []api.Box{
				boxOf(x0, y0, x1, y1), boxOf(x0, y0, x0, y0), boxOf(x1, y0, x1, y0), boxOf(x0, y1, x0, y1), boxOf(x1, y1, x1, y1),
				boxOf(max(x0-1, 0), y0, x1, y1), boxOf(x0, max(y0-1, 0), x1, y1), boxOf(x0, y0, min(x1+1, far), y1), boxOf(x0, y0, x1, min(y1+1, far)),
			}
			for i, b := range boxes {
				got, want := coverOf(t, b), reckoned(b, &indexes)
				if !slices.Equal(got, want) {
					t.Fatalf("P6.1: Of(%v) is %v, not %v", b, got, want)
				}
				if d := indexes[x][y]; i < 5 && !slices.Equal(got, rangesOf(d*cellStretch, (d+1)*cellStretch)) {
					t.Fatalf("P6.1: Of(%v), of the cell %d alone, is %v", b, d, got)
				}
			}
		}
	}
}

// TestOfBoxesAtEdges holds Of against the reckoning for all boxes out of the edges' coordinates that begin or end at cells.
func TestOfBoxesAtEdges(t *testing.T) {
	indexes := cellIndexes(t)
	edges := []int{0, cellSide - 1, cellSide, 31*cellSide + 1, 32*cellSide - 1, 32 * cellSide, 63*cellSide - 1, far}
	for i, x0 := range edges {
		for _, x1 := range edges[i:] {
			for j, y0 := range edges {
				for _, y1 := range edges[j:] {
					b := boxOf(x0, y0, x1, y1)
					if got, want := coverOf(t, b), reckoned(b, &indexes); !slices.Equal(got, want) {
						t.Fatalf("P6.1: Of(%v) is %v, not %v", b, got, want)
					}
				}
			}
		}
	}
}

// TestOfAnyBoxes: what is answered is the reckoning, and may itself be.
func TestOfAnyBoxes(t *testing.T) {
	indexes := cellIndexes(t)
	for _, b := range anyBoxes(1500) {
		got := coverOf(t, b)
		if want := reckoned(b, &indexes); !slices.Equal(got, want) {
			t.Fatalf("P6.1: Of(%v) is %v, not %v", b, got, want)
		}
		if !May(got) {
			t.Fatalf("P6.1: Of(%v) is %v, which may not be", b, got)
		}
	}
}

// TestOfHasPlaces: a box's places lie in its cover; others do just if b meets the cell in which they lie.
func TestOfHasPlaces(t *testing.T) {
	r := rand.New(rand.NewSource(7))
	for _, b := range anyBoxes(300) {
		rs := coverOf(t, b)
		places := []api.Point{{X: b.X0, Y: b.Y0}, {X: b.X1, Y: b.Y0}, {X: b.X0, Y: b.Y1}, {X: b.X1, Y: b.Y1}}
		for range 60 {
			places = append(places, api.Point{X: b.X0 + r.Intn(b.X1-b.X0+1), Y: b.Y0 + r.Intn(b.Y1-b.Y0+1)})
		}
		for i, p := range places {
			d, e := hilbert.Encode(p)
			if e != api.OK || !has(rs, d) || !Has(rs, d) {
				t.Fatalf("P6.1: Of(%v) is %v, without %d of place %d, %v", b, rs, d, i, p)
			}
		}
		for range 60 {
			p := api.Point{X: int(r.Uint32()), Y: int(r.Uint32())}
			column, row := p.X/cellSide, p.Y/cellSide
			met := column >= b.X0/cellSide && column <= b.X1/cellSide && row >= b.Y0/cellSide && row <= b.Y1/cellSide
			if d, _ := hilbert.Encode(p); has(rs, d) != met {
				t.Fatalf("P6.1: Of(%v) is %v; %d, of %v, is in it: %v", b, rs, d, p, !met)
			}
		}
	}
}

func TestOfWrongBoxes(t *testing.T) {
	wrong := []api.Box{
		boxOf(1, 0, 0, 0), boxOf(0, 1, 0, 0), boxOf(1, 1, 0, 0), boxOf(far, 0, far-1, far), boxOf(0, far, far, far-1), boxOf(far, far, 0, 0),
		boxOf(cellSide, 0, cellSide-1, 0), boxOf(0, cellSide, 0, cellSide-1),
	}
	for _, w := range wrongCoords() {
		for _, x := range []int{0, 1, far, w} {
			wrong = append(wrong, boxOf(w, x, far, far), boxOf(x, w, far, far), boxOf(0, 0, w, x), boxOf(0, 0, x, w), boxOf(w, w, x, x), boxOf(x, x, w, w))
		}
	}
	for _, b := range wrong {
		if rs, e := Of(b); len(rs) != 0 || e != api.ErrCoverForm {
			t.Errorf("P6.1: Of(%v) is %v, %d", b, rs, e)
		}
	}
}

// TestOfSharesNothing spoils what was answered, the room behind it too.
func TestOfSharesNothing(t *testing.T) {
	b := boxOf(0, 5*cellSide, far, 9*cellSide)
	first, second := coverOf(t, b), coverOf(t, b)
	kept := slices.Clone(first)
	room := first[:cap(first)]
	for i := range room {
		room[i] = api.Range{From: spare, To: spare}
	}
	if !slices.Equal(second, kept) {
		t.Errorf("R4: two answers of Of(%v) share memory", b)
	}
	if again := coverOf(t, b); !slices.Equal(again, kept) {
		t.Errorf("R4: behind a change of what was answered, Of(%v) is %v, not %v", b, again, kept)
	}
}

func TestMay(t *testing.T) {
	for name, rs := range rightRanges() {
		if !May(rs) {
			t.Errorf("P6.2: %s: May(%v) is false", name, rs)
		}
	}
	for name, rs := range wrongRanges() {
		if May(rs) {
			t.Errorf("P6.2: %s: May(%v) is true", name, rs)
		}
	}
}

// TestMayOfAllShortLists holds May against the chapter's words, for all lists of two ranges of few places at each end of the curve.
func TestMayOfAllShortLists(t *testing.T) {
	for _, first := range []int{-2, api.Curve - 3} {
		for n := range 6 * 6 * 6 * 6 {
			rs := rangesOf(first+n%6, first+n/6%6, first+n/36%6, first+n/216)
			want := true
			for _, r := range rs {
				want = want && r.From >= 0 && r.From < r.To && r.To <= api.Curve
			}
			want = want && rs[0].To < rs[1].From
			if May(rs) != want {
				t.Fatalf("P6.2: May(%v) is %v", rs, !want)
			}
		}
	}
}

// TestMixesOfAllSmallLists: all pairs of lists out of six pieces, laid at the curve's begin, at its end and over all of it.
func TestMixesOfAllSmallLists(t *testing.T) {
	const pieces = 6
	layouts := []func(int) int{
		itself,
		func(i int) int { return api.Curve - pieces + i },
		func(i int) int { return i * api.Curve / pieces },
		func(i int) int { return i*i*cellStretch + 7*i },
	}
	for _, at := range layouts {
		for n := range 1 << pieces {
			for m := range 1 << pieces {
				checkMixes(t, bitsOf(n, pieces), bitsOf(m, pieces), at)
			}
		}
	}
}

// TestMixesOfAnyLists: longer ones, single places and stretches.
func TestMixesOfAnyLists(t *testing.T) {
	r := rand.New(rand.NewSource(8))
	for range 400 {
		length := 1 + r.Intn(300)
		checkMixes(t, anyMarks(r, length), anyMarks(r, length), itself)
	}
}

// bitsOf are the lowest bits of n.
func bitsOf(n, count int) []bool {
	marks := make([]bool, count)
	for i := range marks {
		marks[i] = n>>i&1 == 1
	}
	return marks
}

// anyMarks are stretches, marked and not by turns, most of them short.
func anyMarks(r *rand.Rand, length int) []bool {
	marks := make([]bool, length)
	longest := 1 + r.Intn(9)
	marked := false
	for i, left := 0, 0; i < length; i, left = i+1, left-1 {
		if left <= 0 {
			marked, left = !marked, 1+r.Intn(longest)
		}
		marks[i] = marked
	}
	return marks
}

// checkMixes holds the mixes of two lists against those of their marks.
func checkMixes(t *testing.T, marksA, marksB []bool, at func(int) int) {
	t.Helper()
	a, b := rangesOfMarks(marksA, at), rangesOfMarks(marksB, at)
	for _, mix := range mixCalls() {
		marks := make([]bool, len(marksA))
		for i := range marks {
			marks[i] = mix.keep(marksA[i], marksB[i])
		}
		want := rangesOfMarks(marks, at)
		got, e := mix.call(a, b)
		if e != api.OK || !slices.Equal(got, want) {
			t.Fatalf("P6.2: %s(%v, %v) is %v, %d, not %v", mix.name, a, b, got, e, want)
		}
		if !May(got) {
			t.Fatalf("P6.2: %s(%v, %v) is %v, which may not be", mix.name, a, b, got)
		}
	}
}

func TestMixesOfKnownLists(t *testing.T) {
	whole := rangesOf(0, api.Curve)
	// What is wanted stands in the row of mixCalls.
	rows := []struct {
		a, b []api.Range
		want [3][]api.Range
	}{
		{nil, nil, [3][]api.Range{}},
		{nil, rangesOf(1, 2), [3][]api.Range{rangesOf(1, 2), nil, nil}},
		{rangesOf(1, 2), []api.Range{}, [3][]api.Range{rangesOf(1, 2), nil, rangesOf(1, 2)}},
		{rangesOf(1, 2), rangesOf(1, 2), [3][]api.Range{rangesOf(1, 2), rangesOf(1, 2), nil}},
		{rangesOf(1, 2), rangesOf(2, 3), [3][]api.Range{rangesOf(1, 3), nil, rangesOf(1, 2)}},
		{rangesOf(2, 3), rangesOf(1, 2), [3][]api.Range{rangesOf(1, 3), nil, rangesOf(2, 3)}},
		{rangesOf(1, 2, 3, 4), rangesOf(2, 3), [3][]api.Range{rangesOf(1, 4), nil, rangesOf(1, 2, 3, 4)}},
		{rangesOf(1, 4), rangesOf(2, 3), [3][]api.Range{rangesOf(1, 4), rangesOf(2, 3), rangesOf(1, 2, 3, 4)}},
		{rangesOf(2, 3), rangesOf(1, 4), [3][]api.Range{rangesOf(1, 4), rangesOf(2, 3), nil}},
		{rangesOf(1, 4), rangesOf(1, 2), [3][]api.Range{rangesOf(1, 4), rangesOf(1, 2), rangesOf(2, 4)}},
		{rangesOf(1, 4), rangesOf(3, 4), [3][]api.Range{rangesOf(1, 4), rangesOf(3, 4), rangesOf(1, 3)}},
		{rangesOf(1, 4), rangesOf(3, 6), [3][]api.Range{rangesOf(1, 6), rangesOf(3, 4), rangesOf(1, 3)}},
		{whole, nil, [3][]api.Range{whole, nil, whole}},
		{whole, whole, [3][]api.Range{whole, whole, nil}},
		{nil, whole, [3][]api.Range{whole, nil, nil}},
		{whole, rangesOf(0, 1, api.Curve-1, api.Curve), [3][]api.Range{whole, rangesOf(0, 1, api.Curve-1, api.Curve), rangesOf(1, api.Curve-1)}},
		{rangesOf(0, 1<<31), rangesOf(1<<31, api.Curve), [3][]api.Range{whole, nil, rangesOf(0, 1<<31)}},
	}
	for _, row := range rows {
		for i, mix := range mixCalls() {
			if got, e := mix.call(row.a, row.b); e != api.OK || !slices.Equal(got, row.want[i]) {
				t.Errorf("P6.2: %s(%v, %v) is %v, %d, not %v", mix.name, row.a, row.b, got, e, row.want[i])
			}
		}
	}
}

// TestMixesOfCovers: a cover and what the whole curve has beside it.
func TestMixesOfCovers(t *testing.T) {
	whole := rangesOf(0, api.Curve)
	for _, b := range anyBoxes(300) {
		in := coverOf(t, b)
		out, e := Less(whole, in)
		if e != api.OK {
			t.Fatalf("P6.2: Less of the cover of %v is refused: %d", b, e)
		}
		if all, e := Union(out, in); e != api.OK || !slices.Equal(all, whole) {
			t.Fatalf("P6.2: %v and the rest of the curve have %v, %d", in, all, e)
		}
		if both, e := Common(in, out); e != api.OK || len(both) != 0 {
			t.Fatalf("P6.2: %v and the rest of the curve have %v, %d in common", in, both, e)
		}
		if back, e := Less(whole, out); e != api.OK || !slices.Equal(back, in) {
			t.Fatalf("P6.2: the rest of the rest of the curve is %v, %d, not %v", back, e, in)
		}
	}
}

func TestMixesOfWrongLists(t *testing.T) {
	for _, mix := range mixCalls() {
		for wrongName, wrong := range wrongRanges() {
			for rightName, right := range rightRanges() {
				if rs, e := mix.call(wrong, right); len(rs) != 0 || e != api.ErrCoverForm {
					t.Errorf("P6.2: %s of %q and %q is %v, %d", mix.name, wrongName, rightName, rs, e)
				}
				if rs, e := mix.call(right, wrong); len(rs) != 0 || e != api.ErrCoverForm {
					t.Errorf("P6.2: %s of %q and %q is %v, %d", mix.name, rightName, wrongName, rs, e)
				}
			}
			if rs, e := mix.call(wrong, wrong); len(rs) != 0 || e != api.ErrCoverForm {
				t.Errorf("P6.2: %s of %q twice is %v, %d", mix.name, wrongName, rs, e)
			}
		}
	}
}

// TestMixesOfLongLists end only if the work grows no faster than the lists.
func TestMixesOfLongLists(t *testing.T) {
	const count = 400000
	a, b := make([]api.Range, count), make([]api.Range, count)
	for i := range count {
		a[i] = api.Range{From: 4 * i, To: 4*i + 2}
		b[i] = api.Range{From: 4*i + 1, To: 4*i + 3}
	}
	widths := map[string][2]int{"Union": {0, 3}, "Common": {1, 2}, "Less": {0, 1}}
	for _, mix := range mixCalls() {
		got, e := mix.call(a, b)
		if e != api.OK || len(got) != count {
			t.Fatalf("P6.2: %s of long lists has %d ranges, %d", mix.name, len(got), e)
		}
		for i, r := range got {
			if want := (api.Range{From: 4*i + widths[mix.name][0], To: 4*i + widths[mix.name][1]}); r != want {
				t.Fatalf("P6.2: %s of long lists has %v, not %v", mix.name, r, want)
			}
		}
	}
}

func TestHas(t *testing.T) {
	edges := []int{math.MinInt, -1 << 32, -2, -1, 0, 1, 2, 3, 4, 5, 6, 7, 8, 9, 10, 99, 100, 101, 102, 103, 1<<31 - 1, 1 << 31, 1<<31 + 1, api.Curve - 2, api.Curve - 1, api.Curve, api.Curve + 1, math.MaxInt - 1, math.MaxInt}
	for name, rs := range rightRanges() {
		for _, d := range edges {
			if Has(rs, d) != has(rs, d) {
				t.Errorf("P6.2: %s: Has(%v, %d) is %v", name, rs, d, Has(rs, d))
			}
		}
	}
	known := []struct {
		rs   []api.Range
		d    int
		want bool
	}{
		{nil, 0, false}, {[]api.Range{}, 0, false},
		{rangesOf(0, 1), 0, true}, {rangesOf(0, 1), 1, false}, {rangesOf(0, 1), -1, false},
		{rangesOf(5, 8), 4, false}, {rangesOf(5, 8), 5, true}, {rangesOf(5, 8), 7, true}, {rangesOf(5, 8), 8, false},
		{rangesOf(0, 1, 2, 3), 1, false}, {rangesOf(0, 1, 2, 3), 2, true}, {rangesOf(0, 1, 2, 3), 3, false},
		{rangesOf(0, api.Curve), api.Curve - 1, true}, {rangesOf(0, api.Curve), api.Curve, false}, {rangesOf(0, api.Curve), -1, false},
	}
	for _, k := range known {
		if got := Has(k.rs, k.d); got != k.want {
			t.Errorf("P6.2: Has(%v, %d) is %v", k.rs, k.d, got)
		}
	}
}

// TestHasOfWrongLists: the chapter asks of no list whether it may be, so each range is read as it stands.
func TestHasOfWrongLists(t *testing.T) {
	for name, rs := range wrongRanges() {
		for _, d := range []int{math.MinInt, -2, -1, 0, 1, 2, 3, 4, 5, 6, 7, 8, 9, api.Curve - 1, api.Curve, api.Curve + 1, api.Curve + 2, math.MaxInt - 1, math.MaxInt} {
			if Has(rs, d) != has(rs, d) {
				t.Errorf("P6.2: %s: Has(%v, %d) is %v", name, rs, d, Has(rs, d))
			}
		}
	}
}

// guarded is a copy of rs with marked room behind its end.
func guarded(rs []api.Range) []api.Range {
	room := make([]api.Range, len(rs)+4)
	copy(room, rs)
	for i := len(rs); i < len(room); i++ {
		room[i] = api.Range{From: spare, To: spare}
	}
	return room[:len(rs)]
}

// untouched tells whether what guarded made of rs is as it was, the room with it.
func untouched(made, rs []api.Range) bool {
	return slices.Equal(made[:cap(made)], guarded(rs)[:len(rs)+4])
}

// TestNothingIsChanged hands each list in with room behind it, right ones and wrong ones.
func TestNothingIsChanged(t *testing.T) {
	lists := [][]api.Range{}
	for _, all := range []map[string][]api.Range{rightRanges(), wrongRanges()} {
		for _, rs := range all {
			lists = append(lists, rs)
		}
	}
	for _, one := range lists {
		for _, other := range lists {
			a, b := guarded(one), guarded(other)
			for _, mix := range mixCalls() {
				mix.call(a, b)
				mix.call(b, a)
				mix.call(a, a)
			}
			May(a)
			Has(a, 3)
			if !untouched(a, one) || !untouched(b, other) {
				t.Fatalf("R4: of %v and %v there is left %v and %v", one, other, a[:cap(a)], b[:cap(b)])
			}
		}
	}
}

// TestMixesShareNothing spoils what was answered, the room behind it too.
func TestMixesShareNothing(t *testing.T) {
	for _, mix := range mixCalls() {
		for _, one := range rightRanges() {
			for _, other := range rightRanges() {
				a, b := guarded(one), guarded(other)
				first, _ := mix.call(a, b)
				kept := slices.Clone(first)
				second, _ := mix.call(a, b)
				room := first[:cap(first)]
				for i := range room {
					room[i] = api.Range{From: spare - 1, To: spare - 1}
				}
				if !untouched(a, one) || !untouched(b, other) {
					t.Fatalf("R4: %s(%v, %v) shares memory with what came in", mix.name, one, other)
				}
				if !slices.Equal(second, kept) {
					t.Fatalf("R4: two answers of %s(%v, %v) share memory", mix.name, one, other)
				}
			}
		}
	}
}

func TestTogether(t *testing.T) {
	var wait sync.WaitGroup
	a, b := rangesOf(0, 4, 8, 12), rangesOf(2, 9)
	var right [16]bool
	for i := range right {
		wait.Add(1)
		go func() {
			defer wait.Done()
			all, _ := Of(boxOf(0, 0, far, far))
			u, _ := Union(a, b)
			c, _ := Common(a, b)
			l, _ := Less(a, b)
			right[i] = slices.Equal(all, rangesOf(0, api.Curve)) && slices.Equal(u, rangesOf(0, 12)) &&
				slices.Equal(c, rangesOf(2, 4, 8, 9)) && slices.Equal(l, rangesOf(0, 2, 9, 12)) && May(a) && Has(b, i) == (i >= 2 && i < 9)
		}()
	}
	wait.Wait()
	for i, ok := range right {
		if !ok {
			t.Errorf("R5: goroutine %d has another answer", i)
		}
	}
}

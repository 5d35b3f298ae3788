package hilbert

import (
	"math"
	"math/rand"
	"sync"
	"testing"

	"furlong/api"
)

const (
	far      = api.MaxCoord
	cellSide = 65536
	topLevel = 16
	// walkLevel is the greatest level whose cells are all walked.
	walkLevel = 8
)

type cell struct{ x, y int }

// turtle walks the curve by turns and steps alone, and keeps the cells that it comes through.
type turtle struct {
	at   cell
	step cell
	seen []cell
}

func (w *turtle) left()  { w.step = cell{-w.step.y, w.step.x} }
func (w *turtle) right() { w.step = cell{w.step.y, -w.step.x} }

func (w *turtle) forward() {
	w.at = cell{w.at.x + w.step.x, w.at.y + w.step.y}
	w.seen = append(w.seen, w.at)
}

// draw walks a level's curve: in is the turn with which it begins, out the other one.
func (w *turtle) draw(level int, in func(), out func()) {
	if level == 0 {
		return
	}
	in()
	w.draw(level-1, out, in)
	w.forward()
	out()
	w.draw(level-1, in, out)
	w.forward()
	w.draw(level-1, in, out)
	out()
	w.forward()
	w.draw(level-1, out, in)
	in()
}

// walked are a level's cells in the row of the curve, from 0, 0 with the first quarter above it.
func walked(level int) []cell {
	w := &turtle{step: cell{1, 0}, seen: []cell{{}}}
	w.draw(level, w.left, w.right)
	return w.seen
}

// reckoned is the chapter's rule, by products and remainders.
func reckoned(x, y, level int) int {
	d := 0
	for s := int(math.Pow(2, float64(level-1))); s >= 1; s /= 2 {
		rx, ry := x/s%2, y/s%2
		d += s * s * ((3 * rx) ^ ry)
		x, y = x%s, y%s
		if ry == 0 {
			if rx == 1 {
				x, y = s-1-x, s-1-y
			}
			x, y = y, x
		}
	}
	return d
}

// power is 2 by n, by doubling.
func power(n int) int {
	p := 1
	for range n {
		p *= 2
	}
	return p
}

func neighbors(a, b cell) bool {
	dx, dy := a.x-b.x, a.y-b.y
	return dx*dx+dy*dy == 1
}

// indexOfCell is Cell of what may be.
func indexOfCell(t *testing.T, x, y, level int) int {
	t.Helper()
	d, e := Cell(x, y, level)
	if e != api.OK {
		t.Fatalf("P5.1: Cell(%d, %d, %d) is refused: %d", x, y, level, e)
	}
	return d
}

// cellOfIndex is the cell of what Decode answers of what may be.
func cellOfIndex(t *testing.T, d int) cell {
	t.Helper()
	p, e := Decode(d)
	if e != api.OK || p.X%cellSide != 0 || p.Y%cellSide != 0 {
		t.Fatalf("P5.2: Decode(%d) is %v, %d", d, p, e)
	}
	return cell{p.X / cellSide, p.Y / cellSide}
}

// edgeIndexes are those at which a quarter ends or begins, of any level, with some about them.
func edgeIndexes() []int {
	all := []int{0, 1, 2, 3, api.Curve - 1, api.Curve - 2}
	for level := range topLevel {
		quarter := power(2 * level)
		for _, n := range []int{1, 2, 3} {
			for _, by := range []int{-2, -1, 0, 1} {
				all = append(all, max(n*quarter+by, 0), api.Curve-1-max(n*quarter+by, 0))
			}
		}
	}
	return all
}

// anyIndexes are the edges and a row of others.
func anyIndexes() []int {
	all := edgeIndexes()
	r := rand.New(rand.NewSource(5))
	for range 20000 {
		all = append(all, int(r.Uint32()))
	}
	return all
}

// wrongNumbers lie outside of 0 below bound; the later ones would be inside, if bits were lost.
func wrongNumbers(bound int) []int {
	return []int{-1, bound, -2, bound + 1, -bound, 2 * bound, 2*bound - 1, -bound - 1, 1 << 32, 1<<32 + 1, 1 << 33, -1 << 32, 1 << 62, -1 << 62, math.MinInt, math.MinInt + 1, math.MaxInt}
}

func TestCellOfKnownCells(t *testing.T) {
	known := map[int][]cell{
		1: {{0, 0}, {0, 1}, {1, 1}, {1, 0}},
		2: {{0, 0}, {1, 0}, {1, 1}, {0, 1}, {0, 2}, {0, 3}, {1, 3}, {1, 2}, {2, 2}, {2, 3}, {3, 3}, {3, 2}, {3, 1}, {2, 1}, {2, 0}, {3, 0}},
	}
	for level, cells := range known {
		for d, c := range cells {
			if got := indexOfCell(t, c.x, c.y, level); got != d {
				t.Errorf("P5.1: Cell(%d, %d, %d) is %d, not %d", c.x, c.y, level, got, d)
			}
		}
	}
}

func TestCellOfCorners(t *testing.T) {
	for level := 1; level <= topLevel; level++ {
		last, third := power(level)-1, (power(2*level)-1)/3
		known := []struct{ x, y, want int }{{0, 0, 0}, {0, last, third}, {last, last, 2 * third}, {last, 0, 3 * third}}
		for _, k := range known {
			if got := indexOfCell(t, k.x, k.y, level); got != k.want {
				t.Errorf("P5.1: Cell(%d, %d, %d) is %d, not %d", k.x, k.y, level, got, k.want)
			}
		}
	}
}

// TestCellOfAllCellsOfLowLevels holds Cell against the turtle's walk; so each cell has an index of its own.
func TestCellOfAllCellsOfLowLevels(t *testing.T) {
	for level := 1; level <= walkLevel; level++ {
		cells := walked(level)
		if len(cells) != power(2*level) {
			t.Fatalf("the walk of level %d has %d cells", level, len(cells))
		}
		for d, c := range cells {
			if got := indexOfCell(t, c.x, c.y, level); got != d {
				t.Fatalf("P5.1: Cell(%d, %d, %d) is %d, not %d", c.x, c.y, level, got, d)
			}
		}
	}
}

func TestEachCellHasAnIndexOfItsOwn(t *testing.T) {
	for level := 1; level <= walkLevel; level++ {
		side := power(level)
		taken := make([]bool, side*side)
		for x := range side {
			for y := range side {
				d := indexOfCell(t, x, y, level)
				if d < 0 || d >= side*side {
					t.Fatalf("P5.1: Cell(%d, %d, %d) is %d", x, y, level, d)
				}
				if taken[d] {
					t.Fatalf("P5.1: Cell(%d, %d, %d) is %d, another cell's", x, y, level, d)
				}
				taken[d] = true
			}
		}
	}
}

func TestCellOfAnyCells(t *testing.T) {
	r := rand.New(rand.NewSource(1))
	for level := 1; level <= topLevel; level++ {
		side := power(level)
		sides := []int{0, 1, side / 2, side/2 - 1, side - 2, side - 1}
		for range 60 {
			sides = append(sides, r.Intn(side))
		}
		for _, x := range sides {
			for _, y := range sides {
				if got, want := indexOfCell(t, x, y, level), reckoned(x, y, level); got != want {
					t.Fatalf("P5.1: Cell(%d, %d, %d) is %d, not %d", x, y, level, got, want)
				}
			}
		}
	}
}

func TestCellOfWrongLevels(t *testing.T) {
	wrong := []int{0, 17, -1, 18, -16, 31, 32, 33, 63, 64, 65, 1 << 32, 1<<32 + 1, 1<<33 + 16, -1 << 32, math.MinInt, math.MinInt + 1, math.MaxInt}
	for _, level := range wrong {
		for _, x := range []int{0, 1, -1, 65535, math.MinInt, math.MaxInt} {
			for _, y := range []int{0, 1, -1, 65535, math.MinInt, math.MaxInt} {
				if d, e := Cell(x, y, level); d != 0 || e != api.ErrHilbertForm {
					t.Errorf("P5.1: Cell(%d, %d, %d) is %d, %d", x, y, level, d, e)
				}
			}
		}
	}
}

func TestCellOfWrongCells(t *testing.T) {
	for level := 1; level <= topLevel; level++ {
		side := power(level)
		for _, w := range wrongNumbers(side) {
			for _, x := range []int{0, 1, side - 1, w} {
				for _, c := range []cell{{w, x}, {x, w}} {
					if d, e := Cell(c.x, c.y, level); d != 0 || e != api.ErrHilbertForm {
						t.Errorf("P5.1: Cell(%d, %d, %d) is %d, %d", c.x, c.y, level, d, e)
					}
				}
			}
		}
	}
}

func TestEncodeOfKnownPlaces(t *testing.T) {
	known := []struct {
		p    api.Point
		want int
	}{
		{api.Point{}, 0},
		{api.Point{X: 65535}, 0},
		{api.Point{Y: 65535}, 0},
		{api.Point{X: 65535, Y: 65535}, 0},
		{api.Point{X: 65536}, 1},
		{api.Point{X: 65536, Y: 65535}, 1},
		{api.Point{X: 131071}, 1},
		{api.Point{X: 65536, Y: 65536}, 2},
		{api.Point{X: 131071, Y: 131071}, 2},
		{api.Point{Y: 65536}, 3},
		{api.Point{X: 65535, Y: 65536}, 3},
		{api.Point{Y: 131072}, 4},
		{api.Point{X: 65536, Y: 131072}, 7},
		{api.Point{X: 131072, Y: 131072}, 8},
		{api.Point{X: 1 << 31, Y: 1 << 31}, 1 << 31},
		{api.Point{Y: far}, 0x55555555},
		{api.Point{X: 65535, Y: far}, 0x55555555},
		{api.Point{X: far, Y: far}, 0xAAAAAAAA},
		{api.Point{X: far}, api.Curve - 1},
		{api.Point{X: far, Y: 65535}, api.Curve - 1},
		{api.Point{X: far - 65535}, api.Curve - 1},
		{api.Point{X: far - 65536}, api.Curve - 2},
		{api.Point{X: far - 65536, Y: 65536}, api.Curve - 3},
		{api.Point{X: far, Y: 65536}, api.Curve - 4},
	}
	for _, k := range known {
		if got, e := Encode(k.p); got != k.want || e != api.OK {
			t.Errorf("P5.2: Encode(%v) is %d, %d, not %d", k.p, got, e, k.want)
		}
	}
}

func TestEncodeOfAnyPlaces(t *testing.T) {
	r := rand.New(rand.NewSource(2))
	sides := []int{0, 1, 65534, 65535, 65536, 65537, 131071, 131072, 1<<31 - 1, 1 << 31, far - 65536, far - 65535, far - 1, far}
	for range 120 {
		sides = append(sides, int(r.Uint32()))
	}
	for _, x := range sides {
		for _, y := range sides {
			want := reckoned(x/cellSide, y/cellSide, topLevel)
			if got, e := Encode(api.Point{X: x, Y: y}); got != want || e != api.OK {
				t.Fatalf("P5.2: Encode of %d, %d is %d, %d, not %d", x, y, got, e, want)
			}
		}
	}
}

func TestEncodeOfWrongPlaces(t *testing.T) {
	for _, w := range wrongNumbers(far + 1) {
		for _, x := range []int{0, 1, 65535, 65536, far, w} {
			for _, p := range []api.Point{{X: w, Y: x}, {X: x, Y: w}} {
				if d, e := Encode(p); d != 0 || e != api.ErrHilbertForm {
					t.Errorf("P5.2: Encode(%v) is %d, %d", p, d, e)
				}
			}
		}
	}
}

func TestDecodeOfKnownIndexes(t *testing.T) {
	last := far - 65535
	known := []struct {
		d    int
		want api.Point
	}{
		{0, api.Point{}},
		{1, api.Point{X: 65536}},
		{2, api.Point{X: 65536, Y: 65536}},
		{3, api.Point{Y: 65536}},
		{4, api.Point{Y: 131072}},
		{8, api.Point{X: 131072, Y: 131072}},
		{1 << 31, api.Point{X: 1 << 31, Y: 1 << 31}},
		{0x55555555, api.Point{Y: last}},
		{0xAAAAAAAA, api.Point{X: last, Y: last}},
		{api.Curve - 4, api.Point{X: last, Y: 65536}},
		{api.Curve - 2, api.Point{X: last - 65536}},
		{api.Curve - 1, api.Point{X: last}},
	}
	for _, k := range known {
		if got, e := Decode(k.d); got != k.want || e != api.OK {
			t.Errorf("P5.2: Decode(%d) is %v, %d, not %v", k.d, got, e, k.want)
		}
	}
}

// TestDecodeAndBack: an index's cell has that index, at each of its corners, and by the chapter's rule.
func TestDecodeAndBack(t *testing.T) {
	for _, d := range anyIndexes() {
		c := cellOfIndex(t, d)
		if c.x < 0 || c.x >= cellSide || c.y < 0 || c.y >= cellSide || reckoned(c.x, c.y, topLevel) != d {
			t.Fatalf("P5.2: Decode(%d) is of cell %v", d, c)
		}
		for _, in := range []cell{{0, 0}, {65535, 0}, {0, 65535}, {65535, 65535}, {d % cellSide, d / cellSide}} {
			p := api.Point{X: c.x*cellSide + in.x, Y: c.y*cellSide + in.y}
			if got, e := Encode(p); got != d || e != api.OK {
				t.Fatalf("P5.2: Encode(%v), of cell %v, is %d, %d, not %d", p, c, got, e, d)
			}
		}
		if got := indexOfCell(t, c.x, c.y, topLevel); got != d {
			t.Fatalf("P5.2: Cell(%d, %d, %d) is %d, Decode's was %d", c.x, c.y, topLevel, got, d)
		}
	}
}

// TestEncodeAndBack: a place's index is decoded to the first place of its cell.
func TestEncodeAndBack(t *testing.T) {
	r := rand.New(rand.NewSource(3))
	for range 20000 {
		p := api.Point{X: int(r.Uint32()), Y: int(r.Uint32())}
		d, e := Encode(p)
		if e != api.OK {
			t.Fatalf("P5.2: Encode(%v) is refused: %d", p, e)
		}
		want := api.Point{X: p.X - p.X%cellSide, Y: p.Y - p.Y%cellSide}
		if got, e := Decode(d); got != want || e != api.OK {
			t.Fatalf("P5.2: Decode(%d), Encode's of %v, is %v, %d, not %v", d, p, got, e, want)
		}
	}
}

func TestDecodeOfWrongIndexes(t *testing.T) {
	for _, d := range wrongNumbers(api.Curve) {
		if p, e := Decode(d); p != (api.Point{}) || e != api.ErrHilbertForm {
			t.Errorf("P5.2: Decode(%d) is %v, %d", d, p, e)
		}
	}
}

func TestNeighborsOfLowLevels(t *testing.T) {
	for level := 1; level <= walkLevel; level++ {
		side := power(level)
		cells := make([]cell, side*side)
		for x := range side {
			for y := range side {
				cells[indexOfCell(t, x, y, level)] = cell{x, y}
			}
		}
		for d := range len(cells) - 1 {
			if !neighbors(cells[d], cells[d+1]) {
				t.Fatalf("P5.3: level %d: %d is cell %v, %d cell %v", level, d, cells[d], d+1, cells[d+1])
			}
		}
	}
}

func TestNeighborsOnTheGrid(t *testing.T) {
	for _, d := range anyIndexes() {
		if d == api.Curve-1 {
			continue
		}
		if here, next := cellOfIndex(t, d), cellOfIndex(t, d+1); !neighbors(here, next) {
			t.Fatalf("P5.3: %d is cell %v, %d cell %v", d, here, d+1, next)
		}
	}
}

// TestFirstBits holds each level's index against that of level 16, and each against that of the level below it.
func TestFirstBits(t *testing.T) {
	for _, d := range anyIndexes() {
		c := cellOfIndex(t, d)
		for level := 1; level <= topLevel; level++ {
			rest := power(topLevel - level)
			if got := indexOfCell(t, c.x/rest, c.y/rest, level); got != d/(rest*rest) {
				t.Fatalf("P5.3: cell %v of index %d has, by its first %d bits, %d", c, d, level, got)
			}
		}
	}
}

func TestFirstBitsOfLowLevels(t *testing.T) {
	for level := 2; level <= walkLevel; level++ {
		for x := range power(level) {
			for y := range power(level) {
				if whole, first := indexOfCell(t, x, y, level), indexOfCell(t, x/2, y/2, level-1); whole/4 != first {
					t.Fatalf("P5.3: Cell(%d, %d, %d) is %d, its first bits' is %d", x, y, level, whole, first)
				}
			}
		}
	}
}

func TestTogether(t *testing.T) {
	var wait sync.WaitGroup
	var cells [16]int
	var back [16]int
	for i := range cells {
		wait.Add(1)
		go func() {
			defer wait.Done()
			cells[i], _ = Cell(i, i, topLevel)
			p, _ := Decode(i * 268435455)
			back[i], _ = Encode(p)
		}()
	}
	wait.Wait()
	for i := range cells {
		if cells[i] != reckoned(i, i, topLevel) || back[i] != i*268435455 {
			t.Errorf("R5: goroutine %d: %d, %d", i, cells[i], back[i])
		}
	}
}

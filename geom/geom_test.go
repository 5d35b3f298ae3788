package geom

import (
	"math"
	"math/big"
	"math/rand"
	"sync"
	"testing"

	"furlong/api"
)

const (
	far  = api.MaxCoord
	side = 4
	// third takes a grid of four by four to one whose corners are those of the whole grid.
	third = far / 3
)

// allOfGrid is the box of the whole grid.
func allOfGrid() api.Box {
	return api.Box{X1: far, Y1: far}
}

// smallPoints are the places of a grid of four by four.
func smallPoints() []api.Point {
	var all []api.Point
	for x := range side {
		for y := range side {
			all = append(all, api.Point{X: x, Y: y})
		}
	}
	return all
}

// smallBoxes are all boxes of a grid of four by four.
func smallBoxes() []api.Box {
	var all []api.Box
	for _, p := range smallPoints() {
		for _, q := range smallPoints() {
			if p.X <= q.X && p.Y <= q.Y {
				all = append(all, api.Box{X0: p.X, Y0: p.Y, X1: q.X, Y1: q.Y})
			}
		}
	}
	return all
}

// edgePoints are the points at which a product, a sign or a border could go wrong.
func edgePoints() []api.Point {
	var all []api.Point
	edges := []int{0, 1, 2, 1<<31 - 1, 1 << 31, far - 1, far}
	for _, x := range edges {
		for _, y := range edges {
			all = append(all, api.Point{X: x, Y: y})
		}
	}
	return all
}

// wrongCoords are no coordinates; the later ones would be, if bits were lost.
func wrongCoords() []int {
	return []int{-1, far + 1, -2, far + 2, far + 3, 1<<33 + 1, -far, -1 << 32, 1<<63 - 1<<32, math.MinInt, math.MinInt + 1, math.MaxInt}
}

func wrongPoints() []api.Point {
	var all []api.Point
	for _, w := range wrongCoords() {
		for _, x := range []int{0, 1, far} {
			all = append(all, api.Point{X: w, Y: x}, api.Point{X: x, Y: w})
		}
		all = append(all, api.Point{X: w, Y: w})
	}
	return all
}

func wrongBoxes() []api.Box {
	all := []api.Box{
		{X0: 1}, {Y0: 1}, {X0: 1, Y0: 1}, {X0: 1, Y1: far}, {Y0: 1, X1: far},
		{X0: far, X1: far - 1, Y1: far}, {Y0: far, Y1: far - 1, X1: far}, {X0: far, Y0: far}, {X0: 3, Y0: 2, X1: 2, Y1: 2}, {X0: 2, Y0: 3, X1: 2, Y1: 2},
		{X0: -1, Y0: -1, X1: -1, Y1: -1}, {X0: far + 1, Y0: far + 1, X1: far + 1, Y1: far + 1}, {X0: -1, Y0: -1, X1: far + 1, Y1: far + 1},
		{X0: math.MinInt, Y0: math.MinInt, X1: math.MaxInt, Y1: math.MaxInt},
		{X0: math.MaxInt, Y0: math.MaxInt, X1: math.MinInt, Y1: math.MinInt},
	}
	for _, w := range wrongCoords() {
		all = append(all,
			api.Box{X0: w, X1: far, Y1: far}, api.Box{Y0: w, X1: far, Y1: far},
			api.Box{X1: w, Y1: far}, api.Box{X1: far, Y1: w},
			api.Box{X0: w, X1: w, Y1: far}, api.Box{Y0: w, X1: far, Y1: w})
	}
	return all
}

// places are those of a small box.
func places(b api.Box) []api.Point {
	var all []api.Point
	for x := b.X0; x <= b.X1; x++ {
		for y := b.Y0; y <= b.Y1; y++ {
			all = append(all, api.Point{X: x, Y: y})
		}
	}
	return all
}

// isIn tells whether p is a place of a small box.
func isIn(p api.Point, b api.Box) bool {
	for _, q := range places(b) {
		if p == q {
			return true
		}
	}
	return false
}

func times(p api.Point, n int) api.Point {
	return api.Point{X: n * p.X, Y: n * p.Y}
}

func boxTimes(b api.Box, n int) api.Box {
	return api.Box{X0: n * b.X0, Y0: n * b.Y0, X1: n * b.X1, Y1: n * b.Y1}
}

func minus(p, q api.Point) api.Point {
	return api.Point{X: p.X - q.X, Y: p.Y - q.Y}
}

// bigTurn is Turn by great numbers.
func bigTurn(a, b, c api.Point) int {
	u, v := minus(b, a), minus(c, a)
	first := new(big.Int).Mul(big.NewInt(int64(u.X)), big.NewInt(int64(v.Y)))
	return first.Cmp(new(big.Int).Mul(big.NewInt(int64(u.Y)), big.NewInt(int64(v.X))))
}

// lies tells whether p lies on the stretch from a to b, all of them small.
func lies(p, a, b api.Point) bool {
	u, v := minus(a, p), minus(b, p)
	return u.X*v.Y == u.Y*v.X && u.X*v.X+u.Y*v.Y <= 0
}

// common is Cross of small points: lines that are not parallel meet at a whole number of den-th parts of a stretch, so all of these are looked at.
func common(a, b, c, d api.Point) bool {
	if lies(a, c, d) || lies(b, c, d) || lies(c, a, b) || lies(d, a, b) {
		return true
	}
	u, v := minus(b, a), minus(d, c)
	den := max(u.X*v.Y-u.Y*v.X, u.Y*v.X-u.X*v.Y)
	for k := range den {
		at := api.Point{X: den*a.X + k*u.X, Y: den*a.Y + k*u.Y}
		if lies(at, times(c, den), times(d, den)) {
			return true
		}
	}
	return false
}

func checkTurn(t *testing.T, a, b, c api.Point) {
	t.Helper()
	if got, e := Turn(a, b, c); got != bigTurn(a, b, c) || e != api.OK {
		t.Fatalf("P3.2: Turn(%v, %v, %v) is %d, %d, not %d", a, b, c, got, e, bigTurn(a, b, c))
	}
}

// checkCross asks in all eight orders of the stretches and their ends.
func checkCross(t *testing.T, a, b, c, d api.Point, want bool) {
	t.Helper()
	orders := [][4]api.Point{{a, b, c, d}, {b, a, c, d}, {a, b, d, c}, {b, a, d, c}, {c, d, a, b}, {d, c, a, b}, {c, d, b, a}, {d, c, b, a}}
	for _, o := range orders {
		if got, e := Cross(o[0], o[1], o[2], o[3]); got != want || e != api.OK {
			t.Fatalf("P3.2: Cross(%v, %v, %v, %v) is %v, %d, not %v", o[0], o[1], o[2], o[3], got, e, want)
		}
	}
}

func TestPointMay(t *testing.T) {
	may := append(smallPoints(), edgePoints()...)
	may = append(may, api.Point{X: 123456789, Y: 987654321})
	for _, p := range may {
		if !PointMay(p) {
			t.Errorf("P3.1: %v may not be", p)
		}
	}
	for _, p := range wrongPoints() {
		if PointMay(p) {
			t.Errorf("P3.1: %v may be", p)
		}
	}
}

func TestBoxMay(t *testing.T) {
	may := append(smallBoxes(), allOfGrid(), api.Box{X0: 5, Y0: 7, X1: 60, Y1: 80})
	for _, p := range edgePoints() {
		for _, q := range edgePoints() {
			b := api.Box{X0: p.X, Y0: p.Y, X1: q.X, Y1: q.Y}
			if got, want := BoxMay(b), p.X <= q.X && p.Y <= q.Y; got != want {
				t.Errorf("P3.1: BoxMay(%v) is %v", b, got)
			}
		}
	}
	for _, b := range may {
		if !BoxMay(b) {
			t.Errorf("P3.1: %v may not be", b)
		}
	}
	for _, b := range wrongBoxes() {
		if BoxMay(b) {
			t.Errorf("P3.1: %v may be", b)
		}
	}
}

func TestTurnOfKnownPoints(t *testing.T) {
	known := []struct {
		a, b, c api.Point
		want    int
	}{
		{api.Point{X: 1, Y: 1}, api.Point{X: 3, Y: 1}, api.Point{X: 2, Y: 2}, 1},
		{api.Point{X: 1, Y: 1}, api.Point{X: 3, Y: 1}, api.Point{X: 2, Y: 0}, -1},
		{api.Point{X: 1, Y: 1}, api.Point{X: 3, Y: 1}, api.Point{X: 9, Y: 1}, 0},
		{api.Point{X: 3, Y: 1}, api.Point{X: 1, Y: 1}, api.Point{X: 2, Y: 2}, -1},
		{api.Point{X: 2, Y: 4}, api.Point{X: 4, Y: 8}, api.Point{X: 1, Y: 2}, 0},
		{api.Point{X: 5, Y: 5}, api.Point{X: 5, Y: 5}, api.Point{X: 1, Y: 2}, 0},
		{api.Point{X: 5, Y: 5}, api.Point{X: 1, Y: 2}, api.Point{X: 5, Y: 5}, 0},
		{api.Point{}, api.Point{X: far}, api.Point{Y: far}, 1},
		{api.Point{}, api.Point{Y: far}, api.Point{X: far}, -1},
		{api.Point{X: far, Y: far}, api.Point{Y: far}, api.Point{X: far}, 1},
		{api.Point{X: far, Y: far}, api.Point{X: far}, api.Point{Y: far}, -1},
		{api.Point{X: far}, api.Point{Y: far}, api.Point{}, 1},
		{api.Point{}, api.Point{X: far, Y: far}, api.Point{X: far - 1, Y: far - 1}, 0},
		{api.Point{}, api.Point{X: far, Y: far}, api.Point{X: far - 1, Y: far}, 1},
		{api.Point{}, api.Point{X: far, Y: far}, api.Point{X: far, Y: far - 1}, -1},
		// The products are (2^32 - 2)^2 and one less: as floats they are the same.
		{api.Point{}, api.Point{X: far - 1, Y: far}, api.Point{X: far - 2, Y: far - 1}, 1},
		{api.Point{}, api.Point{X: far, Y: far - 1}, api.Point{X: far - 1, Y: far - 2}, -1},
		{api.Point{X: far}, api.Point{X: 1, Y: far}, api.Point{X: 2, Y: far - 1}, -1},
	}
	for _, k := range known {
		if got, e := Turn(k.a, k.b, k.c); got != k.want || e != api.OK {
			t.Errorf("P3.2: Turn(%v, %v, %v) is %d, %d, not %d", k.a, k.b, k.c, got, e, k.want)
		}
	}
}

func TestTurnAtTheEdges(t *testing.T) {
	points := edgePoints()
	for _, a := range points {
		for _, b := range points {
			for _, c := range points {
				checkTurn(t, a, b, c)
			}
		}
	}
}

func TestTurnOfAnyPoints(t *testing.T) {
	r := rand.New(rand.NewSource(1))
	point := func() api.Point { return api.Point{X: int(r.Uint32()), Y: int(r.Uint32())} }
	for range 20000 {
		a, b := point(), point()
		checkTurn(t, a, b, point())
		// Nearly in one line.
		middle := api.Point{X: (a.X + b.X) / 2, Y: (a.Y + b.Y) / 2}
		checkTurn(t, a, b, middle)
		checkTurn(t, middle, a, b)
	}
}

func TestTurnOfWrongPoints(t *testing.T) {
	p, q := api.Point{X: 7, Y: 1}, api.Point{X: 2, Y: 9}
	for _, w := range wrongPoints() {
		for _, row := range [][3]api.Point{{w, p, q}, {p, w, q}, {p, q, w}, {w, w, p}, {w, p, w}, {p, w, w}, {w, w, w}} {
			if got, e := Turn(row[0], row[1], row[2]); got != 0 || e != api.ErrGeomForm {
				t.Errorf("P3.2: Turn(%v) is %d, %d", row, got, e)
			}
		}
	}
}

func TestCrossOfKnownStretches(t *testing.T) {
	known := []struct {
		what       string
		a, b, c, d api.Point
		want       bool
	}{
		{"an X", api.Point{}, api.Point{X: 4, Y: 4}, api.Point{Y: 4}, api.Point{X: 4}, true},
		{"an X between places of the grid", api.Point{}, api.Point{X: 1, Y: 1}, api.Point{Y: 1}, api.Point{X: 1}, true},
		{"a T", api.Point{}, api.Point{X: 4}, api.Point{X: 2}, api.Point{X: 2, Y: 3}, true},
		{"nearly a T", api.Point{}, api.Point{X: 4}, api.Point{X: 2, Y: 1}, api.Point{X: 2, Y: 3}, false},
		{"a shared end", api.Point{}, api.Point{X: 4, Y: 1}, api.Point{}, api.Point{X: 1, Y: 4}, true},
		{"a shared end in one line", api.Point{}, api.Point{X: 2, Y: 2}, api.Point{X: 2, Y: 2}, api.Point{X: 5, Y: 5}, true},
		{"one line, apart", api.Point{}, api.Point{X: 2, Y: 2}, api.Point{X: 3, Y: 3}, api.Point{X: 5, Y: 5}, false},
		{"one level line, apart", api.Point{}, api.Point{X: 2}, api.Point{X: 3}, api.Point{X: 5}, false},
		{"one upright line, apart", api.Point{}, api.Point{Y: 2}, api.Point{Y: 3}, api.Point{Y: 5}, false},
		{"the same stretch", api.Point{X: 1, Y: 2}, api.Point{X: 5, Y: 3}, api.Point{X: 1, Y: 2}, api.Point{X: 5, Y: 3}, true},
		{"one upon the other", api.Point{}, api.Point{X: 9, Y: 9}, api.Point{X: 3, Y: 3}, api.Point{X: 5, Y: 5}, true},
		{"one partly upon the other", api.Point{}, api.Point{X: 4, Y: 4}, api.Point{X: 3, Y: 3}, api.Point{X: 7, Y: 7}, true},
		{"side by side", api.Point{}, api.Point{X: 4, Y: 4}, api.Point{X: 1}, api.Point{X: 5, Y: 4}, false},
		{"boxes meet, stretches not", api.Point{}, api.Point{X: 4, Y: 4}, api.Point{X: 3}, api.Point{X: 4, Y: 1}, false},
		{"only one is parted", api.Point{}, api.Point{X: 4, Y: 4}, api.Point{X: 3, Y: 2}, api.Point{X: 9, Y: 1}, false},
		{"a point on a stretch", api.Point{}, api.Point{X: 4, Y: 4}, api.Point{X: 2, Y: 2}, api.Point{X: 2, Y: 2}, true},
		{"a point at an end", api.Point{}, api.Point{X: 4, Y: 4}, api.Point{X: 4, Y: 4}, api.Point{X: 4, Y: 4}, true},
		{"a point beside a stretch", api.Point{}, api.Point{X: 4, Y: 4}, api.Point{X: 2, Y: 3}, api.Point{X: 2, Y: 3}, false},
		{"a point behind a stretch", api.Point{}, api.Point{X: 4, Y: 4}, api.Point{X: 5, Y: 5}, api.Point{X: 5, Y: 5}, false},
		{"a point and itself", api.Point{X: 3, Y: 1}, api.Point{X: 3, Y: 1}, api.Point{X: 3, Y: 1}, api.Point{X: 3, Y: 1}, true},
		{"two points", api.Point{X: 3, Y: 1}, api.Point{X: 3, Y: 1}, api.Point{X: 3, Y: 2}, api.Point{X: 3, Y: 2}, false},
		{"the grid's diagonals", api.Point{}, api.Point{X: far, Y: far}, api.Point{X: far}, api.Point{Y: far}, true},
		{"the grid's sides at a corner", api.Point{}, api.Point{X: far}, api.Point{X: far}, api.Point{X: far, Y: far}, true},
		{"the grid's sides across", api.Point{}, api.Point{X: far}, api.Point{Y: far}, api.Point{X: far, Y: far}, false},
		{"a corner and the diagonal", api.Point{}, api.Point{X: far, Y: far}, api.Point{X: far, Y: far}, api.Point{X: far, Y: far}, true},
		{"a hair beside the diagonal", api.Point{}, api.Point{X: far, Y: far}, api.Point{X: far - 1, Y: far}, api.Point{X: far - 1, Y: far}, false},
		{"a hair beside a long stretch", api.Point{}, api.Point{X: far - 1, Y: far}, api.Point{X: far - 2, Y: far - 1}, api.Point{Y: far}, false},
		{"a hair over a long stretch", api.Point{}, api.Point{X: far, Y: far - 1}, api.Point{X: far - 1, Y: far - 2}, api.Point{Y: far}, true},
	}
	for _, k := range known {
		t.Run(k.what, func(t *testing.T) { checkCross(t, k.a, k.b, k.c, k.d, k.want) })
	}
}

func TestCrossOfAllSmallStretches(t *testing.T) {
	points := smallPoints()
	for _, a := range points {
		for _, b := range points {
			for _, c := range points {
				for _, d := range points {
					want := common(a, b, c, d)
					if got, e := Cross(a, b, c, d); got != want || e != api.OK {
						t.Fatalf("P3.2: Cross(%v, %v, %v, %v) is %v, %d, not %v", a, b, c, d, got, e, want)
					}
					got, e := Cross(times(a, third), times(b, third), times(c, third), times(d, third))
					if got != want || e != api.OK {
						t.Fatalf("P3.2: Cross(%v, %v, %v, %v), all times %d, is %v, %d, not %v", a, b, c, d, third, got, e, want)
					}
				}
			}
		}
	}
}

func TestCrossOfWrongPoints(t *testing.T) {
	p := api.Point{X: 1, Y: 1}
	for _, w := range wrongPoints() {
		for _, row := range [][4]api.Point{{w, p, p, p}, {p, w, p, p}, {p, p, w, p}, {p, p, p, w}, {w, p, w, p}, {w, w, w, w}} {
			if got, e := Cross(row[0], row[1], row[2], row[3]); got || e != api.ErrGeomForm {
				t.Errorf("P3.2: Cross(%v) is %v, %d", row, got, e)
			}
		}
		// Also where the stretches would lie apart.
		if got, e := Cross(p, p, api.Point{X: 3, Y: 3}, w); got || e != api.ErrGeomForm {
			t.Errorf("P3.2: Cross apart, to %v, is %v, %d", w, got, e)
		}
	}
}

func TestMeetOfKnownBoxes(t *testing.T) {
	b := api.Box{X0: 10, Y0: 20, X1: 30, Y1: 40}
	known := []struct {
		what string
		a    api.Box
		want bool
	}{
		{"the same", b, true},
		{"inside", api.Box{X0: 15, Y0: 25, X1: 16, Y1: 26}, true},
		{"around", api.Box{X0: 1, Y0: 2, X1: 300, Y1: 400}, true},
		{"partly", api.Box{X0: 1, Y0: 2, X1: 15, Y1: 25}, true},
		{"across", api.Box{X0: 1, Y0: 25, X1: 300, Y1: 26}, true},
		{"the left side", api.Box{X0: 1, Y0: 20, X1: 10, Y1: 40}, true},
		{"the right side", api.Box{X0: 30, Y0: 20, X1: 50, Y1: 40}, true},
		{"the side below", api.Box{X0: 10, Y0: 1, X1: 30, Y1: 20}, true},
		{"the side above", api.Box{X0: 10, Y0: 40, X1: 30, Y1: 60}, true},
		{"the first corner", api.Box{X0: 1, Y0: 2, X1: 10, Y1: 20}, true},
		{"the second corner", api.Box{X0: 30, Y0: 40, X1: 50, Y1: 60}, true},
		{"the corner below right", api.Box{X0: 30, Y0: 2, X1: 50, Y1: 20}, true},
		{"the corner above left", api.Box{X0: 1, Y0: 40, X1: 10, Y1: 60}, true},
		{"left of it", api.Box{X0: 1, Y0: 20, X1: 9, Y1: 40}, false},
		{"right of it", api.Box{X0: 31, Y0: 20, X1: 50, Y1: 40}, false},
		{"below it", api.Box{X0: 10, Y0: 1, X1: 30, Y1: 19}, false},
		{"above it", api.Box{X0: 10, Y0: 41, X1: 30, Y1: 60}, false},
		{"the whole grid", allOfGrid(), true},
		{"the grid's corner", api.Box{X0: far, Y0: far, X1: far, Y1: far}, false},
	}
	for _, k := range known {
		if Meet(k.a, b) != k.want || Meet(b, k.a) != k.want {
			t.Errorf("P3.3: Meet, %s: not %v", k.what, k.want)
		}
	}
}

// TestMeetAndJoinOfAllSmallBoxes holds both calls against the boxes' places.
func TestMeetAndJoinOfAllSmallBoxes(t *testing.T) {
	for _, a := range smallBoxes() {
		for _, b := range smallBoxes() {
			meet := false
			least := api.Box{X0: far, Y0: far}
			for _, p := range append(places(a), places(b)...) {
				meet = meet || isIn(p, a) && isIn(p, b)
				least = api.Box{X0: min(least.X0, p.X), Y0: min(least.Y0, p.Y), X1: max(least.X1, p.X), Y1: max(least.Y1, p.Y)}
			}
			greatA, greatB := boxTimes(a, third), boxTimes(b, third)
			if Meet(a, b) != meet || Meet(greatA, greatB) != meet {
				t.Fatalf("P3.3: Meet(%v, %v), also times %d, is not %v", a, b, third, meet)
			}
			if got, e := Join(a, b); got != least || e != api.OK {
				t.Fatalf("P3.3: Join(%v, %v) is %v, %d, not %v", a, b, got, e, least)
			}
			if got, e := Join(greatA, greatB); got != boxTimes(least, third) || e != api.OK {
				t.Fatalf("P3.3: Join(%v, %v), both times %d, is %v, %d", a, b, third, got, e)
			}
		}
	}
}

func TestJoinOfKnownBoxes(t *testing.T) {
	b := api.Box{X0: 10, Y0: 20, X1: 30, Y1: 40}
	known := []struct{ a, want api.Box }{
		{b, b},
		{api.Box{X0: 15, Y0: 25, X1: 16, Y1: 26}, b},
		{api.Box{X0: 50, Y0: 60, X1: 70, Y1: 80}, api.Box{X0: 10, Y0: 20, X1: 70, Y1: 80}},
		{api.Box{X0: 1, Y0: 60, X1: 2, Y1: 80}, api.Box{X0: 1, Y0: 20, X1: 30, Y1: 80}},
		{api.Box{}, api.Box{X1: 30, Y1: 40}},
		{api.Box{X0: far, Y0: far, X1: far, Y1: far}, api.Box{X0: 10, Y0: 20, X1: far, Y1: far}},
		{allOfGrid(), allOfGrid()},
	}
	for _, k := range known {
		if got, e := Join(k.a, b); got != k.want || e != api.OK {
			t.Errorf("P3.3: Join(%v, %v) is %v, %d, not %v", k.a, b, got, e, k.want)
		}
		if got, e := Join(b, k.a); got != k.want || e != api.OK {
			t.Errorf("P3.3: Join(%v, %v) is %v, %d, not %v", b, k.a, got, e, k.want)
		}
	}
}

// TestWithinAndFarOfAllSmallBoxes holds both calls against the boxes' places.
func TestWithinAndFarOfAllSmallBoxes(t *testing.T) {
	for _, b := range smallBoxes() {
		for _, p := range smallPoints() {
			within, nearest := isIn(p, b), far
			for _, q := range places(b) {
				away := minus(p, q)
				nearest = min(nearest, away.X*away.X+away.Y*away.Y)
			}
			if Within(p, b) != within || Within(times(p, third), boxTimes(b, third)) != within {
				t.Fatalf("P3.3: Within(%v, %v), also times %d, is not %v", p, b, third, within)
			}
			if got, e := Far(p, b); got != (api.Wide{Lo: uint64(nearest)}) || e != api.OK {
				t.Fatalf("P3.3: Far(%v, %v) is %v, %d, not %d", p, b, got, e, nearest)
			}
		}
	}
}

func TestWithinOfKnownBoxes(t *testing.T) {
	b := api.Box{X0: 10, Y0: 20, X1: 30, Y1: 40}
	in := []api.Point{{X: 15, Y: 25}, {X: 10, Y: 20}, {X: 30, Y: 40}, {X: 10, Y: 40}, {X: 30, Y: 20}, {X: 10, Y: 30}, {X: 30, Y: 30}, {X: 20, Y: 20}, {X: 20, Y: 40}}
	for _, p := range in {
		if !Within(p, b) || !Within(p, allOfGrid()) || !Within(p, api.Box{X0: p.X, Y0: p.Y, X1: p.X, Y1: p.Y}) {
			t.Errorf("P3.3: %v is not in %v, or in all, or in itself", p, b)
		}
	}
	out := []api.Point{{X: 9, Y: 30}, {X: 31, Y: 30}, {X: 20, Y: 19}, {X: 20, Y: 41}, {X: 9, Y: 19}, {X: 31, Y: 41}, {}, {X: far, Y: far}, {X: 20, Y: far}, {X: far, Y: 30}}
	for _, p := range out {
		if Within(p, b) {
			t.Errorf("P3.3: %v is in %v", p, b)
		}
	}
	for _, p := range edgePoints() {
		if !Within(p, allOfGrid()) {
			t.Errorf("P3.3: %v is not in all", p)
		}
	}
}

func TestFarOfKnownPoints(t *testing.T) {
	known := []struct {
		p    api.Point
		b    api.Box
		want api.Wide
	}{
		{api.Point{X: 5, Y: 5}, api.Box{X1: 9, Y1: 9}, api.Wide{}},
		{api.Point{X: 9, Y: 9}, api.Box{X1: 9, Y1: 9}, api.Wide{}},
		{api.Point{X: 12, Y: 5}, api.Box{X1: 9, Y1: 9}, api.Wide{Lo: 9}},
		{api.Point{X: 5, Y: 13}, api.Box{X1: 9, Y1: 9}, api.Wide{Lo: 16}},
		{api.Point{X: 12, Y: 13}, api.Box{X1: 9, Y1: 9}, api.Wide{Lo: 25}},
		{api.Point{X: 1, Y: 2}, api.Box{X0: 4, Y0: 6, X1: 9, Y1: 9}, api.Wide{Lo: 25}},
		{api.Point{X: 12, Y: 2}, api.Box{X0: 4, Y0: 6, X1: 9, Y1: 9}, api.Wide{Lo: 25}},
		{api.Point{}, allOfGrid(), api.Wide{}},
		{api.Point{X: far, Y: far}, allOfGrid(), api.Wide{}},
		{api.Point{}, api.Box{X0: far, X1: far, Y1: far}, api.Wide{Lo: 0xFFFFFFFE00000001}},
		{api.Point{X: far}, api.Box{Y0: far, X1: far, Y1: far}, api.Wide{Lo: 0xFFFFFFFE00000001}},
		{api.Point{X: 1 << 31, Y: 1 << 31}, api.Box{}, api.Wide{Lo: 1 << 63}},
		{api.Point{X: far}, api.Box{Y0: 3, Y1: 5}, api.Wide{Lo: 0xFFFFFFFE0000000A}},
		{api.Point{X: far, Y: 1 << 31}, api.Box{}, api.Wide{Hi: 1, Lo: 0x3FFFFFFE00000001}},
		{api.Point{}, api.Box{X0: far, Y0: far, X1: far, Y1: far}, api.Wide{Hi: 1, Lo: 0xFFFFFFFC00000002}},
		{api.Point{X: far, Y: far}, api.Box{}, api.Wide{Hi: 1, Lo: 0xFFFFFFFC00000002}},
		{api.Point{X: far}, api.Box{Y0: far, Y1: far}, api.Wide{Hi: 1, Lo: 0xFFFFFFFC00000002}},
	}
	for _, k := range known {
		if got, e := Far(k.p, k.b); got != k.want || e != api.OK {
			t.Errorf("P3.3: Far(%v, %v) is %x, %d, not %x", k.p, k.b, got, e, k.want)
		}
	}
}

func TestFarOfAnyPoints(t *testing.T) {
	r := rand.New(rand.NewSource(2))
	for range 20000 {
		p, q := api.Point{X: int(r.Uint32()), Y: int(r.Uint32())}, api.Point{X: int(r.Uint32()), Y: int(r.Uint32())}
		away := minus(p, q)
		x, y := big.NewInt(int64(away.X)), big.NewInt(int64(away.Y))
		want := new(big.Int).Add(x.Mul(x, x), y.Mul(y, y))
		w, e := Far(p, api.Box{X0: q.X, Y0: q.Y, X1: q.X, Y1: q.Y})
		got := new(big.Int).SetUint64(w.Hi)
		got.Add(got.Lsh(got, 64), new(big.Int).SetUint64(w.Lo))
		if got.Cmp(want) != 0 || e != api.OK {
			t.Fatalf("P3.3: Far from %v to %v is %x, %d, not %x", p, q, got, e, want)
		}
	}
}

func TestWrongBoxes(t *testing.T) {
	inner := api.Point{X: 2, Y: 2}
	for _, w := range wrongBoxes() {
		for _, b := range []api.Box{allOfGrid(), {X0: 1, Y0: 1, X1: 3, Y1: 3}, {}, w} {
			if Meet(w, b) || Meet(b, w) {
				t.Errorf("P3.3: Meet(%v, %v) is true", w, b)
			}
			one, e := Join(w, b)
			other, f := Join(b, w)
			if one != (api.Box{}) || other != one || e != api.ErrGeomForm || f != e {
				t.Errorf("P3.3: Join of %v and %v: %v, %d, %v, %d", w, b, one, e, other, f)
			}
		}
		for _, p := range append(smallPoints(), inner, api.Point{X: far, Y: far}) {
			if Within(p, w) {
				t.Errorf("P3.3: Within(%v, %v) is true", p, w)
			}
			if got, e := Far(p, w); got != (api.Wide{}) || e != api.ErrGeomForm {
				t.Errorf("P3.3: Far(%v, %v) is %v, %d", p, w, got, e)
			}
		}
	}
}

func TestWrongPointsOfBoxes(t *testing.T) {
	boxes := []api.Box{allOfGrid(), {}, {X0: 1, Y0: 1, X1: 3, Y1: 3}}
	for _, p := range wrongPoints() {
		itself := api.Box{X0: p.X, Y0: p.Y, X1: p.X, Y1: p.Y}
		for _, b := range append(boxes, itself) {
			if Within(p, b) {
				t.Errorf("P3.3: Within(%v, %v) is true", p, b)
			}
			if got, e := Far(p, b); got != (api.Wide{}) || e != api.ErrGeomForm {
				t.Errorf("P3.3: Far(%v, %v) is %v, %d", p, b, got, e)
			}
		}
	}
}

func TestTogether(t *testing.T) {
	var wait sync.WaitGroup
	var turns [16]int
	var squares [16]api.Wide
	for i := range turns {
		wait.Add(1)
		go func() {
			defer wait.Done()
			turns[i], _ = Turn(api.Point{}, api.Point{X: far, Y: far}, api.Point{X: far - i, Y: far})
			squares[i], _ = Far(api.Point{X: i}, api.Box{})
		}()
	}
	wait.Wait()
	for i := range turns {
		if turns[i] != min(i, 1) || squares[i] != (api.Wide{Lo: uint64(i * i)}) {
			t.Errorf("R5: goroutine %d: %d, %v", i, turns[i], squares[i])
		}
	}
}

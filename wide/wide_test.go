package wide

import (
	"math/big"
	"math/rand"
	"sync"
	"testing"

	"furlong/api"
)

const (
	half  = 1 << 32
	whole = 1<<64 - 1
)

// edges are the numbers at which a half, a carry or a sign could go wrong.
func edges() []uint64 {
	return []uint64{
		0, 1, 2, 3, 1<<16 - 1, 1 << 16, 1<<31 - 1, 1 << 31,
		half - 2, half - 1, half, half + 1, 2*half - 1, 2 * half,
		1<<63 - 1, 1 << 63, 1<<63 + 1, whole - half, whole - half + 1, whole - half + 2, whole - 1, whole,
	}
}

// wideEdges are all pairs of the edges.
func wideEdges() []api.Wide {
	var all []api.Wide
	for _, hi := range edges() {
		for _, lo := range edges() {
			all = append(all, api.Wide{Hi: hi, Lo: lo})
		}
	}
	return all
}

// anyNumber gives a number of any length up to 64 bits.
func anyNumber(r *rand.Rand) uint64 {
	return r.Uint64() >> r.Intn(65)
}

func toBig(w api.Wide) *big.Int {
	x := new(big.Int).SetUint64(w.Hi)
	return x.Add(x.Lsh(x, 64), new(big.Int).SetUint64(w.Lo))
}

func checkMul(t *testing.T, a, b uint64) {
	t.Helper()
	want := new(big.Int).Mul(new(big.Int).SetUint64(a), new(big.Int).SetUint64(b))
	if got := Mul(a, b); toBig(got).Cmp(want) != 0 {
		t.Fatalf("P2.1: Mul(%x, %x) is %x, not %x", a, b, got, want)
	}
}

func checkAdd(t *testing.T, a, b api.Wide) {
	t.Helper()
	want := new(big.Int).Add(toBig(a), toBig(b))
	got, fits := Add(a, b)
	if fits != (want.BitLen() <= 128) {
		t.Fatalf("P2.1: Add(%x, %x) is %v", a, b, fits)
	}
	if fits && toBig(got).Cmp(want) != 0 {
		t.Fatalf("P2.1: Add(%x, %x) is %x, not %x", a, b, got, want)
	}
	if !fits && got != (api.Wide{}) {
		t.Fatalf("R2: Add(%x, %x) is %x beside false", a, b, got)
	}
}

func checkCmp(t *testing.T, a, b api.Wide) {
	t.Helper()
	if got, want := Cmp(a, b), toBig(a).Cmp(toBig(b)); got != want {
		t.Fatalf("P2.1: Cmp(%x, %x) is %d, not %d", a, b, got, want)
	}
}

func TestMulOfKnownNumbers(t *testing.T) {
	known := []struct {
		a, b uint64
		want api.Wide
	}{
		{0, 0, api.Wide{}},
		{0, whole, api.Wide{}},
		{1, 1, api.Wide{Lo: 1}},
		{6, 7, api.Wide{Lo: 42}},
		{1, whole, api.Wide{Lo: whole}},
		{2, whole, api.Wide{Hi: 1, Lo: whole - 1}},
		{half - 1, half - 1, api.Wide{Lo: 0xFFFFFFFE00000001}},
		{half - 1, half, api.Wide{Lo: 0xFFFFFFFF00000000}},
		{half, half, api.Wide{Hi: 1}},
		{half - 1, whole, api.Wide{Hi: half - 2, Lo: 0xFFFFFFFF00000001}},
		{half, whole, api.Wide{Hi: half - 1, Lo: 0xFFFFFFFF00000000}},
		{half + 1, half + 1, api.Wide{Hi: 1, Lo: 0x200000001}},
		{1 << 63, 1 << 63, api.Wide{Hi: 1 << 62}},
		{whole, whole, api.Wide{Hi: whole - 1, Lo: 1}},
		{0x123456789ABCDEF0, 0xFEDCBA9876543210, api.Wide{Hi: 0x121FA00AD77D7422, Lo: 0x236D88FE5618CF00}},
	}
	for _, k := range known {
		if got := Mul(k.a, k.b); got != k.want {
			t.Errorf("P2.1: Mul(%x, %x) is %x, not %x", k.a, k.b, got, k.want)
		}
		if got := Mul(k.b, k.a); got != k.want {
			t.Errorf("P2.1: Mul(%x, %x) is %x, not %x", k.b, k.a, got, k.want)
		}
	}
}

func TestMulAtTheEdges(t *testing.T) {
	for _, a := range edges() {
		for _, b := range edges() {
			checkMul(t, a, b)
		}
	}
}

func TestMulOfAnyNumbers(t *testing.T) {
	r := rand.New(rand.NewSource(1))
	for range 20000 {
		checkMul(t, anyNumber(r), anyNumber(r))
		checkMul(t, r.Uint64(), r.Uint64())
	}
}

func TestAddOfKnownNumbers(t *testing.T) {
	known := []struct{ a, b, want api.Wide }{
		{api.Wide{}, api.Wide{}, api.Wide{}},
		{api.Wide{Lo: 40}, api.Wide{Lo: 2}, api.Wide{Lo: 42}},
		{api.Wide{Hi: 1, Lo: 2}, api.Wide{Hi: 3, Lo: 4}, api.Wide{Hi: 4, Lo: 6}},
		{api.Wide{Lo: whole}, api.Wide{}, api.Wide{Lo: whole}},
		{api.Wide{Lo: whole}, api.Wide{Lo: 1}, api.Wide{Hi: 1}},
		{api.Wide{Lo: whole}, api.Wide{Lo: whole}, api.Wide{Hi: 1, Lo: whole - 1}},
		{api.Wide{Hi: 5, Lo: 1 << 63}, api.Wide{Hi: 6, Lo: 1 << 63}, api.Wide{Hi: 12}},
		{api.Wide{Hi: whole - 1, Lo: whole}, api.Wide{Lo: 1}, api.Wide{Hi: whole}},
		{api.Wide{Hi: whole}, api.Wide{Lo: whole}, api.Wide{Hi: whole, Lo: whole}},
		{api.Wide{Hi: whole, Lo: whole}, api.Wide{}, api.Wide{Hi: whole, Lo: whole}},
		{api.Wide{Hi: whole, Lo: whole - 1}, api.Wide{Lo: 1}, api.Wide{Hi: whole, Lo: whole}},
		{api.Wide{Hi: 1 << 63, Lo: 1}, api.Wide{Hi: 1<<63 - 1, Lo: whole - 1}, api.Wide{Hi: whole, Lo: whole}},
	}
	for _, k := range known {
		if got, fits := Add(k.a, k.b); got != k.want || !fits {
			t.Errorf("P2.1: Add(%x, %x) is %x, %v, not %x", k.a, k.b, got, fits, k.want)
		}
		if got, fits := Add(k.b, k.a); got != k.want || !fits {
			t.Errorf("P2.1: Add(%x, %x) is %x, %v, not %x", k.b, k.a, got, fits, k.want)
		}
	}
}

func TestAddBeyond128Bits(t *testing.T) {
	beyond := [][2]api.Wide{
		{{Hi: whole, Lo: whole}, {Lo: 1}},
		{{Hi: whole, Lo: whole}, {Hi: 1}},
		{{Hi: whole, Lo: whole}, {Hi: whole, Lo: whole}},
		{{Hi: whole}, {Hi: 1}},
		{{Hi: whole, Lo: 7}, {Hi: 1, Lo: 8}},
		{{Hi: whole, Lo: 1}, {Lo: whole}},
		{{Hi: 1 << 63}, {Hi: 1 << 63}},
		{{Hi: 1 << 63, Lo: 3}, {Hi: 1 << 63, Lo: 4}},
		{{Hi: 1 << 63, Lo: 1}, {Hi: 1<<63 - 1, Lo: whole}},
	}
	for _, pair := range beyond {
		if got, fits := Add(pair[0], pair[1]); got != (api.Wide{}) || fits {
			t.Errorf("P2.1: Add(%x, %x) is %x, %v", pair[0], pair[1], got, fits)
		}
		if got, fits := Add(pair[1], pair[0]); got != (api.Wide{}) || fits {
			t.Errorf("P2.1: Add(%x, %x) is %x, %v", pair[1], pair[0], got, fits)
		}
	}
}

func TestAddAndCmpAtTheEdges(t *testing.T) {
	all := wideEdges()
	for _, a := range all {
		for _, b := range all {
			checkAdd(t, a, b)
			checkCmp(t, a, b)
		}
	}
}

func TestAddAndCmpOfAnyNumbers(t *testing.T) {
	r := rand.New(rand.NewSource(2))
	for range 20000 {
		a := api.Wide{Hi: anyNumber(r), Lo: anyNumber(r)}
		b := api.Wide{Hi: anyNumber(r), Lo: anyNumber(r)}
		checkAdd(t, a, b)
		checkCmp(t, a, b)
		checkCmp(t, a, api.Wide{Hi: a.Hi, Lo: b.Lo})
		checkCmp(t, a, api.Wide{Hi: b.Hi, Lo: a.Lo})
		checkCmp(t, a, a)
	}
}

func TestAddOfProducts(t *testing.T) {
	r := rand.New(rand.NewSource(3))
	for range 5000 {
		checkAdd(t, Mul(r.Uint64(), r.Uint64()), Mul(r.Uint64(), r.Uint64()))
	}
	// The square of the greatest number, and what is left of the 128 bits above it.
	square, rest := Mul(whole, whole), api.Wide{Hi: 1, Lo: whole - 1}
	if got, fits := Add(square, rest); got != (api.Wide{Hi: whole, Lo: whole}) || !fits {
		t.Errorf("P2.1: %x, %v", got, fits)
	}
	if got, fits := Add(square, api.Wide{Hi: 1, Lo: whole}); got != (api.Wide{}) || fits {
		t.Errorf("P2.1: %x, %v", got, fits)
	}
}

func TestCmpOfKnownNumbers(t *testing.T) {
	rising := []api.Wide{
		{}, {Lo: 1}, {Lo: half - 1}, {Lo: half}, {Lo: 1 << 63}, {Lo: whole},
		{Hi: 1}, {Hi: 1, Lo: whole}, {Hi: 2}, {Hi: half - 1, Lo: 5}, {Hi: half},
		{Hi: 1<<63 - 1, Lo: whole}, {Hi: 1 << 63}, {Hi: whole}, {Hi: whole, Lo: whole - 1}, {Hi: whole, Lo: whole},
	}
	for i, a := range rising {
		for j, b := range rising {
			want := 0
			if i < j {
				want = -1
			} else if i > j {
				want = 1
			}
			if got := Cmp(a, b); got != want {
				t.Errorf("P2.1: Cmp(%x, %x) is %d, not %d", a, b, got, want)
			}
		}
	}
}

func TestTogether(t *testing.T) {
	var wait sync.WaitGroup
	var sums [16]api.Wide
	for i := range sums {
		wait.Add(1)
		go func() {
			defer wait.Done()
			sums[i], _ = Add(Mul(half, half), Mul(whole, uint64(i)))
		}()
	}
	wait.Wait()
	for i, got := range sums {
		want, _ := Add(api.Wide{Hi: 1}, Mul(whole, uint64(i)))
		if got != want {
			t.Errorf("R5: goroutine %d: %x, not %x", i, got, want)
		}
	}
}

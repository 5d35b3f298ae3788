package crc

import (
	"go/ast"
	"go/parser"
	"go/token"
	"hash/crc32"
	"math"
	"math/rand"
	"strings"
	"sync"
	"testing"

	"furlong/api"
)

// bitByBit is chapter 1's definition, without a table.
func bitByBit(s string) int {
	register := uint32(0xFFFFFFFF)
	for i := 0; i < len(s); i++ {
		for bit := 0; bit < 8; bit++ {
			in := uint32(s[i]>>bit) & 1
			out := register & 1
			register >>= 1
			if in != out {
				register ^= 0xEDB88320
			}
		}
	}
	return int(register ^ 0xFFFFFFFF)
}

// randomText gives a text of any bytes.
func randomText(r *rand.Rand, size int) string {
	b := make([]byte, size)
	for i := range b {
		b[i] = byte(r.Intn(256))
	}
	return string(b)
}

// TestTogether stands first, so that the table is made while several ask for it.
func TestTogether(t *testing.T) {
	var wait sync.WaitGroup
	var sums, more [16]int
	for i := range sums {
		wait.Add(1)
		go func() {
			defer wait.Done()
			sums[i] = Sum("123456789")
			more[i], _ = More(sums[i], "0")
		}()
	}
	wait.Wait()
	for i := range sums {
		if sums[i] != 0xCBF43926 || more[i] != bitByBit("1234567890") {
			t.Errorf("R5: goroutine %d: %x, %x", i, sums[i], more[i])
		}
	}
}

func TestSumOfKnownTexts(t *testing.T) {
	known := []struct {
		text string
		sum  int
	}{
		{"", 0},
		{"123456789", 0xCBF43926},
		{"a", 0xE8B7BE43},
		{"abc", 0x352441C2},
		{"The quick brown fox jumps over the lazy dog", 0x414FA339},
		{"\x00", 0xD202EF8D},
		{"\x00\x00\x00\x00", 0x2144DF1C},
		{"\xff", 0xFF000000},
		{"\xff\xff\xff\xff", 0xFFFFFFFF},
		{"\x9d\x0a\xd9\x6d", 0},
		{strings.Repeat("\x00", 32), 0x190A55AD},
		{strings.Repeat("\xff", 32), 0xFF6CAB0B},
	}
	for _, k := range known {
		if got := Sum(k.text); got != k.sum {
			t.Errorf("P1.1: Sum(%q) is %x, not %x", k.text, got, k.sum)
		}
	}
}

func TestSumOfEachByte(t *testing.T) {
	for b := range 256 {
		for _, s := range []string{string([]byte{byte(b)}), string([]byte{'x', byte(b), 0})} {
			if got, want := Sum(s), bitByBit(s); got != want {
				t.Errorf("P1.1: Sum(%q) is %x, not %x", s, got, want)
			}
		}
	}
}

func TestSumOfAnyBytes(t *testing.T) {
	r := rand.New(rand.NewSource(1))
	for range 1000 {
		s := randomText(r, r.Intn(200))
		got := Sum(s)
		if want := bitByBit(s); got != want || got != Sum(s) {
			t.Fatalf("P1.1: Sum(%q) is %x, not %x", s, got, want)
		}
	}
}

func TestSumOfLongTexts(t *testing.T) {
	r := rand.New(rand.NewSource(2))
	for _, size := range []int{api.MaxRecord, api.MaxText, 1 << 20} {
		s := randomText(r, size)
		if got, want := Sum(s), int(crc32.ChecksumIEEE([]byte(s))); got != want {
			t.Errorf("P1.1: Sum of %d bytes is %x, not %x", size, got, want)
		}
	}
}

func TestMoreGoesOnAnywhere(t *testing.T) {
	r := rand.New(rand.NewSource(3))
	for _, s := range []string{"", "123456789", "\xff\xff\xff\xff\xff", randomText(r, 300)} {
		for cut := range len(s) + 1 {
			got, e := More(Sum(s[:cut]), s[cut:])
			if want := bitByBit(s); got != want || e != api.OK {
				t.Errorf("P1.2: %q cut at %d: %x, %d, not %x", s, cut, got, e, want)
			}
		}
	}
}

func TestMoreByteByByte(t *testing.T) {
	s := randomText(rand.New(rand.NewSource(4)), 1000)
	sum := 0
	for i := range len(s) {
		next, e := More(sum, s[i:i+1])
		if e != api.OK {
			t.Fatalf("P1.2: byte %d: error %d", i, e)
		}
		sum = next
	}
	if sum != bitByBit(s) {
		t.Errorf("P1.2: byte by byte %x, not %x", sum, bitByBit(s))
	}
}

func TestMoreOfAnySum(t *testing.T) {
	r := rand.New(rand.NewSource(5))
	sums := []int{0, 1, 1<<31 - 1, 1 << 31, 1<<32 - 2, 1<<32 - 1}
	for range 500 {
		sums = append(sums, int(r.Uint32()))
	}
	for _, sum := range sums {
		if got, e := More(sum, ""); got != sum || e != api.OK {
			t.Errorf("P1.2: More(%x, empty) is %x, %d", sum, got, e)
		}
		s := randomText(r, 1+r.Intn(20))
		want := int(crc32.Update(uint32(sum), crc32.IEEETable, []byte(s)))
		if got, e := More(sum, s); got != want || e != api.OK {
			t.Errorf("P1.2: More(%x, %q) is %x, %d, not %x", sum, s, got, e, want)
		}
	}
}

func TestMoreAtTheEnds(t *testing.T) {
	if got, e := More(0, "123456789"); got != 0xCBF43926 || e != api.OK {
		t.Errorf("P1.2: behind the empty text: %x, %d", got, e)
	}
	if got, e := More(0, "\xff\xff\xff\xff"); got != 1<<32-1 || e != api.OK {
		t.Errorf("P1.2: up to the highest sum: %x, %d", got, e)
	}
	if got, e := More(1<<32-1, "a"); got != bitByBit("\xff\xff\xff\xffa") || e != api.OK {
		t.Errorf("P1.2: behind the highest sum: %x, %d", got, e)
	}
}

func TestMoreOfWrongSums(t *testing.T) {
	wrong := []int{-1, 1 << 32, 1<<32 + 0xCBF43926, -0xCBF43926, -1 << 32, math.MinInt, math.MaxInt}
	for _, sum := range wrong {
		for _, s := range []string{"", "a", "123456789"} {
			if got, e := More(sum, s); got != 0 || e != api.ErrCrcForm {
				t.Errorf("P1.2: More(%d, %q) is %x, %d", sum, s, got, e)
			}
		}
	}
	if got, e := More(0xCBF43926, ""); got != 0xCBF43926 || e != api.OK {
		t.Errorf("R5: behind wrong sums: %x, %d", got, e)
	}
}

func TestTableIsMade(t *testing.T) {
	Sum("")
	for b, row := range table {
		if row != crc32.IEEETable[b] {
			t.Errorf("chapter 1, Ways: row %d is %x, not %x", b, row, crc32.IEEETable[b])
		}
	}
}

// TestNoAnswerComesOutOfTheTable spoils the table: one that is made once stays spoilt, and no answer tells of it.
func TestNoAnswerComesOutOfTheTable(t *testing.T) {
	Sum("")
	kept := table
	defer func() { table = kept }()
	for b := range table {
		table[b] = ^table[b]
	}
	spoilt := table
	s := randomText(rand.New(rand.NewSource(6)), 1000)
	if got, want := Sum(s), bitByBit(s); got != want {
		t.Errorf("P1.1: with a spoilt table %x, not %x", got, want)
	}
	if got, e := More(Sum("123"), s); got != bitByBit("123"+s) || e != api.OK {
		t.Errorf("P1.2: with a spoilt table %x, %d", got, e)
	}
	if table != spoilt {
		t.Error("chapter 1, Ways: the table is made more than once")
	}
}

// TestTableIsRead looks at the source, as no answer shows whether the table is read.
func TestTableIsRead(t *testing.T) {
	file, err := parser.ParseFile(token.NewFileSet(), "crc.go", nil, 0)
	if err != nil {
		t.Fatal(err)
	}
	for _, d := range file.Decls {
		if f, ok := d.(*ast.FuncDecl); ok && f.Name.IsExported() && readsTable(f.Body) {
			return
		}
	}
	t.Error("LANGUAGE.md, 3b: no exported function reads the table")
}

// readsTable tells whether the table stands on the right of an assignment.
func readsTable(body *ast.BlockStmt) bool {
	found := false
	ast.Inspect(body, func(n ast.Node) bool {
		if a, ok := n.(*ast.AssignStmt); ok {
			for _, right := range a.Rhs {
				ast.Inspect(right, func(n ast.Node) bool {
					name, ok := n.(*ast.Ident)
					found = found || ok && name.Name == "table"
					return true
				})
			}
		}
		return true
	})
	return found
}

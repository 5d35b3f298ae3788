package frame

import (
	"encoding/binary"
	"go/ast"
	"go/parser"
	"go/token"
	"hash/crc32"
	"math"
	"math/rand"
	"strings"
	"sync"
	"testing"
	"unsafe"

	"furlong/api"
)

// parts is a frame by its parts, each as it may also be wrong.
type parts struct {
	mark   string
	number uint32
	length uint16
	sum    uint32
	data   string
	behind string
}

// partsOf is the frame of a number and a text as the chapter's words tell it.
func partsOf(lsn int, data string) parts {
	p := parts{mark: "FR", number: uint32(lsn), length: uint16(len(data)), data: data}
	p.sum = p.rightSum()
	for (12+len(data)+len(p.behind))%64 != 0 {
		p.behind += "\x00"
	}
	return p
}

// rightSum is the sum of the parts as they are.
func (p parts) rightSum() uint32 {
	b := binary.BigEndian.AppendUint32(nil, p.number)
	b = binary.BigEndian.AppendUint16(b, p.length)
	return crc32.ChecksumIEEE(append(b, p.data...))
}

func (p parts) text() string {
	b := binary.BigEndian.AppendUint32([]byte(p.mark), p.number)
	b = binary.BigEndian.AppendUint16(b, p.length)
	b = binary.BigEndian.AppendUint32(b, p.sum)
	return string(b) + p.data + p.behind
}

// bytesOf is a text of so many bytes, of all values, that hang on k.
func bytesOf(k, size int) string {
	b := make([]byte, size)
	for i := range b {
		b[i] = byte(i*7 + i/256 + k)
	}
	return string(b)
}

func put(t *testing.T, lsn int, data string) string {
	t.Helper()
	s, e := Put(lsn, data)
	if e != api.OK {
		t.Fatalf("P9.1: Put(%d, %d bytes): %d", lsn, len(data), e)
	}
	return s
}

// checkPut holds Put against the parts, byte for byte.
func checkPut(t *testing.T, lsn int, data string) {
	t.Helper()
	if s := put(t, lsn, data); s != partsOf(lsn, data).text() {
		t.Fatalf("P9.1: Put(%d, %d bytes): %q", lsn, len(data), s)
	}
}

func checkGet(t *testing.T, what string, s string, lsn int, data string, whole int) {
	t.Helper()
	got, n, is := Get(s, lsn)
	if got != data || n != whole || !is {
		t.Fatalf("P9.2: %s, number %d: %d bytes of text, %d, %t, not %d, %d, true", what, lsn, len(got), n, is, len(data), whole)
	}
}

func checkNone(t *testing.T, what string, s string, lsn int) {
	t.Helper()
	if got, n, is := Get(s, lsn); got != "" || n != 0 || is {
		t.Fatalf("P9.2: %s, number %d: %q, %d, %t", what, lsn, got, n, is)
	}
}

// checkRefused finds an error and an empty text.
func checkRefused(t *testing.T, lsn int, data string) {
	t.Helper()
	if s, e := Put(lsn, data); s != "" || e != api.ErrFrameForm {
		t.Errorf("P9.1: Put(%d, %d bytes): %d bytes, %d", lsn, len(data), len(s), e)
	}
}

var numbers = []int{0, 1, 255, 256, 65535, 65536, 1<<24 - 1, 1 << 24, 0x01020304, 1<<31 - 1, 1 << 31, 1<<32 - 2, 1<<32 - 1}

// wrongNumbers have the lowest 4 bytes of some that may be.
var wrongNumbers = []int{-1, -2, -256, -1 << 31, -1 << 32, 1 << 32, 1<<32 + 1, 1 << 33, 1<<40 + 7, math.MinInt, math.MinInt + 1, math.MaxInt}

// sizes fill sectors just so, leave one byte, take one more.
var sizes = []int{0, 1, 2, 9, 51, 52, 53, 64, 115, 116, 117, 128, 179, 180, 181, 255, 256, 257, 1000, 4095, 4096, 4097, 8179, 8180, 8181, 8191, 8192}

func TestKnownFrames(t *testing.T) {
	rows := []struct {
		lsn  int
		data string
		head string
	}{
		{0x01020304, "ab", "FR\x01\x02\x03\x04\x00\x02\x91\xdd\x94\x4c"},
		{0, "", "FR\x00\x00\x00\x00\x00\x00\xb1\xc2\xa1\xa3"},
		{1<<32 - 1, "123456789", "FR\xff\xff\xff\xff\x00\x09\x2e\x17\xf9\xbd"},
	}
	for _, row := range rows {
		want := row.head + row.data + strings.Repeat("\x00", 52-len(row.data))
		if s := put(t, row.lsn, row.data); s != want {
			t.Errorf("P9.1: Put(%d, %q): %q, not %q", row.lsn, row.data, s, want)
		}
		checkGet(t, "a known frame", want, row.lsn, row.data, 64)
	}
}

// TestEachPart takes a frame of two bytes of length apart.
func TestEachPart(t *testing.T) {
	data := bytesOf(3, 0x0123)
	s := put(t, 0xA1B2C3D4, data)
	if len(s) != 5*64 {
		t.Fatalf("P9.1: %d bytes", len(s))
	}
	sum := crc32.ChecksumIEEE([]byte("\xA1\xB2\xC3\xD4\x01\x23" + data))
	rows := []struct {
		what      string
		got, want string
	}{
		{"the mark", s[:2], "FR"},
		{"the number", s[2:6], "\xA1\xB2\xC3\xD4"},
		{"the text's length", s[6:8], "\x01\x23"},
		{"the sum", s[8:12], string([]byte{byte(sum >> 24), byte(sum >> 16), byte(sum >> 8), byte(sum)})},
		{"the text", s[12 : 12+0x0123], data},
		{"the bytes 0", s[12+0x0123:], strings.Repeat("\x00", 5*64-12-0x0123)},
	}
	for _, row := range rows {
		if row.got != row.want {
			t.Errorf("P9.1: %s: %q, not %q", row.what, row.got, row.want)
		}
	}
}

func TestPutOfNumbersAndSizes(t *testing.T) {
	for _, lsn := range numbers {
		for _, size := range sizes {
			checkPut(t, lsn, bytesOf(lsn, size))
		}
	}
}

func TestPutOfSmallSizes(t *testing.T) {
	for size := range 400 {
		checkPut(t, size, bytesOf(size, size))
		checkPut(t, 1<<32-1-size, strings.Repeat("\x00", size))
	}
}

func TestBytesOfEachValue(t *testing.T) {
	for b := range 256 {
		for _, size := range []int{1, 52, 53, 200} {
			data := strings.Repeat(string([]byte{byte(b)}), size)
			checkPut(t, b, data)
			checkGet(t, "bytes of one value", put(t, b, data), b, data, len(partsOf(b, data).text()))
		}
	}
}

func TestWrongPuts(t *testing.T) {
	big := bytesOf(1, api.MaxText+1)
	for _, lsn := range wrongNumbers {
		checkRefused(t, lsn, "")
		checkRefused(t, lsn, "ab")
		checkRefused(t, lsn, big[:api.MaxRecord])
		checkRefused(t, lsn, big[:api.MaxRecord+1])
	}
	for _, lsn := range numbers {
		for _, size := range []int{8193, 8194, 8244, 8245, 16384, 65535, 65536, 65537} {
			checkRefused(t, lsn, big[:size])
		}
	}
	// As many runes as a text may have bytes are too many.
	checkRefused(t, 0, strings.Repeat("é", api.MaxRecord))
	checkPut(t, 0, strings.Repeat("é", api.MaxRecord/2))
}

func TestSectors(t *testing.T) {
	for size, want := range map[int]int{0: 1, 1: 1, 51: 1, 52: 1, 53: 2, 116: 2, 117: 3, 180: 3, 181: 4, 8180: 128, 8181: 129, 8191: 129, 8192: 129} {
		if n := Sectors(size); n != want {
			t.Errorf("P9.1: Sectors(%d): %d, not %d", size, n, want)
		}
	}
	for _, size := range []int{-1, -12, -13, -64, -1 << 32, math.MinInt, 8193, 8244, 65535, 65536, 1 << 32, 1<<32 + 1, math.MaxInt - 75, math.MaxInt} {
		if n := Sectors(size); n != 0 {
			t.Errorf("P9.1: Sectors(%d): %d, not 0", size, n)
		}
	}
}

// TestSectorsOfAllSizes: just so many sectors as hold 12 bytes and the text, by going up.
func TestSectorsOfAllSizes(t *testing.T) {
	want := 1
	for size := range api.MaxRecord + 1 {
		for want*64 < 12+size {
			want++
		}
		if n := Sectors(size); n != want {
			t.Fatalf("P9.1: Sectors(%d): %d, not %d", size, n, want)
		}
	}
}

// TestThereAndBack puts what stands behind a frame there, too: none of it is asked.
func TestThereAndBack(t *testing.T) {
	for _, size := range sizes {
		for _, lsn := range numbers {
			data := bytesOf(lsn, size)
			s := put(t, lsn, data)
			if len(s) != Sectors(size)*64 {
				t.Fatalf("P9.1: %d bytes of a text of %d", len(s), size)
			}
			checkGet(t, "alone", s, lsn, data, len(s))
			for _, behind := range []string{"\x00", "x", "FR", bytesOf(1, 63), bytesOf(2, 64), bytesOf(3, 9000), s, strings.Repeat("\xff", 64)} {
				checkGet(t, "bytes behind", s+behind, lsn, data, len(s))
			}
		}
	}
}

// TestOneBehindTheOther walks frames of rising numbers.
func TestOneBehindTheOther(t *testing.T) {
	s := ""
	for lsn, size := range sizes {
		s += put(t, lsn, bytesOf(lsn, size))
	}
	for lsn, size := range sizes {
		checkNone(t, "the number ahead", s, lsn-1)
		checkNone(t, "the number behind", s, lsn+1)
		checkGet(t, "one of a row", s, lsn, bytesOf(lsn, size), Sectors(size)*64)
		s = s[Sectors(size)*64:]
	}
	checkNone(t, "the row's end", s, len(sizes))
}

func TestTooShort(t *testing.T) {
	for _, size := range []int{0, 1, 52, 53, 116, 117, 300} {
		s := put(t, size, bytesOf(size, size))
		for n := range len(s) {
			checkNone(t, "a beginning", s[:n], size)
		}
		for n := 1; n <= len(s); n++ {
			checkNone(t, "an end", s[n:], size)
			checkNone(t, "an end, with a frame behind it", s[n:]+put(t, 77, "x"), size)
		}
	}
	s := put(t, 5, bytesOf(5, api.MaxRecord))
	for _, n := range []int{0, 1, 11, 12, 63, 64, 8192, 8203, 8204, 8205, len(s) - 64, len(s) - 1} {
		checkNone(t, "a beginning", s[:n], 5)
	}
	for n := range 200 {
		checkNone(t, "bytes 0", strings.Repeat("\x00", n), 0)
		checkNone(t, "marks", strings.Repeat("FR", n), 0)
	}
}

func TestOtherNumbers(t *testing.T) {
	for _, size := range []int{0, 53, 8192} {
		for _, lsn := range numbers {
			s := put(t, lsn, bytesOf(lsn, size))
			for _, other := range numbers {
				if other != lsn {
					checkNone(t, "another number", s, other)
				}
			}
			for bit := range 64 {
				checkNone(t, "another number", s, lsn^1<<bit)
			}
			for _, other := range wrongNumbers {
				checkNone(t, "a number out of its bounds", s, other)
			}
			for _, other := range []int{lsn + 1<<32, lsn - 1<<32, ^lsn, -lsn - 1} {
				checkNone(t, "a number out of its bounds", s, other)
			}
		}
	}
}

// TestAnyByteChanged changes each byte of a frame to each other value.
func TestAnyByteChanged(t *testing.T) {
	for _, size := range []int{0, 2, 52, 53, 70} {
		lsn := 0x01020304 + size
		s := put(t, lsn, bytesOf(size, size))
		for at := range len(s) {
			for flip := 1; flip < 256; flip++ {
				b := []byte(s)
				b[at] ^= byte(flip)
				checkNone(t, "byte "+partAt(at, size), string(b), lsn)
				if at == 6 || at == 7 {
					// The bytes that a greater length asks for are there.
					checkNone(t, "byte "+partAt(at, size), string(b)+strings.Repeat("\x00", 9000), lsn)
				}
			}
		}
	}
}

func TestAnyByteOfAGreatFrameChanged(t *testing.T) {
	s := put(t, 9, bytesOf(9, api.MaxRecord))
	for at := 0; at < len(s); at += 1 + at/100 {
		b := []byte(s)
		b[at] ^= 1 << (at % 8)
		checkNone(t, "byte "+partAt(at, api.MaxRecord), string(b), 9)
	}
	for at := 12 + api.MaxRecord; at < len(s); at++ {
		b := []byte(s)
		b[at] = 1
		checkNone(t, "byte "+partAt(at, api.MaxRecord), string(b), 9)
	}
}

// partAt is the name of the part that has byte at of a frame of a text of so many bytes.
func partAt(at, size int) string {
	switch {
	case at < 2:
		return "of the mark"
	case at < 6:
		return "of the number"
	case at < 8:
		return "of the length"
	case at < 12:
		return "of the sum"
	case at < 12+size:
		return "of the text"
	}
	return "of the bytes 0"
}

// TestRightSums has what may not be, with the sum that it asks for: the sum alone makes no frame.
func TestRightSums(t *testing.T) {
	rows := []struct {
		what string
		lsn  int
		turn func(p *parts)
	}{
		{"another mark", 5, func(p *parts) { p.mark = "fr" }},
		{"a turned mark", 5, func(p *parts) { p.mark = "RF" }},
		{"a mark that ends otherwise", 5, func(p *parts) { p.mark = "FF" }},
		{"no mark", 5, func(p *parts) { p.mark, p.behind = "", p.behind+"\x00\x00" }},
		{"another number", 5, func(p *parts) { p.number = 6 }},
		{"a number with the lowest byte first", 5, func(p *parts) { p.number = 5 << 24 }},
		{"a length with the lowest byte first", 5, func(p *parts) { p.length = p.length<<8 | p.length>>8 }},
		{"no length", 5, func(p *parts) { p.length = 0 }},
		{"a length less by one", 5, func(p *parts) { p.length-- }},
		{"a length greater by one", 5, func(p *parts) { p.length++ }},
		{"a sector of bytes 0 too few", 5, func(p *parts) { p.behind = "" }},
		{"bytes behind the text that are not 0", 5, func(p *parts) { p.behind = strings.Repeat("\x01", len(p.behind)) }},
		{"a last byte that is not 0", 5, func(p *parts) { p.behind = p.behind[1:] + "\x80" }},
		{"a first byte behind the text that is not 0", 5, func(p *parts) { p.behind = "\x80" + p.behind[1:] }},
	}
	for _, row := range rows {
		for _, size := range []int{3, 40, 100, 1001} {
			p := partsOf(row.lsn, strings.Repeat("a", size))
			row.turn(&p)
			p.sum = p.rightSum()
			checkNone(t, row.what, p.text(), row.lsn)
		}
	}
}

// TestOtherSums has sums that are reckoned otherwise.
func TestOtherSums(t *testing.T) {
	p := partsOf(0x01020304, bytesOf(4, 100))
	right := p.sum
	head := p.text()[2:8]
	rows := []struct {
		what string
		sum  uint32
	}{
		{"of the text alone", crc32.ChecksumIEEE([]byte(p.data))},
		{"of the number and the length", crc32.ChecksumIEEE([]byte(head))},
		{"of the mark, too", crc32.ChecksumIEEE([]byte("FR" + head + p.data))},
		{"without the length", crc32.ChecksumIEEE([]byte(head[:4] + p.data))},
		{"of the bytes 0, too", crc32.ChecksumIEEE([]byte(head + p.data + p.behind))},
		{"with the lowest byte first", right<<24 | right<<8&0xFF0000 | right>>8&0xFF00 | right>>24},
		{"turned", ^right},
		{"0", 0},
	}
	for _, row := range rows {
		p.sum = row.sum
		checkNone(t, "a sum "+row.what, p.text(), 0x01020304)
	}
	p.sum = right
	checkGet(t, "the right sum", p.text(), 0x01020304, p.data, 128)
}

// TestLengthsBeyondMaxRecord: all about such a frame is right but how long its text is.
func TestLengthsBeyondMaxRecord(t *testing.T) {
	for _, size := range []int{8193, 8194, 8244, 8245, 16384, 32767, 32768, 65535} {
		s := partsOf(7, bytesOf(7, size)).text()
		checkNone(t, "a length beyond MaxRecord", s, 7)
		checkNone(t, "a length beyond MaxRecord, with bytes behind", s+strings.Repeat("\x00", 200), 7)
	}
	for size := 8193; size < 65536; size += 59 {
		s := []byte(put(t, 7, bytesOf(7, api.MaxRecord)))
		s[6], s[7] = byte(size>>8), byte(size)
		checkNone(t, "a length beyond MaxRecord", string(s)+strings.Repeat("\x00", 65536), 7)
	}
}

// foundByAll goes through all lengths that a text may have: is one's frame what s begins with?
func foundByAll(s string, lsn int) (string, int, bool) {
	for size := 0; 12+size <= len(s) && size <= 8192; size++ {
		if made := partsOf(lsn, s[12:12+size]).text(); strings.HasPrefix(s, made) {
			return s[12 : 12+size], len(made), true
		}
	}
	return "", 0, false
}

// TestAnyTexts mixes frames, beginnings, changed bytes and bytes behind.
func TestAnyTexts(t *testing.T) {
	r := rand.New(rand.NewSource(9))
	found := 0
	for range 5000 {
		lsn := r.Intn(3)
		s := partsOf(lsn, bytesOf(r.Intn(256), r.Intn(130))).text()
		if r.Intn(2) == 0 {
			b := []byte(s)
			b[r.Intn(len(b))] = byte(r.Intn(3))
			s = string(b)
		}
		if r.Intn(3) == 0 {
			s = s[:r.Intn(len(s)+1)]
		}
		s += bytesOf(r.Intn(256), r.Intn(70))
		data, n, is := Get(s, lsn)
		wantData, wantN, want := foundByAll(s, lsn)
		if data != wantData || n != wantN || is != want {
			t.Fatalf("P9.2: Get(%q, %d): %q, %d, %t", s, lsn, data, n, is)
		}
		if is {
			found++
		}
	}
	if found < 500 || found > 4500 {
		t.Errorf("of 5000 texts %d begin with a frame", found)
	}
}

// TestNothingIsShared changes the memory of what was handed in and of what was answered.
func TestNothingIsShared(t *testing.T) {
	for _, size := range []int{1, 52, 100} {
		want := bytesOf(1, size)
		handed := []byte(want)
		text := unsafe.String(&handed[0], len(handed))
		first, second := put(t, 3, text), put(t, 3, text)
		if string(handed) != want {
			t.Fatal("R4: Put changed the text that was handed in")
		}
		clear(handed)
		checkGet(t, "R4: the text that was handed in is kept", first, 3, want, len(first))

		framed := []byte(first)
		s := unsafe.String(&framed[0], len(framed))
		data, _, _ := Get(s, 3)
		again, _, _ := Get(s, 3)
		if string(framed) != first {
			t.Fatal("R4: Get changed the text that was handed in")
		}
		clear(framed)
		if data != want {
			t.Fatal("R4: what Get answers shares memory with what was handed in")
		}
		clear(unsafe.Slice(unsafe.StringData(data), len(data)))
		if again != want {
			t.Fatal("R4: two answers of Get share memory")
		}
		clear(unsafe.Slice(unsafe.StringData(first), len(first)))
		checkGet(t, "R4: two answers of Put share memory", second, 3, want, len(second))
	}
}

// TestTogether calls all from several goroutines.
func TestTogether(t *testing.T) {
	var all sync.WaitGroup
	for g := range 8 {
		all.Go(func() {
			for size := range 200 {
				data := bytesOf(g, size)
				s, e := Put(g, data)
				if s != partsOf(g, data).text() || e != api.OK || Sectors(size)*64 != len(s) {
					t.Errorf("R5: Put(%d, %d bytes): %d", g, size, e)
				}
				if got, n, is := Get(s, g); got != data || n != len(s) || !is {
					t.Errorf("R5: Get(.., %d): %d, %t", g, n, is)
				}
			}
		})
	}
	all.Wait()
}

// TestNumbersByShifts holds the way of the chapter: the source shifts, and no package beside the project's makes its bytes.
func TestNumbersByShifts(t *testing.T) {
	source, err := parser.ParseFile(token.NewFileSet(), "frame.go", nil, 0)
	if err != nil {
		t.Fatal(err)
	}
	for _, is := range source.Imports {
		if !strings.HasPrefix(is.Path.Value, `"furlong/`) {
			t.Errorf("chapter 9, Ways: %s is imported", is.Path.Value)
		}
	}
	shifts := map[token.Token]bool{}
	for _, d := range source.Decls {
		if _, is := d.(*ast.FuncDecl); !is {
			continue
		}
		ast.Inspect(d, func(n ast.Node) bool {
			if x, is := n.(*ast.BinaryExpr); is {
				shifts[x.Op] = true
			}
			return true
		})
	}
	if !shifts[token.SHL] || !shifts[token.SHR] {
		t.Errorf("chapter 9, Ways: a shift to the left: %t, to the right: %t", shifts[token.SHL], shifts[token.SHR])
	}
}

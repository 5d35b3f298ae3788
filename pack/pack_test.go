package pack

import (
	"fmt"
	"strings"
	"testing"

	"furlong/api"
)

// rows are parts and their bytes.
var rows = []struct {
	what  string
	write func(w *Writer)
	read  func(r *Reader) any
	want  any
	bytes string
}{
	{"a number of one byte", func(w *Writer) { w.Number(0xA1, 1) }, func(r *Reader) any { return r.Number(1) }, 0xA1, "\xa1"},
	{"a number of two", func(w *Writer) { w.Number(0xA1B2, 2) }, func(r *Reader) any { return r.Number(2) }, 0xA1B2, "\xa1\xb2"},
	{"a number of four", func(w *Writer) { w.Number(0xA1B2C3D4, 4) }, func(r *Reader) any { return r.Number(4) }, 0xA1B2C3D4, "\xa1\xb2\xc3\xd4"},
	{"the greatest of four", func(w *Writer) { w.Number(1<<32-1, 4) }, func(r *Reader) any { return r.Number(4) }, 1<<32 - 1, "\xff\xff\xff\xff"},
	{"a kind", func(w *Writer) { w.Kind(6) }, func(r *Reader) any { return r.Kind() }, 6, "\x06"},
	{"yes", func(w *Writer) { w.Flag(true) }, func(r *Reader) any { return r.Flag() }, true, "\x01"},
	{"no", func(w *Writer) { w.Flag(false) }, func(r *Reader) any { return r.Flag() }, false, "\x00"},
	{"a name", func(w *Writer) { w.Name(api.Tx{Node: 7, Seq: 0xFFFE}) }, func(r *Reader) any { return r.Name() }, api.Tx{Node: 7, Seq: 0xFFFE}, "\x07\xff\xfe"},
	{"no base", func(w *Writer) { w.Base(-1) }, func(r *Reader) any { return r.Base() }, -1, "\x00\x00\x00\x00"},
	{"a base", func(w *Writer) { w.Base(0xFFFF) }, func(r *Reader) any { return r.Base() }, 0xFFFF, "\x00\x01\x00\x00"},
	{"a map", func(w *Writer) { w.Map(twoStretches) }, func(r *Reader) any { return r.Map() }, twoStretches, mapBytes},
	{"a feature", func(w *Writer) { w.Feature(line) }, func(r *Reader) any { return r.Feature() }, line, lineBytes},
	{"no operations", func(w *Writer) { w.Ops(nil) }, func(r *Reader) any { return r.Ops() }, []api.Op(nil), "\x00"},
	{"operations", func(w *Writer) { w.Ops(three) }, func(r *Reader) any { return r.Ops() }, three, "\x03\x02" + mapBytes + "\x00" + lineBytes + "\x01\x00\x07"},
}

var (
	twoStretches = api.Map{Epoch: 0x0102, Starts: []int{0, 0x03040506}, Owners: []int{5, 1}}
	line         = api.Feature{Id: 0x0304, Shape: api.ShapeLine, Rings: [][]api.Point{{{X: 1, Y: 2}, {X: 0xFFFFFFFF, Y: 3}}}}
	three        = []api.Op{{Kind: api.OpMap, Map: twoStretches}, {Kind: api.OpPut, Feature: line}, {Kind: api.OpDelete, Id: 7}}
)

const (
	mapBytes  = "\x01\x02" + "\x02" + "\x00\x00\x00\x00" + "\x03\x04\x05\x06" + "\x05\x01"
	lineBytes = "\x03\x04" + "\x01" + "\x01" + "\x02" + "\x00\x00\x00\x01\x00\x00\x00\x02" + "\xff\xff\xff\xff\x00\x00\x00\x03"
)

func TestEachPart(t *testing.T) {
	for _, row := range rows {
		var w Writer
		row.write(&w)
		if w.Text() != row.bytes {
			t.Errorf("P11.1: %s: %x, not %x", row.what, w.Text(), row.bytes)
		}
		if got := row.read(NewReader(row.bytes)); fmt.Sprint(got) != fmt.Sprint(row.want) {
			t.Errorf("P11.1: %s: %v, not %v", row.what, got, row.want)
		}
	}
}

// TestPartBehindPart goes over all parts, one behind the other.
func TestPartBehindPart(t *testing.T) {
	var w Writer
	all := ""
	for _, row := range rows {
		row.write(&w)
		all += row.bytes
	}
	if w.Text() != all {
		t.Fatalf("P11.1: %x, not %x", w.Text(), all)
	}
	r := NewReader(all)
	for _, row := range rows {
		if got := row.read(r); fmt.Sprint(got) != fmt.Sprint(row.want) {
			t.Errorf("P11.1: %s behind others: %v, not %v", row.what, got, row.want)
		}
	}
}

// TestBehindTheEnd: a text that is short is read to its end, and zeros behind it.
func TestBehindTheEnd(t *testing.T) {
	r := NewReader("\x01\x02\x03")
	for i, want := range []int{0x0102, 0, 0, 0} {
		if got := r.Number(2); got != want {
			t.Errorf("P11.1: number %d: %d, not %d", i, got, want)
		}
	}
	for _, row := range rows {
		for n := range len(row.bytes) {
			row.read(NewReader(row.bytes[:n]))
		}
	}
	if ops := NewReader("").Ops(); len(ops) != 0 {
		t.Errorf("P11.1: operations of no text: %v", ops)
	}
}

// TestGreatCounts: a text of counts alone has no more parts than its bytes and one count let it.
func TestGreatCounts(t *testing.T) {
	for b := range 256 {
		ops := NewReader(strings.Repeat(string([]byte{byte(b)}), api.MaxMessage)).Ops()
		rings := 0
		for _, op := range ops {
			rings += len(op.Feature.Rings)
		}
		if len(ops) > 255 || rings > 255*255 {
			t.Errorf("P11.1: bytes %d: %d operations, %d rings", b, len(ops), rings)
		}
	}
}

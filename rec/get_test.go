package rec

import (
	"fmt"
	"math/rand"
	"strings"
	"testing"

	"furlong/api"
)

func TestGetOfKnownTexts(t *testing.T) {
	for _, k := range knownRecords() {
		r, e := Get(k.text())
		if shown(r) != shown(k.r) || e != api.OK {
			t.Errorf("P11.1: %s: Get: %v, %d, not %v", k.name, r, e, k.r)
		}
	}
}

// TestEmptyPartsOfAnAnswer: what a row does not name is zero in the answer, lists without anything.
func TestEmptyPartsOfAnAnswer(t *testing.T) {
	for name, s := range goodTexts() {
		r, _ := Get(s)
		if r.Kind == api.RecMap && (r.Tx != api.Tx{} || r.Base != 0 || r.Commit || len(r.Ops) != 0) {
			t.Errorf("R2: %s: %v", name, r)
		}
		if r.Kind != api.RecMap && (r.Map.Epoch != 0 || len(r.Map.Starts)+len(r.Map.Owners) != 0) {
			t.Errorf("R2: %s: %v", name, r.Map)
		}
		for i, op := range r.Ops {
			if op.Kind != api.OpDelete && op.Id != 0 || op.Kind != api.OpMap && len(op.Map.Starts)+len(op.Map.Owners)+op.Map.Epoch != 0 || op.Kind != api.OpPut && (op.Feature.Id != 0 || op.Feature.Shape != 0 || len(op.Feature.Rings) != 0) {
				t.Errorf("R2: %s: operation %d: %v", name, i, op)
			}
		}
	}
}

// TestBeginningsAndEnds has each good text cut anywhere.
func TestBeginningsAndEnds(t *testing.T) {
	checkNone(t, "an empty text", "")
	for name, s := range goodTexts() {
		for n := range len(s) {
			checkNone(t, "a beginning of "+name, s[:n])
		}
		for n := 1; n < len(s); n += 1 + n/50 {
			checkGet(t, "an end of "+name, s[n:])
		}
	}
}

func TestBytesBehind(t *testing.T) {
	texts := goodTexts()
	for name, s := range texts {
		for b := range 256 {
			checkNone(t, "a byte behind "+name, s+string([]byte{byte(b)}))
		}
		for _, behind := range []string{"\x00\x00", "\x01\x00\x01", strings.Repeat("\x00", 100), s, texts["a RecEnd"], strings.Repeat("x", api.MaxText)} {
			checkNone(t, "bytes behind "+name, s+behind)
		}
		for _, ahead := range []string{"\x00", "\x04", "\xff", s} {
			checkGet(t, "bytes ahead of "+name, ahead+s)
		}
	}
}

// TestAnyByteChanged changes each byte of the known texts to each other value.
func TestAnyByteChanged(t *testing.T) {
	for _, k := range knownRecords() {
		good := 0
		for at := range len(k.text()) {
			for flip := 1; flip < 256; flip++ {
				b := []byte(k.text())
				b[at] ^= byte(flip)
				if checkGet(t, fmt.Sprintf("%s, byte %d changed", k.name, at), string(b)) {
					good++
				}
			}
		}
		if good == 0 {
			t.Errorf("%s: no changed byte makes another record", k.name)
		}
	}
}

// TestTwoBytesChanged goes through all texts of the short Kinds' length.
func TestTwoBytesChanged(t *testing.T) {
	for kind := range 8 {
		for node := range 12 {
			for _, low := range []int{0, 1, 2, 255} {
				for high := range 256 {
					s := string([]byte{byte(kind), byte(node), byte(high), byte(low)})
					checkGet(t, "a short text", s)
					for commit := range 4 {
						checkGet(t, "a short text", s+string([]byte{byte(commit)}))
					}
				}
			}
		}
	}
}

// wrongTexts have one part each that no record has; all else about them is good.
func wrongTexts() map[string]string {
	name, base := "\x01\x00\x02", "\x00\x00\x00\x00"
	work, del := "\x01"+name+base, "\x01\x00\x07"
	place := "\x00\x00\x00\x05\x00\x00\x00\x06"
	other := "\x00\x00\x00\x07\x00\x00\x00\x06"
	start := "\x00\x00\x00\x00"
	return map[string]string{
		"a Kind above the last":               "\x05" + name,
		"a Kind of 255":                       "\xff" + name,
		"a Kind above the last, nothing else": "\x05",
		"a Node of MaxNodes":                  "\x04\x08\x00\x01",
		"a Node of 255":                       "\x04\xff\x00\x01",
		"a Seq of 0":                          "\x04\x01\x00\x00",
		"a Seq of 0, with work":               "\x01\x01\x00\x00" + base + "\x01" + del,
		"a Seq of 0, with a decision":         "\x03\x01\x00\x00\x01",
		"a Commit of 2":                       "\x03" + name + "\x02",
		"a Commit of 255":                     "\x03" + name + "\xff",
		"no Commit":                           "\x03" + name,
		"a Commit behind an end":              "\x04" + name + "\x01",
		"a Base above MaxSeq":                 "\x01" + name + "\x00\x01\x00\x01" + "\x01" + del,
		"a Base of all ones":                  "\x02" + name + "\xff\xff\xff\xff" + "\x01" + del,
		"no operations":                       work + "\x00",
		"more operations than are told":       work + "\x01" + del + "\x01\x00\x08",
		"less operations than are told":       work + "\x03" + del + "\x01\x00\x08",
		"33 operations":                       textOf(workOf(33)),
		"255 operations":                      textOf(workOf(255)),
		"33 told, one there":                  work + "\x21" + del,
		"255 told, none there":                work + "\xff",
		"an operation of Kind 3":              work + "\x01\x03",
		"an operation of Kind 3, as a Delete": work + "\x01\x03\x00\x07",
		"an operation of Kind 255":            work + "\x02" + del + "\xff\x00\x08",
		"a Delete of 0":                       work + "\x01\x01\x00\x00",
		"an Id twice":                         work + "\x02" + del + del,
		"a map behind":                        work + "\x02" + del + "\x02\x00\x01\x01" + start + "\x00",
		"two maps":                            work + "\x02" + strings.Repeat("\x02\x00\x01\x01"+start+"\x00", 2),
		"a feature of Id 0":                   work + "\x01\x00" + "\x00\x00\x00\x01\x01" + place,
		"a feature of Shape 3":                work + "\x01\x00" + "\x00\x01\x03\x01\x01" + place,
		"a feature without rings":             work + "\x01\x00" + "\x00\x01\x00\x00",
		"a point of two points":               work + "\x01\x00" + "\x00\x01\x00\x01\x02" + place + other,
		"a point of two rings":                work + "\x01\x00" + "\x00\x01\x00\x02" + "\x01" + place + "\x01" + other,
		"a ring without points":               work + "\x01\x00" + "\x00\x01\x00\x01\x00",
		"a line of one point":                 work + "\x01\x00" + "\x00\x01\x01\x01\x01" + place,
		"a line that stands":                  work + "\x01\x00" + "\x00\x01\x01\x01\x02" + place + place,
		"a line of 17 points":                 work + "\x01\x00" + "\x00\x01\x01\x01\x11" + strings.Repeat(place+other, 8) + place,
		"a polygon of two points":             work + "\x01\x00" + "\x00\x01\x02\x01\x02" + place + other,
		"a polygon that is closed":            work + "\x01\x00" + "\x00\x01\x02\x01\x03" + place + other + place,
		"a hole without points":               work + "\x01\x00" + "\x00\x01\x02\x02\x03" + place + other + start + start + "\x00",
		"a polygon of five rings":             work + "\x01\x00" + "\x00\x01\x02\x05" + strings.Repeat("\x03"+place+other+start+start, 5),
		"a map of Epoch 0":                    "\x00\x00\x00\x01" + start + "\x00",
		"a map without stretches":             "\x00\x00\x01\x00",
		"a map whose first Start is not 0":    "\x00\x00\x01\x01\x00\x00\x00\x01\x00",
		"a map whose Starts stand":            "\x00\x00\x01\x02" + start + start + "\x00\x00",
		"a map whose Starts fall":             "\x00\x00\x01\x03" + start + "\x00\x00\x01\x00" + "\x00\x00\x00\xff" + "\x00\x00\x00",
		"a map of the Owner MaxNodes":         "\x00\x00\x01\x01" + start + "\x08",
		"a map of the Owner 255":              "\x00\x00\x01\x01" + start + "\xff",
		"a map of an Owner too few":           "\x00\x00\x01\x02" + start + place[:4] + "\x00",
		"a map of an Owner too many":          "\x00\x00\x01\x02" + start + place[:4] + "\x00\x00\x00",
		"a map of 33 stretches":               textOf(mapRecord(longMap(33))),
		"a map of 255 stretches":              textOf(mapRecord(longMap(255))),
		"a name behind a map":                 "\x00\x00\x01\x01" + start + "\x00" + name,
	}
}

// workOf has so many operations.
func workOf(many int) api.Record {
	return work(api.RecBegin, 0, deletes(1, many)...)
}

func TestWrongTexts(t *testing.T) {
	for name, s := range wrongTexts() {
		checkNone(t, name, s)
		if _, is := recordOf(s); is {
			t.Errorf("%s: the test's reader tells a record", name)
		}
	}
}

// TestTextsOfOneByteMany has great counts in all places.
func TestTextsOfOneByteMany(t *testing.T) {
	for b := range 256 {
		for _, n := range []int{1, 2, 3, 4, 5, 7, 9, 100, api.MaxRecord - 1, api.MaxRecord, api.MaxRecord + 1, api.MaxText, api.MaxText * 4} {
			checkGet(t, fmt.Sprintf("%d bytes of %d", n, b), strings.Repeat(string([]byte{byte(b)}), n))
		}
	}
}

// TestLongTexts: all about such a text is right but its length.
func TestLongTexts(t *testing.T) {
	for size := api.MaxRecord + 1; size < api.MaxRecord+100; size++ {
		checkNone(t, fmt.Sprintf("a text of %d bytes", size), textOf(recordOfSize(api.RecPrepare, size)))
	}
}

// TestAnyTexts mixes changed, lost and put-in bytes.
func TestAnyTexts(t *testing.T) {
	r := rand.New(rand.NewSource(12))
	good := 0
	const many = 30000
	for range many {
		b := []byte(textOf(anyRecord(r)))
		for range r.Intn(3) {
			at := r.Intn(len(b))
			switch r.Intn(4) {
			case 0:
				b[at] = byte(r.Intn(4))
			case 1:
				b[at] ^= 1 << r.Intn(8)
			case 2:
				b = append(b[:at:at], b[at+1:]...)
			case 3:
				b = append(b[:at:at], append([]byte{byte(r.Intn(4))}, b[at:]...)...)
			}
			if len(b) == 0 {
				break
			}
		}
		if checkGet(t, "a random text", string(b)) {
			good++
		}
	}
	if good < many/10 || good > many-many/10 {
		t.Errorf("of %d texts %d are records", many, good)
	}
}

// FuzzGet takes any texts; go test goes through the good and the wrong ones alone.
func FuzzGet(f *testing.F) {
	for _, s := range goodTexts() {
		f.Add(s)
	}
	for _, s := range wrongTexts() {
		f.Add(s)
	}
	f.Fuzz(func(t *testing.T, s string) {
		checkGet(t, "a text", s)
	})
}

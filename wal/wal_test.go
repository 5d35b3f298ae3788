package wal

import (
	"encoding/binary"
	"fmt"
	"hash/crc32"
	"math"
	"math/rand"
	"slices"
	"strings"
	"sync"
	"sync/atomic"
	"testing"
	"unsafe"

	"furlong/api"
	"furlong/disk"
)

// zeros is what a sector holds that was never written.
var zeros = strings.Repeat("\x00", 64)

// framed is the frame of a number and a text as chapter 9's words tell it.
func framed(lsn int, data string) string {
	b := binary.BigEndian.AppendUint32(nil, uint32(lsn))
	b = binary.BigEndian.AppendUint16(b, uint16(len(data)))
	sum := crc32.ChecksumIEEE([]byte(string(b) + data))
	s := "FR" + string(binary.BigEndian.AppendUint32(b, sum)) + data
	return s + strings.Repeat("\x00", (64-len(s)%64)%64)
}

// cut is a text of whole sectors, sector by sector.
func cut(s string) []string {
	var all []string
	for at := 0; at < len(s); at += 64 {
		all = append(all, s[at:at+64])
	}
	return all
}

// needs is how many sectors the frame of a text has.
func needs(data string) int {
	return (12 + len(data) + 63) / 64
}

// bytesOf is a text of so many bytes, of all values, that hang on k.
func bytesOf(k, size int) string {
	b := make([]byte, size)
	for i := range b {
		b[i] = byte(i*7 + i/256 + k)
	}
	return string(b)
}

// found is what stands on sectors: the frames of 0, 1, .., each one's length read and its frame made anew.
func found(holds []string) []string {
	s := strings.Join(holds, "")
	var texts []string
	for lsn := 0; ; lsn++ {
		if len(s) < 12 {
			return texts
		}
		size := int(s[6])<<8 | int(s[7])
		if size > 8192 || 12+size > len(s) {
			return texts
		}
		data := s[12 : 12+size]
		if !strings.HasPrefix(s, framed(lsn, data)) {
			return texts
		}
		texts, s = append(texts, data), s[64*needs(data):]
	}
}

// plain is a log as the chapter's words tell it, with all that its disk holds.
type plain struct {
	holds  []string
	fresh  []bool
	texts  []string
	used   int
	held   int
	forced int
}

// opened is the log that Open has to tell of a disk that holds so.
func opened(holds []string) *plain {
	p := &plain{texts: found(holds), fresh: make([]bool, len(holds))}
	for lsn, data := range p.texts {
		p.holds = append(p.holds, cut(framed(lsn, data))...)
	}
	p.used, p.forced = len(p.holds), len(p.texts)
	for len(p.holds) < len(holds) {
		p.holds = append(p.holds, zeros)
	}
	return p
}

func (p *plain) room() int {
	return len(p.holds) - p.used - p.held
}

func (p *plain) put(data string) {
	for _, s := range cut(framed(len(p.texts), data)) {
		p.holds[p.used], p.fresh[p.used] = s, true
		p.used++
	}
	p.texts = append(p.texts, data)
}

// append, use, hold, free and force tell what the log's have to answer.
func (p *plain) append(data string) api.Errno {
	switch {
	case len(data) > 8192:
		return api.ErrWalForm
	case needs(data) > p.room():
		return api.ErrWalFull
	}
	p.put(data)
	return api.OK
}

func (p *plain) use(data string) api.Errno {
	if len(data) > 52 || p.held == 0 {
		return api.ErrWalForm
	}
	p.put(data)
	p.held--
	return api.OK
}

func (p *plain) hold(k int) bool {
	if k < 0 || k > p.room() {
		return false
	}
	p.held += k
	return true
}

func (p *plain) free(k int) api.Errno {
	if k < 0 || k > p.held {
		return api.ErrWalForm
	}
	p.held -= k
	return api.OK
}

func (p *plain) force() {
	clear(p.fresh)
	p.forced = len(p.texts)
}

func (p *plain) dirty() int {
	n := 0
	for _, is := range p.fresh {
		if is {
			n++
		}
	}
	return n
}

// bench is a log and its disk beside the plain one.
type bench struct {
	t *testing.T
	d *disk.Disk
	w *Wal
	p *plain
}

// read is all that a disk holds.
func read(t *testing.T, d *disk.Disk) []string {
	t.Helper()
	var all []string
	for at := range d.Sectors() {
		s, e := d.Read(at)
		if e != api.OK {
			t.Fatalf("Read(%d): %d", at, e)
		}
		all = append(all, s)
	}
	return all
}

// open opens a log over d, and holds against the chapter's words what it tells and leaves.
func open(t *testing.T, what string, d *disk.Disk) *bench {
	t.Helper()
	p := opened(read(t, d))
	w, texts, e := Open(d)
	if w == nil || e != api.OK || !slices.Equal(texts, p.texts) {
		t.Fatalf("P10.1: %s: Open: a log: %t, %d texts, not %d: %.200q, not %.200q, %d", what, w != nil, len(texts), len(p.texts), texts, p.texts, e)
	}
	b := &bench{t, d, w, p}
	b.check("P10.1: " + what)
	return b
}

// made is a new log on a new disk.
func made(t *testing.T, sectors int) *bench {
	t.Helper()
	d, e := disk.New(sectors)
	if e != api.OK {
		t.Fatalf("New(%d): %d", sectors, e)
	}
	return open(t, "a new disk", d)
}

// check holds all that the log tells, and all that the disk holds, against the plain one.
func (b *bench) check(what string) {
	b.t.Helper()
	if n := b.w.Next(); n != len(b.p.texts) {
		b.t.Fatalf("%s: Next: %d, not %d", what, n, len(b.p.texts))
	}
	if n := b.w.Room(); n != b.p.room() {
		b.t.Fatalf("%s: Room: %d, not %d", what, n, b.p.room())
	}
	if n := b.d.Dirty(); n != b.p.dirty() {
		b.t.Fatalf("%s: %d unsynced sectors, not %d", what, n, b.p.dirty())
	}
	for at, s := range read(b.t, b.d) {
		if s != b.p.holds[at] {
			b.t.Fatalf("%s: sector %d holds %q, not %q", what, at, s, b.p.holds[at])
		}
	}
	b.checkHeld(what)
}

// checkHeld frees all that is held, and holds it again.
func (b *bench) checkHeld(what string) {
	b.t.Helper()
	held := b.p.held
	if e := b.w.Free(held + 1); e != api.ErrWalForm {
		b.t.Fatalf("%s: Free(%d) of %d: %d", what, held+1, held, e)
	}
	if e := b.w.Free(held); e != api.OK {
		b.t.Fatalf("%s: Free(%d) of %d: %d", what, held, held, e)
	}
	if n := b.w.Room(); n != b.p.room()+held {
		b.t.Fatalf("%s: none is held, Room: %d, not %d", what, n, b.p.room()+held)
	}
	if !b.w.Hold(held) {
		b.t.Fatalf("%s: Hold(%d): false", what, held)
	}
}

func (b *bench) append(what, data string) api.Errno {
	b.t.Helper()
	e, want := b.w.Append(data), b.p.append(data)
	if e != want {
		b.t.Fatalf("P10.2: %s: Append(%d bytes): %d, not %d", what, len(data), e, want)
	}
	b.check("P10.2: " + what + ": behind Append")
	return e
}

func (b *bench) use(what, data string) api.Errno {
	b.t.Helper()
	e, want := b.w.Use(data), b.p.use(data)
	if e != want {
		b.t.Fatalf("P10.2: %s: Use(%d bytes): %d, not %d", what, len(data), e, want)
	}
	b.check("P10.2: " + what + ": behind Use")
	return e
}

func (b *bench) hold(what string, k int) bool {
	b.t.Helper()
	is, want := b.w.Hold(k), b.p.hold(k)
	if is != want {
		b.t.Fatalf("P10.2: %s: Hold(%d): %t, not %t", what, k, is, want)
	}
	b.check("P10.2: " + what + ": behind Hold")
	return is
}

func (b *bench) free(what string, k int) api.Errno {
	b.t.Helper()
	e, want := b.w.Free(k), b.p.free(k)
	if e != want {
		b.t.Fatalf("P10.2: %s: Free(%d): %d, not %d", what, k, e, want)
	}
	b.check("P10.2: " + what + ": behind Free")
	return e
}

func (b *bench) force(what string) {
	b.t.Helper()
	if e := b.w.Force(); e != api.OK {
		b.t.Fatalf("P10.2: %s: Force: %d", what, e)
	}
	b.p.force()
	b.check("P10.2: " + what + ": behind Force")
}

// crash crashes the disk, opens the log anew, and holds what is told against what was written and forced.
func (b *bench) crash(what string, c api.Crash) *bench {
	b.t.Helper()
	if e := b.d.Crash(c); e != api.OK {
		b.t.Fatalf("Crash(%+v): %d", c, e)
	}
	what += fmt.Sprintf(", behind %+v", c)
	after := open(b.t, what, b.d)
	told := after.p.texts
	if len(told) < b.p.forced {
		b.t.Fatalf("P10.3: %s: %d texts are told, %d were forced", what, len(told), b.p.forced)
	}
	if len(told) > len(b.p.texts) || !slices.Equal(told, b.p.texts[:len(told)]) {
		b.t.Fatalf("P10.3: %s: %.200q is no beginning of %.200q", what, told, b.p.texts)
	}
	return after
}

// must finds no error.
func must(t *testing.T, what string, e api.Errno) {
	t.Helper()
	if e != api.OK {
		t.Fatalf("%s: %d", what, e)
	}
}

// refused finds an error: what was asked in vain has been held against the plain log already.
func refused(t *testing.T, what string, e, want api.Errno) {
	t.Helper()
	if e != want {
		t.Fatalf("%s: %d, not %d", what, e, want)
	}
}

func TestOpenOfNewDisks(t *testing.T) {
	for sectors := 1; sectors <= 1024; sectors++ {
		b := made(t, sectors)
		if len(b.p.texts) != 0 || b.w.Room() != sectors || b.w.Next() != 0 {
			t.Fatalf("P10.1: of %d sectors: Room %d, Next %d", sectors, b.w.Room(), b.w.Next())
		}
	}
}

func TestKnownLog(t *testing.T) {
	b := made(t, 6)
	must(t, "P10.2: Append", b.append("known", ""))
	b.hold("known", 1)
	must(t, "P10.2: Append", b.append("known", strings.Repeat("a", 53)))
	must(t, "P10.2: Use", b.use("known", "b"))
	want := []string{
		"FR\x00\x00\x00\x00\x00\x00\xb1\xc2\xa1\xa3" + strings.Repeat("\x00", 52),
		"FR\x00\x00\x00\x01\x00\x35\x41\x90\x22\x9b" + strings.Repeat("a", 52),
		"a" + strings.Repeat("\x00", 63),
		"FR\x00\x00\x00\x02\x00\x01\x8d\xc2\x26\xc0" + "b" + strings.Repeat("\x00", 51),
		zeros,
		zeros,
	}
	for at, s := range read(t, b.d) {
		if s != want[at] {
			t.Errorf("P10.2: sector %d: %q, not %q", at, s, want[at])
		}
	}
	b = open(t, "known", b.d)
	if !slices.Equal(b.p.texts, []string{"", strings.Repeat("a", 53), "b"}) || b.w.Next() != 3 || b.w.Room() != 2 {
		t.Errorf("P10.1: %q, Next %d, Room %d", b.p.texts, b.w.Next(), b.w.Room())
	}
}

// sizes fill sectors just so, leave one byte, take one more.
var sizes = []int{0, 1, 2, 51, 52, 53, 64, 115, 116, 117, 128, 179, 180, 181, 1000, 4095, 4096, 4097, 8179, 8180, 8181, 8191, 8192}

// TestEachSize has one text on a disk that it fills just so, that leaves a sector, that lacks one.
func TestEachSize(t *testing.T) {
	for _, size := range sizes {
		data := bytesOf(size, size)
		k := needs(data)
		b := made(t, k)
		must(t, "P10.2: a text that fills the disk", b.append("fills", data))
		open(t, "a text that fills the disk", b.d)
		b = made(t, k+1)
		must(t, "P10.2: a text that leaves a sector", b.append("leaves", data))
		if b.w.Room() != 1 {
			t.Errorf("P10.1: %d bytes: Room %d, not 1", size, b.w.Room())
		}
		open(t, "a text that leaves a sector", b.d)
		if k > 1 {
			b = made(t, k-1)
			refused(t, "P10.2: a text that lacks a sector", b.append("lacks", data), api.ErrWalFull)
			open(t, "a text that lacks a sector", b.d)
		}
	}
}

// TestOneBehindTheOther opens the log again behind each text, and goes on with it.
func TestOneBehindTheOther(t *testing.T) {
	b := made(t, 1024)
	for k, size := range sizes {
		must(t, "P10.2: Append", b.append("a row", bytesOf(k, size)))
		if k%2 == 1 {
			b = open(t, "a row", b.d)
		}
	}
	if b = open(t, "a row", b.d); len(b.p.texts) != len(sizes) {
		t.Errorf("P10.1: %d texts, not %d", len(b.p.texts), len(sizes))
	}
}

func TestFullToTheLastSector(t *testing.T) {
	d, e := disk.New(1024)
	must(t, "New", e)
	w, _, e := Open(d)
	must(t, "P10.1: Open", e)
	for n := range 1024 {
		if w.Room() != 1024-n || w.Next() != n {
			t.Fatalf("P10.1: %d texts: Room %d, Next %d", n, w.Room(), w.Next())
		}
		must(t, "P10.2: Append", w.Append(bytesOf(n, n%53)))
	}
	b := open(t, "full", d)
	if len(b.p.texts) != 1024 || b.w.Room() != 0 {
		t.Fatalf("P10.1: %d texts, Room %d", len(b.p.texts), b.w.Room())
	}
	refused(t, "P10.2: a full log", b.append("full", ""), api.ErrWalFull)
	refused(t, "P10.2: a full log", b.append("full", bytesOf(1, 8192)), api.ErrWalFull)
	refused(t, "P10.2: a full log", b.append("full", bytesOf(1, 8193)), api.ErrWalForm)
	refused(t, "P10.2: a full log", b.use("full", ""), api.ErrWalForm)
	if b.hold("full", 1) || !b.hold("full", 0) {
		t.Error("P10.2: Hold of a full log")
	}
}

func TestGreatTexts(t *testing.T) {
	b := made(t, 1024)
	for k := range 7 {
		must(t, "P10.2: 8,192 bytes", b.append("great", bytesOf(k, 8192)))
	}
	if b.w.Room() != 1024-7*129 {
		t.Errorf("P10.1: Room %d", b.w.Room())
	}
	refused(t, "P10.2: 8,192 bytes", b.append("great", bytesOf(7, 8192)), api.ErrWalFull)
	must(t, "P10.2: to the last sector", b.append("great", bytesOf(8, 121*64-12)))
	open(t, "great", b.d)
}

// TestTooLong: no text that is too long for a frame is written, whatever room there is.
func TestTooLong(t *testing.T) {
	for _, size := range []int{8193, 8244, 8245, 16384, 1<<16 - 1, 1 << 16, 1<<16 + 1, 1<<16 + 20} {
		long := bytesOf(3, size)
		for _, sectors := range []int{1, 128, 129, 1024} {
			b := made(t, sectors)
			refused(t, "P10.2: too long, none held", b.append("long", long), api.ErrWalForm)
			refused(t, "P10.2: too long, none held", b.use("long", long), api.ErrWalForm)
			b.hold("long", sectors)
			refused(t, "P10.2: too long, no room", b.append("long", long), api.ErrWalForm)
			refused(t, "P10.2: too long, all held", b.use("long", long), api.ErrWalForm)
			open(t, "long", b.d)
		}
	}
}

// TestWhatIsHeldIsNoRoom holds each number of sectors of a disk, and asks for texts of each number of sectors.
func TestWhatIsHeldIsNoRoom(t *testing.T) {
	const sectors = 6
	for held := range sectors + 1 {
		for k := 1; k <= sectors; k++ {
			for _, size := range []int{max(64*k-75, 0), 64*k - 12} {
				b := made(t, sectors)
				b.hold("held", held)
				e := b.append("held", bytesOf(k, size))
				if (e == api.OK) != (k <= sectors-held) {
					t.Fatalf("P10.2: %d of %d held, a text of %d sectors: %d", held, sectors, k, e)
				}
			}
		}
	}
}

func TestHold(t *testing.T) {
	const sectors = 9
	wrong := []int{-1, -2, -9, math.MinInt, math.MinInt + 1, -1 << 32, -1<<32 + 1}
	for used := range sectors + 1 {
		for held := range sectors - used + 1 {
			b := made(t, sectors)
			for range used {
				must(t, "P10.2: Append", b.append("hold", "x"))
			}
			if !b.hold("hold", held) {
				t.Fatalf("P10.2: Hold(%d) of %d", held, sectors-used)
			}
			room := sectors - used - held
			for _, k := range append(wrong, room+1, room+2, 10, 1024, 1<<32, 1<<32+1, 1<<62, math.MaxInt-1, math.MaxInt) {
				if b.hold("hold", k) {
					t.Fatalf("P10.2: Hold(%d) of %d", k, room)
				}
			}
			if !b.hold("hold", 0) || !b.hold("hold", room) {
				t.Fatalf("P10.2: Hold(0) or Hold(%d) of %d", room, room)
			}
			if b.hold("hold", 1) || !b.hold("hold", 0) {
				t.Fatal("P10.2: Hold with no room")
			}
		}
	}
}

func TestFree(t *testing.T) {
	wrong := []int{-1, -2, math.MinInt, math.MinInt + 1, -1 << 32, 1 << 32, 1 << 62, math.MaxInt - 1, math.MaxInt}
	for held := range 8 {
		for k := range held + 1 {
			b := made(t, 7)
			b.hold("free", held)
			for _, n := range append(wrong, held+1, held+2, 7+held+1, 1<<32+held, held-1<<32) {
				refused(t, "P10.2: Free", b.free("free", n), api.ErrWalForm)
			}
			must(t, "P10.2: Free", b.free("free", 0))
			must(t, "P10.2: Free", b.free("free", k))
			if b.w.Room() != 7-held+k {
				t.Fatalf("P10.2: %d of %d are free: Room %d", k, held, b.w.Room())
			}
			refused(t, "P10.2: Free", b.free("free", held-k+1), api.ErrWalForm)
			must(t, "P10.2: Free", b.free("free", held-k))
			refused(t, "P10.2: Free of none", b.free("free", 1), api.ErrWalForm)
			must(t, "P10.2: Free of none", b.free("free", 0))
		}
	}
}

func TestUse(t *testing.T) {
	for _, size := range []int{0, 1, 51, 52} {
		b := made(t, 4)
		refused(t, "P10.2: Use, none held", b.use("use", bytesOf(1, size)), api.ErrWalForm)
		b.hold("use", 3)
		room := b.w.Room()
		for n := range 3 {
			must(t, "P10.2: Use", b.use("use", bytesOf(n, size)))
			if b.w.Room() != room || b.w.Next() != n+1 || b.p.held != 2-n {
				t.Fatalf("P10.2: %d used: Room %d, Next %d", n+1, b.w.Room(), b.w.Next())
			}
		}
		refused(t, "P10.2: Use, none held any more", b.use("use", bytesOf(1, size)), api.ErrWalForm)
		must(t, "P10.2: Append behind Use", b.append("use", bytesOf(4, size)))
		open(t, "used", b.d)
	}
}

func TestUseOfTooGreatTexts(t *testing.T) {
	for _, size := range []int{53, 54, 116, 117, 8192, 8193, 1 << 16} {
		b := made(t, 200)
		refused(t, "P10.2: Use, none held", b.use("great", bytesOf(1, size)), api.ErrWalForm)
		for _, k := range []int{1, 1, 127, 71} {
			b.hold("great", k)
			refused(t, "P10.2: Use", b.use("great", bytesOf(1, size)), api.ErrWalForm)
		}
		must(t, "P10.2: Use", b.use("great", bytesOf(1, 52)))
	}
}

// TestUseWithNoRoom: what is held is there, when no text can be appended any more.
func TestUseWithNoRoom(t *testing.T) {
	b := made(t, 5)
	b.hold("no room", 2)
	must(t, "P10.2: Append", b.append("no room", bytesOf(1, 100)))
	must(t, "P10.2: Append", b.append("no room", ""))
	refused(t, "P10.2: Append", b.append("no room", ""), api.ErrWalFull)
	must(t, "P10.2: Use", b.use("no room", "a"))
	refused(t, "P10.2: Append", b.append("no room", ""), api.ErrWalFull)
	must(t, "P10.2: Use", b.use("no room", "b"))
	refused(t, "P10.2: Use", b.use("no room", "c"), api.ErrWalForm)
	if b = open(t, "no room", b.d); !slices.Equal(b.p.texts, []string{bytesOf(1, 100), "", "a", "b"}) {
		t.Errorf("P10.1: %q", b.p.texts)
	}
}

// TestForce: all of the disk is synced, also what others wrote there, and nothing ahead of Force is.
func TestForce(t *testing.T) {
	b := made(t, 8)
	b.force("nothing written")
	must(t, "P10.2: Append", b.append("force", bytesOf(1, 100)))
	b.hold("force", 1)
	must(t, "P10.2: Use", b.use("force", "x"))
	if b.d.Dirty() != 3 {
		t.Errorf("P10.2: %d sectors are unsynced ahead of Force", b.d.Dirty())
	}
	b.force("force")
	b.d.Write(7, bytesOf(1, 64))
	if e := b.w.Force(); e != api.OK || b.d.Dirty() != 0 {
		t.Errorf("P10.2: Force: %d, %d sectors are unsynced", e, b.d.Dirty())
	}
}

func TestOpenHoldsNothing(t *testing.T) {
	b := made(t, 5)
	must(t, "P10.2: Append", b.append("held", "x"))
	b.hold("held", 4)
	b = open(t, "held", b.d)
	if b.w.Room() != 4 {
		t.Errorf("P10.1: Room %d", b.w.Room())
	}
	refused(t, "P10.2: Use behind Open", b.use("held", ""), api.ErrWalForm)
	refused(t, "P10.2: Free behind Open", b.free("held", 1), api.ErrWalForm)
}

// row is a log of some texts, of one sector and of several, on a disk with sectors behind them.
var row = []string{"", bytesOf(1, 52), bytesOf(2, 53), bytesOf(3, 180), "x", bytesOf(5, 181), bytesOf(6, 30)}

// placed is a disk that holds such sectors, all synced.
func placed(t *testing.T, holds []string) *disk.Disk {
	t.Helper()
	d, e := disk.New(len(holds))
	must(t, "New", e)
	for at, s := range holds {
		must(t, "Write", d.Write(at, s))
	}
	must(t, "Sync", d.Sync())
	return d
}

// rowHolds is what the sectors of row hold, so many of bytes 0 behind them, and where each text begins.
func rowHolds(behind int) ([]string, []int) {
	var holds []string
	var starts []int
	for lsn, data := range row {
		starts = append(starts, len(holds))
		holds = append(holds, cut(framed(lsn, data))...)
	}
	starts = append(starts, len(holds))
	for range behind {
		holds = append(holds, zeros)
	}
	return holds, starts
}

// checkStops opens a log over sectors, finds so many texts of row, loses nothing of it in a crash, and goes on.
func checkStops(t *testing.T, what string, holds []string, texts int) {
	t.Helper()
	b := open(t, what, placed(t, holds))
	if len(b.p.texts) != texts || !slices.Equal(b.p.texts, row[:texts]) {
		t.Fatalf("P10.1: %s: %d texts, not %d", what, len(b.p.texts), texts)
	}
	b = b.crash(what, api.Crash{Torn: -1})
	b.checkGoesOn(what)
}

// checkGoesOn writes one text of one sector and one of two behind what Open told, and finds them.
func (b *bench) checkGoesOn(what string) {
	b.t.Helper()
	for _, data := range []string{"on", bytesOf(9, 70)} {
		b.append(what, data)
	}
	b.force(what)
	before := b.p.texts
	after := b.crash(what, api.Crash{Keep: 3, Torn: -1})
	if !slices.Equal(after.p.texts, before) {
		b.t.Fatalf("P10.3: %s: what was written behind Open is not told", what)
	}
}

func TestOpenOfTheRow(t *testing.T) {
	for behind := range 4 {
		holds, _ := rowHolds(behind)
		checkStops(t, "the row", holds, len(row))
	}
}

// TestStopsAtAnyByte changes each byte of each frame: its head, its text, its bytes 0.
func TestStopsAtAnyByte(t *testing.T) {
	holds, starts := rowHolds(3)
	for lsn := range row {
		for at := starts[lsn]; at < starts[lsn+1]; at++ {
			for i := range 64 {
				for _, flip := range []byte{1, 0x80, 0xff} {
					b := []byte(holds[at])
					b[i] ^= flip
					spoilt := slices.Clone(holds)
					spoilt[at] = string(b)
					checkStops(t, fmt.Sprintf("byte %d of sector %d of text %d", i, at-starts[lsn], lsn), spoilt, lsn)
				}
			}
		}
	}
}

// TestStopsAtASpoiltSector has a whole sector lost, of others' bytes, or that of another place.
func TestStopsAtASpoiltSector(t *testing.T) {
	holds, starts := rowHolds(3)
	for lsn := range row {
		for at := starts[lsn]; at < starts[lsn+1]; at++ {
			for _, s := range []string{zeros, bytesOf(77, 64), strings.Repeat("\xff", 64), strings.Repeat("FR", 32), holds[(at+1)%len(holds)]} {
				if s == holds[at] {
					continue
				}
				spoilt := slices.Clone(holds)
				spoilt[at] = s
				checkStops(t, fmt.Sprintf("sector %d of text %d", at-starts[lsn], lsn), spoilt, lsn)
			}
		}
	}
}

// TestStopsAtOtherNumbers has whole frames, of numbers that are not the next.
func TestStopsAtOtherNumbers(t *testing.T) {
	for lsn := range row {
		for _, other := range []int{lsn - 1, lsn + 1, lsn + 2, lsn ^ 1<<8, lsn + 1<<16, lsn + 1<<24, 1<<32 - 1} {
			holds, starts := rowHolds(3)
			if other >= 0 {
				copy(holds[starts[lsn]:], cut(framed(other, row[lsn])))
				checkStops(t, fmt.Sprintf("number %d where %d is the next", other, lsn), holds, lsn)
			}
		}
	}
}

// TestStopsAtAGap: the next frame stands a sector behind its place, or one stands twice.
func TestStopsAtAGap(t *testing.T) {
	holds, starts := rowHolds(3)
	for lsn := range row {
		checkStops(t, "a gap", slices.Insert(slices.Clone(holds), starts[lsn], zeros), lsn)
		again := slices.Insert(slices.Clone(holds), starts[lsn+1], cut(framed(lsn, row[lsn]))...)
		checkStops(t, "a frame twice", again, lsn+1)
	}
}

// TestStopsAtTheEnd ends the disk within each frame.
func TestStopsAtTheEnd(t *testing.T) {
	holds, starts := rowHolds(0)
	for lsn := range row {
		for end := starts[lsn] + 1; end < starts[lsn+1]; end++ {
			checkStops(t, "a frame that would end behind the disk", holds[:end], lsn)
		}
	}
	for _, sectors := range []int{1, 64, 128} {
		checkStops(t, "a frame that would end behind the disk", cut(framed(0, bytesOf(1, 8192)))[:sectors], 0)
	}
}

// TestStopsAtTooLongTexts: all about such a frame is right but how long its text is.
func TestStopsAtTooLongTexts(t *testing.T) {
	for _, size := range []int{8193, 8245, 65535} {
		holds := append(cut(framed(0, row[0])), cut(framed(1, bytesOf(1, size)))...)
		if len(holds) > 1024 {
			holds = holds[:1024]
		}
		checkStops(t, "a text that is too long", holds, 1)
	}
}

// TestWipes has each sector behind the frames hold what is not 0, in its first byte, its last, in all.
func TestWipes(t *testing.T) {
	for _, s := range []string{"\x01" + zeros[1:], zeros[1:] + "\x80", strings.Repeat("\xff", 64), bytesOf(1, 64), framed(0, "x"), framed(len(row), "x")} {
		holds, starts := rowHolds(6)
		end := starts[len(row)]
		for at := end; at < len(holds); at++ {
			if at == end && s == framed(len(row), "x") {
				continue
			}
			spoilt := slices.Clone(holds)
			spoilt[at] = s
			checkStops(t, fmt.Sprintf("sector %d behind the frames", at-end), spoilt, len(row))
		}
	}
	full := make([]string, 1024)
	for at := range full {
		full[at] = bytesOf(at, 64)
	}
	checkStops(t, "a disk of 1,024 sectors of bytes", full, 0)
	checkStops(t, "a disk of one sector of bytes", full[:1], 0)
}

// TestFramesWithinTexts: what a text holds is no frame, though it looks like the next one, at a sector's beginning.
func TestFramesWithinTexts(t *testing.T) {
	b := made(t, 12)
	must(t, "P10.2: Append", b.append("within", strings.Repeat("x", 52)+framed(1, "within")+framed(2, "within")))
	b = open(t, "within", b.d)
	must(t, "P10.2: Append", b.append("within", "behind"))
	if b = open(t, "within", b.d); len(b.p.texts) != 2 || b.p.texts[1] != "behind" {
		t.Errorf("P10.1: %q", b.p.texts)
	}
	b = made(t, 12)
	must(t, "P10.2: Append", b.append("within", strings.Repeat("x", 52)+framed(0, "within")+framed(1, "within")))
	if b = b.crash("within", api.Crash{Keep: 6, Torn: -1}); len(b.p.texts) != 0 {
		t.Errorf("P10.3: %q", b.p.texts)
	}
	must(t, "P10.2: Append", b.append("within", "a"))
	open(t, "within", b.d)
}

// TestOpenSyncs: also where nothing is to be written behind the frames, a crash behind Open changes nothing.
func TestOpenSyncs(t *testing.T) {
	for _, sectors := range []int{3, 5} {
		b := made(t, sectors)
		must(t, "P10.2: Append", b.append("syncs", bytesOf(1, 100)))
		must(t, "P10.2: Append", b.append("syncs", "x"))
		b = open(t, "unsynced ahead of Open", b.d)
		if b = b.crash("syncs", api.Crash{Torn: -1}); len(b.p.texts) != 2 {
			t.Errorf("P10.1: %d texts behind Open and a crash", len(b.p.texts))
		}
	}
	b := made(t, 4)
	b.d.Write(3, bytesOf(1, 64))
	b = open(t, "unsynced behind the frames", b.d)
	b.crash("unsynced behind the frames", api.Crash{Keep: -1, Torn: -1})
}

// TestLostDoesNotComeUp: behind a text that was lost one was kept; another text that reaches as far as the lost one does not bring it up.
func TestLostDoesNotComeUp(t *testing.T) {
	for keep := range 16 {
		b := made(t, 6)
		must(t, "P10.2: Append", b.append("lost", bytesOf(1, 100)))
		must(t, "P10.2: Append", b.append("lost", "ghost"))
		b = b.crash("lost", api.Crash{Keep: 4, Torn: -1})
		if len(b.p.texts) != 0 {
			t.Fatalf("P10.3: %q", b.p.texts)
		}
		must(t, "P10.2: Append", b.append("lost", bytesOf(2, 100)))
		b = b.crash("later", api.Crash{Keep: keep, Torn: -1})
		want := 0
		if keep&3 == 3 {
			want = 1
		}
		if len(b.p.texts) != want {
			t.Fatalf("P10.3: %.200q", b.p.texts)
		}
	}
}

// TestAllSmallCrashes goes through all crashes of six unsynced sectors, behind a text that was forced.
func TestAllSmallCrashes(t *testing.T) {
	for keep := range 64 {
		for torn := -1; torn < 6; torn++ {
			for _, length := range []int{0, 1, 6, 12, 13, 31, 63, 64} {
				if torn >= 0 || length == 0 {
					checkSmallCrash(t, api.Crash{Keep: keep, Torn: torn, Bytes: length})
				}
			}
		}
	}
}

func checkSmallCrash(t *testing.T, c api.Crash) {
	t.Helper()
	b := made(t, 12)
	must(t, "P10.2: Append", b.append("small", bytesOf(1, 60)))
	b.hold("small", 2)
	b.force("small")
	for _, data := range []string{bytesOf(2, 100), "x"} {
		must(t, "P10.2: Append", b.append("small", data))
	}
	must(t, "P10.2: Use", b.use("small", "y"))
	must(t, "P10.2: Append", b.append("small", bytesOf(3, 116)))
	b = b.crash("small", c)
	must(t, "P10.2: Append", b.append("small", bytesOf(4, 90)))
	// What comes of the second crash is held against what is behind the first: nothing that was lost may come up.
	b = b.crash("small, again", api.Crash{Keep: c.Keep>>1 | 1, Torn: 5 - c.Torn, Bytes: c.Bytes})
	b.checkGoesOn("small")
}

// TestAnyRuns mixes all calls, what may not be, crashes and what others write behind the frames.
func TestAnyRuns(t *testing.T) {
	r := rand.New(rand.NewSource(10))
	for range 300 {
		b := made(t, 1+r.Intn(90))
		for range 100 {
			b = anyStep(b, r)
		}
	}
}

func anyStep(b *bench, r *rand.Rand) *bench {
	b.t.Helper()
	switch r.Intn(12) {
	case 0:
		b.hold("any", r.Intn(len(b.p.holds)/3+4)-2)
	case 1:
		b.free("any", r.Intn(8)-2)
	case 2:
		b.force("any")
	case 3:
		return b.crash("any", api.Crash{Keep: int(r.Uint64()), Torn: r.Intn(12) - 1, Bytes: r.Intn(65)})
	case 4:
		return b.crash("any, most kept", api.Crash{Keep: -1 ^ 1<<r.Intn(10), Torn: r.Intn(12) - 1, Bytes: r.Intn(65)})
	case 5, 6, 7:
		b.use("any", bytesOf(r.Intn(256), r.Intn(60)))
	case 8:
		b.append("any", bytesOf(r.Intn(256), r.Intn(3000)))
	default:
		b.append("any", bytesOf(r.Intn(256), r.Intn(200)))
	}
	return b
}

// TestManyUnsynced crashes with more unsynced sectors than a crash's Keep has bits.
func TestManyUnsynced(t *testing.T) {
	r := rand.New(rand.NewSource(11))
	for range 50 {
		b := made(t, 1024)
		for n := range 3 {
			for k := range 12 {
				b.append("many", bytesOf(k+n, r.Intn(600)))
			}
			if r.Intn(3) == 0 {
				b.force("many")
			}
			b = b.crash("many", api.Crash{Keep: -1 ^ r.Intn(2)<<r.Intn(60), Torn: r.Intn(80) - 1, Bytes: r.Intn(65)})
		}
	}
}

func TestNil(t *testing.T) {
	if w, texts, e := Open(nil); w != nil || len(texts) != 0 || e != api.ErrNil {
		t.Errorf("R3: Open(nil): a log: %t, %q, %d", w != nil, texts, e)
	}
	var w *Wal
	for _, data := range []string{"", "x", bytesOf(1, 53), bytesOf(1, 8193)} {
		if e := w.Append(data); e != api.ErrNil {
			t.Errorf("R3: Append(%d bytes): %d", len(data), e)
		}
		if e := w.Use(data); e != api.ErrNil {
			t.Errorf("R3: Use(%d bytes): %d", len(data), e)
		}
	}
	for _, k := range []int{0, 1, -1, math.MinInt, math.MaxInt} {
		if w.Hold(k) {
			t.Errorf("R3: Hold(%d)", k)
		}
		if e := w.Free(k); e != api.ErrNil {
			t.Errorf("R3: Free(%d): %d", k, e)
		}
	}
	if e := w.Force(); e != api.ErrNil {
		t.Errorf("R3: Force: %d", e)
	}
	if n, m := w.Room(), w.Next(); n != 0 || m != 0 {
		t.Errorf("R3: Room %d, Next %d", n, m)
	}
}

// checkNoRoom finds a log of no sectors, and no call of it that panics.
func checkNoRoom(t *testing.T, w *Wal, force api.Errno) {
	t.Helper()
	if n, m := w.Room(), w.Next(); n != 0 || m != 0 {
		t.Errorf("R1: Room %d, Next %d", n, m)
	}
	refused(t, "R1: Append", w.Append(""), api.ErrWalFull)
	refused(t, "R1: Append", w.Append(bytesOf(1, 8193)), api.ErrWalForm)
	refused(t, "R1: Use", w.Use(""), api.ErrWalForm)
	if w.Hold(1) || !w.Hold(0) {
		t.Error("R1: Hold")
	}
	refused(t, "R1: Free", w.Free(1), api.ErrWalForm)
	refused(t, "R1: Free", w.Free(0), api.OK)
	refused(t, "R1: Force", w.Force(), force)
}

// TestNoSectors has a log that Open did not make, and a disk that New did not make.
func TestNoSectors(t *testing.T) {
	checkNoRoom(t, &Wal{}, api.ErrNil)
	w, texts, e := Open(&disk.Disk{})
	if w == nil || len(texts) != 0 || e != api.OK {
		t.Fatalf("R1: Open of a disk without sectors: a log: %t, %q, %d", w != nil, texts, e)
	}
	checkNoRoom(t, w, api.OK)
}

// TestNothingIsShared changes the memory of what was handed in and of what was answered.
func TestNothingIsShared(t *testing.T) {
	b := made(t, 40)
	rows := []struct{ put, plain func(string) api.Errno }{{b.w.Append, b.p.append}, {b.w.Use, b.p.use}}
	for k, size := range []int{1, 40, 52} {
		for _, row := range rows {
			b.hold("shared", 2)
			handed := []byte(bytesOf(k, size))
			must(t, "P10.2: a text", row.put(unsafe.String(&handed[0], len(handed))))
			must(t, "P10.2: a text", row.plain(bytesOf(k, size)))
			if string(handed) != bytesOf(k, size) {
				t.Error("R4: the text that was handed in is changed")
			}
			clear(handed)
			b.check("R4: the text that was handed in is kept")
		}
	}
	want := b.p.texts
	_, first, _ := Open(b.d)
	_, second, _ := Open(b.d)
	for i := range want {
		clear(unsafe.Slice(unsafe.StringData(first[i]), len(first[i])))
		if !slices.Equal(first[i+1:], want[i+1:]) {
			t.Fatal("R4: two texts of one answer share memory")
		}
	}
	if !slices.Equal(second, want) {
		t.Error("R4: two answers share memory")
	}
	open(t, "R4: an answer shares the disk's memory", b.d)
}

// TestAnswersStay: what Open answered is the caller's; the log neither reads it again nor changes it.
func TestAnswersStay(t *testing.T) {
	b := made(t, 9)
	must(t, "P10.2: Append", b.append("stay", "a"))
	w, texts, _ := Open(b.d)
	if len(texts) != 1 {
		t.Fatalf("P10.1: %q", texts)
	}
	texts[0] = "b"
	texts = append(texts, "c")
	must(t, "P10.2: Append", w.Append("d"))
	if !slices.Equal(texts, []string{"b", "c"}) || w.Next() != 2 {
		t.Errorf("R4: %q, Next %d", texts, w.Next())
	}
	if _, again, _ := Open(b.d); !slices.Equal(again, []string{"a", "d"}) {
		t.Errorf("R4: %q", again)
	}
}

func TestLogsAreApart(t *testing.T) {
	a, b := made(t, 5), made(t, 7)
	must(t, "P10.2: Append", a.append("apart", "a"))
	b.check("R4: another log's Append")
	b.hold("apart", 6)
	a.check("R4: another log's Hold")
	must(t, "P10.2: Use", b.use("apart", "b"))
	b.force("apart")
	a.check("R4: another log's Force")
	a = a.crash("apart", api.Crash{Torn: -1})
	b.check("R4: another disk's crash")
	if len(a.p.texts) != 0 || len(b.p.texts) != 1 {
		t.Error("R4: two logs")
	}
}

// TestHeldIsAtomic: that it can be built holds the count's type; then Room and Hold are asked from several goroutines, as go test -race sees.
func TestHeldIsAtomic(t *testing.T) {
	b := made(t, 64)
	var held *atomic.Int64 = &b.w.held
	b.hold("atomic", 5)
	if n := held.Load(); n != 5 {
		t.Errorf("chapter 10, Ways: the atomic number is %d, not 5", n)
	}
	var all sync.WaitGroup
	for range 4 {
		all.Go(func() {
			for range 1000 {
				if n := b.w.Room(); n < 9 || n > 59 {
					t.Errorf("chapter 10, Ways: Room %d", n)
				}
			}
		})
	}
	for range 1000 {
		b.w.Hold(50)
		b.w.Free(50)
	}
	all.Wait()
	must(t, "P10.2: Use", b.use("atomic", "x"))
	must(t, "P10.2: Free", b.free("atomic", 1))
	if n := held.Load(); n != 3 {
		t.Errorf("chapter 10, Ways: the atomic number is %d, not 3", n)
	}
}

// TestTogether works logs from several goroutines, each its own.
func TestTogether(t *testing.T) {
	var all sync.WaitGroup
	for g := range 8 {
		all.Go(func() {
			d, _ := disk.New(100)
			w, _, e := Open(d)
			if e != api.OK {
				t.Errorf("R5: Open: %d", e)
				return
			}
			var want []string
			for k := range 20 {
				w.Append(bytesOf(g+k, 5*k))
				want = append(want, bytesOf(g+k, 5*k))
			}
			if _, texts, e := Open(d); !slices.Equal(texts, want) || e != api.OK {
				t.Errorf("R5: Open: %d texts, %d", len(texts), e)
			}
		})
	}
	all.Wait()
}

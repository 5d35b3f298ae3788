package disk

import (
	"bytes"
	"math"
	"math/rand"
	"strings"
	"sync"
	"sync/atomic"
	"testing"
	"unsafe"

	"furlong/api"
)

// zeros is what a sector holds that was never written.
var zeros = strings.Repeat("\x00", 64)

// textOf is a sector's text: no two of its bytes are one, and those of two numbers below 256 differ at each byte.
func textOf(k int) string {
	b := make([]byte, 64)
	for i := range b {
		b[i] = byte(4*i + k)
	}
	return string(b)
}

func mustNew(t *testing.T, sectors int) *Disk {
	t.Helper()
	d, e := New(sectors)
	if d == nil || e != api.OK {
		t.Fatalf("P8.1: New(%d): a disk: %t, %d", sectors, d != nil, e)
	}
	return d
}

func write(t *testing.T, d *Disk, at int, s string) {
	t.Helper()
	if e := d.Write(at, s); e != api.OK {
		t.Fatalf("P8.1: Write(%d, %q): %d", at, s, e)
	}
}

func doSync(t *testing.T, d *Disk) {
	t.Helper()
	if e := d.Sync(); e != api.OK {
		t.Fatalf("P8.1: Sync: %d", e)
	}
}

func crash(t *testing.T, d *Disk, c api.Crash) {
	t.Helper()
	if e := d.Crash(c); e != api.OK {
		t.Fatalf("P8.2: Crash(%+v): %d", c, e)
	}
}

// checkRead holds one sector against a text.
func checkRead(t *testing.T, what string, d *Disk, at int, want string) {
	t.Helper()
	if s, e := d.Read(at); s != want || e != api.OK {
		t.Fatalf("%s: Read(%d): %q, %d, not %q", what, at, s, e, want)
	}
}

func checkDirty(t *testing.T, what string, d *Disk, want int) {
	t.Helper()
	if n := d.Dirty(); n != want {
		t.Fatalf("%s: Dirty: %d, not %d", what, n, want)
	}
}

// plain is a disk as the chapter's words tell it: of each sector what it holds, what it was when it was synced last, whether it is unsynced.
type plain struct {
	holds, was []string
	fresh      []bool
}

func newPlain(sectors int) *plain {
	p := &plain{}
	for range sectors {
		p.holds, p.was, p.fresh = append(p.holds, zeros), append(p.was, zeros), append(p.fresh, false)
	}
	return p
}

func (p *plain) write(at int, s string) {
	p.holds[at], p.fresh[at] = s, true
}

func (p *plain) sync() {
	for at, s := range p.holds {
		p.was[at], p.fresh[at] = s, false
	}
}

func (p *plain) dirty() int {
	n := 0
	for _, is := range p.fresh {
		if is {
			n++
		}
	}
	return n
}

// crash reads Keep by quotients: a bit of a number below 0 is that of the number 2^64 above it.
func (p *plain) crash(c api.Crash) {
	i := 0
	for at := range p.holds {
		if !p.fresh[at] {
			continue
		}
		bit := uint64(0)
		if i < 62 {
			bit = uint64(c.Keep) / (uint64(1) << i) % 2
		}
		if i == c.Torn {
			p.holds[at] = p.holds[at][:c.Bytes] + p.was[at][c.Bytes:]
		} else if bit == 0 {
			p.holds[at] = p.was[at]
		}
		i++
	}
	p.sync()
}

// check holds all that a disk tells against p.
func (p *plain) check(t *testing.T, what string, d *Disk) {
	t.Helper()
	if n := d.Sectors(); n != len(p.holds) {
		t.Fatalf("%s: Sectors: %d, not %d", what, n, len(p.holds))
	}
	checkDirty(t, what, d, p.dirty())
	for at, s := range p.holds {
		checkRead(t, what, d, at, s)
	}
}

// wrongSectors are numbers that no sector of so many has, some of them right if bits of them were lost.
func wrongSectors(sectors int) []int {
	return []int{-1, -sectors, sectors, sectors + 1, api.MaxSectors, 1 << 32, -1 << 32, 1<<32 + 1, 1 << 16, math.MinInt, math.MaxInt}
}

func TestNew(t *testing.T) {
	for sectors := 1; sectors <= 1024; sectors++ {
		d := mustNew(t, sectors)
		newPlain(sectors).check(t, "P8.1: a new disk", d)
	}
}

func TestNewOfWrongCounts(t *testing.T) {
	for _, sectors := range []int{0, -1, 1025, 1026, -1024, 2048, 1<<16 + 1, 1<<32 + 1, 1 << 62, math.MinInt, math.MinInt + 1, math.MaxInt} {
		if d, e := New(sectors); d != nil || e != api.ErrDiskForm {
			t.Errorf("P8.1: New(%d): a disk: %t, %d", sectors, d != nil, e)
		}
	}
}

// TestReadAndWrite writes each sector of disks of several sizes and finds it, and all others as they were, behind each write and behind a Sync.
func TestReadAndWrite(t *testing.T) {
	for _, sectors := range []int{1, 2, 3, 63, 64, 65} {
		d, p := mustNew(t, sectors), newPlain(sectors)
		for k := range 3 {
			for at := range sectors {
				write(t, d, at, textOf(k))
				p.write(at, textOf(k))
				p.check(t, "P8.1: unsynced", d)
			}
			doSync(t, d)
			p.sync()
			p.check(t, "P8.1: synced", d)
		}
	}
}

func TestFirstAndLastSector(t *testing.T) {
	d := mustNew(t, 1024)
	write(t, d, 0, textOf(1))
	write(t, d, 1023, textOf(2))
	checkDirty(t, "P8.1: the first and the last sector", d, 2)
	checkRead(t, "P8.1: the first sector", d, 0, textOf(1))
	checkRead(t, "P8.1: the last sector", d, 1023, textOf(2))
	for at := 1; at < 1023; at++ {
		checkRead(t, "P8.1: a sector between", d, at, zeros)
	}
	crash(t, d, api.Crash{Keep: 2, Torn: -1})
	checkRead(t, "P8.2: the first sector", d, 0, zeros)
	checkRead(t, "P8.2: the last sector", d, 1023, textOf(2))
}

func TestAnyBytes(t *testing.T) {
	d := mustNew(t, 1)
	for b := range 256 {
		s := strings.Repeat(string([]byte{byte(b)}), 64)
		write(t, d, 0, s)
		checkRead(t, "P8.1: any bytes", d, 0, s)
	}
}

// half is a disk of four sectors: synced, never written, written again behind a Sync, written for the first time behind it.
func half(t *testing.T) (*Disk, *plain) {
	t.Helper()
	d, p := mustNew(t, 4), newPlain(4)
	for _, at := range []int{0, 2} {
		write(t, d, at, textOf(1))
		p.write(at, textOf(1))
	}
	doSync(t, d)
	p.sync()
	for _, at := range []int{2, 3} {
		write(t, d, at, textOf(2))
		p.write(at, textOf(2))
	}
	return d, p
}

// checkAsItWas finds a disk of half as it was, in what it holds and in what a crash leaves of it.
func checkAsItWas(t *testing.T, what string, d *Disk, p *plain) {
	t.Helper()
	p.check(t, what, d)
	crash(t, d, api.Crash{Torn: 0, Bytes: 5})
	p.crash(api.Crash{Torn: 0, Bytes: 5})
	p.check(t, what+", behind a crash", d)
}

func TestReadOfWrongSectors(t *testing.T) {
	for _, at := range wrongSectors(4) {
		d, p := half(t)
		if s, e := d.Read(at); s != "" || e != api.ErrDiskForm {
			t.Errorf("P8.1: Read(%d): %q, %d", at, s, e)
		}
		checkAsItWas(t, "R5: a Read that is refused", d, p)
	}
}

func TestWriteOfWrongSectors(t *testing.T) {
	for _, at := range wrongSectors(4) {
		d, p := half(t)
		if e := d.Write(at, textOf(3)); e != api.ErrDiskForm {
			t.Errorf("P8.1: Write(%d, ..): %d", at, e)
		}
		checkAsItWas(t, "R5: a Write of no sector", d, p)
	}
}

func TestWriteOfWrongTexts(t *testing.T) {
	long := strings.Repeat("x", api.MaxText)
	for _, length := range []int{0, 1, 63, 65, 127, 128, 256 + 64, api.MaxText} {
		for at := range 4 {
			d, p := half(t)
			if e := d.Write(at, long[:length]); e != api.ErrDiskForm {
				t.Errorf("P8.1: Write(%d, %d bytes): %d", at, length, e)
			}
			checkAsItWas(t, "R5: a Write of a text that is not a sector's", d, p)
		}
	}
	d := mustNew(t, 1)
	if e := d.Write(1, "x"); e != api.ErrDiskForm {
		t.Errorf("P8.1: neither the sector nor the text may be: %d", e)
	}
}

// TestWriteTakesBytes: as many runes as a sector has bytes are too long a text.
func TestWriteTakesBytes(t *testing.T) {
	d := mustNew(t, 1)
	if e := d.Write(0, strings.Repeat("é", 64)); e != api.ErrDiskForm {
		t.Errorf("P8.1: 64 runes of 128 bytes: %d", e)
	}
	if e := d.Write(0, strings.Repeat("é", 32)); e != api.OK {
		t.Errorf("P8.1: 32 runes of 64 bytes: %d", e)
	}
}

func TestDirty(t *testing.T) {
	d := mustNew(t, 8)
	checkDirty(t, "P8.1: a new disk", d, 0)
	write(t, d, 5, textOf(1))
	checkDirty(t, "P8.1: one sector", d, 1)
	write(t, d, 5, textOf(2))
	checkDirty(t, "P8.1: a sector written again", d, 1)
	write(t, d, 5, textOf(2))
	checkDirty(t, "P8.1: the same text again", d, 1)
	write(t, d, 5, zeros)
	checkDirty(t, "P8.1: written back as it was", d, 1)
	write(t, d, 2, zeros)
	checkDirty(t, "P8.1: a sector written with what it holds", d, 2)
	doSync(t, d)
	checkDirty(t, "P8.1: behind a Sync", d, 0)
	doSync(t, d)
	checkDirty(t, "P8.1: behind a second Sync", d, 0)
	write(t, d, 5, textOf(1))
	checkDirty(t, "P8.1: written behind a Sync", d, 1)
	crash(t, d, api.Crash{Keep: 1, Torn: -1})
	checkDirty(t, "P8.2: behind a Crash", d, 0)
	write(t, d, 5, textOf(2))
	checkDirty(t, "P8.1: written behind a Crash", d, 1)
}

func TestDirtyOfAllSectors(t *testing.T) {
	d := mustNew(t, 1024)
	for again := range 2 {
		for at := range 1024 {
			write(t, d, at, textOf(again))
			want := at + 1
			if again > 0 {
				want = 1024
			}
			checkDirty(t, "P8.1: sector by sector", d, want)
		}
	}
	doSync(t, d)
	checkDirty(t, "P8.1: all synced", d, 0)
}

func TestSyncKeepsAll(t *testing.T) {
	d := mustNew(t, 3)
	doSync(t, d)
	write(t, d, 0, textOf(1))
	write(t, d, 2, textOf(2))
	doSync(t, d)
	crash(t, d, api.Crash{Torn: 0})
	checkRead(t, "P8.2: synced ahead of a crash", d, 0, textOf(1))
	checkRead(t, "P8.2: never written", d, 1, zeros)
	checkRead(t, "P8.2: synced ahead of a crash", d, 2, textOf(2))
}

// TestWrittenAgain writes a sector three times behind a Sync: it counts once, and keeps what it was at the Sync.
func TestWrittenAgain(t *testing.T) {
	rows := []struct {
		what string
		c    api.Crash
		want string
	}{
		{"lost", api.Crash{Torn: -1}, textOf(0)},
		{"kept", api.Crash{Keep: 1, Torn: -1}, textOf(3)},
		{"torn", api.Crash{Torn: 0, Bytes: 10}, textOf(3)[:10] + textOf(0)[10:]},
	}
	for _, row := range rows {
		d := mustNew(t, 2)
		write(t, d, 1, textOf(0))
		doSync(t, d)
		for k := 1; k <= 3; k++ {
			write(t, d, 1, textOf(k))
			checkDirty(t, "P8.1: written again", d, 1)
			checkRead(t, "P8.1: what was written last", d, 1, textOf(k))
		}
		crash(t, d, row.c)
		checkRead(t, "P8.2: written again, "+row.what, d, 1, row.want)
	}
}

// TestAllSmallCrashes goes through all crashes of a disk of four sectors, with whichever of them unsynced.
func TestAllSmallCrashes(t *testing.T) {
	for fresh := range 16 {
		for keep := range 16 {
			for torn := -1; torn <= 4; torn++ {
				for _, b := range []int{0, 1, 31, 63, 64} {
					checkSmallCrash(t, fresh, api.Crash{Keep: keep, Torn: torn, Bytes: b})
				}
			}
		}
	}
}

func checkSmallCrash(t *testing.T, fresh int, c api.Crash) {
	t.Helper()
	d, p := mustNew(t, 4), newPlain(4)
	for at := range 4 {
		write(t, d, at, textOf(0))
		p.write(at, textOf(0))
	}
	doSync(t, d)
	p.sync()
	// From the last sector on: the i-th one is by the sectors' numbers, not by when it was written.
	for at := 3; at >= 0; at-- {
		if fresh>>at&1 == 1 {
			write(t, d, at, textOf(1+at%3))
			p.write(at, textOf(1+at%3))
		}
	}
	crash(t, d, c)
	p.crash(c)
	p.check(t, "P8.2", d)
	crash(t, d, api.Crash{Torn: 0, Bytes: 1})
	p.check(t, "P8.2: a second crash finds none unsynced", d)
}

// checkWideCrash crashes a disk of 80 sectors of which each but every fifth is unsynced: 64 of them.
func checkWideCrash(t *testing.T, c api.Crash) {
	t.Helper()
	d, p := mustNew(t, 80), newPlain(80)
	for at := 79; at >= 0; at-- {
		if at%5 != 4 {
			write(t, d, at, textOf(1+at%3))
			p.write(at, textOf(1+at%3))
		}
	}
	checkDirty(t, "P8.1", d, 64)
	crash(t, d, c)
	p.crash(c)
	p.check(t, "P8.2", d)
}

func TestEachBitOfKeep(t *testing.T) {
	for i := range 64 {
		checkWideCrash(t, api.Crash{Keep: 1 << i, Torn: -1})
		checkWideCrash(t, api.Crash{Keep: ^(1 << i), Torn: -1})
		checkWideCrash(t, api.Crash{Keep: 1 << i, Torn: i, Bytes: 7})
		checkWideCrash(t, api.Crash{Keep: -1, Torn: i, Bytes: 7})
		checkWideCrash(t, api.Crash{Torn: i, Bytes: 7})
	}
	for _, keep := range []int{0, -1, -2, 1 << 61, 1<<62 - 1, math.MinInt, math.MaxInt} {
		checkWideCrash(t, api.Crash{Keep: keep, Torn: -1})
		checkWideCrash(t, api.Crash{Keep: keep})
	}
}

func TestSectorsBehindKeep(t *testing.T) {
	d := mustNew(t, 1024)
	for at := range 1024 {
		write(t, d, at, textOf(1))
	}
	crash(t, d, api.Crash{Keep: -1, Torn: 1023, Bytes: 64})
	for at := range 1024 {
		want := zeros
		if at < 62 || at == 1023 {
			want = textOf(1)
		}
		checkRead(t, "P8.2: all of Keep's bits are 1", d, at, want)
	}
}

func TestTornOfEachLength(t *testing.T) {
	for length := range 65 {
		for _, keep := range []int{0, 1, -1} {
			d := mustNew(t, 1)
			write(t, d, 0, textOf(1))
			doSync(t, d)
			write(t, d, 0, textOf(2))
			crash(t, d, api.Crash{Keep: keep, Bytes: length})
			checkRead(t, "P8.2: torn", d, 0, textOf(2)[:length]+textOf(1)[length:])
		}
	}
}

// TestTornBesideAll: a number that no unsynced sector has tears none, Bytes whatever they are.
func TestTornBesideAll(t *testing.T) {
	for _, torn := range []int{-1, -2, 3, 4, 62, 1 << 32, -1 << 32, 1<<32 + 1, math.MinInt, math.MaxInt} {
		for _, b := range []int{0, 9, 64} {
			d := mustNew(t, 5)
			for _, at := range []int{4, 0, 2} {
				write(t, d, at, textOf(at%4))
			}
			crash(t, d, api.Crash{Keep: 5, Torn: torn, Bytes: b})
			for at, want := range []string{textOf(0), zeros, zeros, zeros, textOf(0)} {
				checkRead(t, "P8.2: Torn is beside all", d, at, want)
			}
			checkDirty(t, "P8.2: Torn is beside all", d, 0)
		}
	}
}

func TestCrashOfWrongBytes(t *testing.T) {
	for _, b := range []int{-1, 65, 128, -64, 1 << 32, -1 << 32, 1<<32 + 64, math.MinInt, math.MaxInt} {
		for _, torn := range []int{-1, 0, 1, 2, math.MaxInt} {
			d, p := half(t)
			if e := d.Crash(api.Crash{Keep: 1, Torn: torn, Bytes: b}); e != api.ErrDiskForm {
				t.Errorf("P8.2: Bytes %d, Torn %d: %d", b, torn, e)
			}
			checkAsItWas(t, "R5: a Crash that is refused", d, p)
		}
	}
	d := mustNew(t, 1)
	if e := d.Crash(api.Crash{Torn: -1, Bytes: 65}); e != api.ErrDiskForm {
		t.Errorf("P8.2: Bytes 65, none unsynced: %d", e)
	}
}

func TestCrashOfNoneUnsynced(t *testing.T) {
	d := mustNew(t, 2)
	crash(t, d, api.Crash{Keep: -1, Torn: 0, Bytes: 64})
	checkRead(t, "P8.2: none is unsynced", d, 0, zeros)
	checkDirty(t, "P8.2: none is unsynced", d, 0)
}

// TestWrittenBehindACrash: what a crash left is what was synced last for the next one.
func TestWrittenBehindACrash(t *testing.T) {
	d := mustNew(t, 1)
	write(t, d, 0, textOf(1))
	crash(t, d, api.Crash{Bytes: 20})
	left := textOf(1)[:20] + zeros[20:]
	write(t, d, 0, textOf(2))
	crash(t, d, api.Crash{Bytes: 10})
	checkRead(t, "P8.2: two crashes", d, 0, textOf(2)[:10]+left[10:])
	write(t, d, 0, textOf(3))
	crash(t, d, api.Crash{Torn: -1})
	checkRead(t, "P8.2: three crashes", d, 0, textOf(2)[:10]+left[10:])
}

func TestAnyRuns(t *testing.T) {
	r := rand.New(rand.NewSource(8))
	for range 200 {
		sectors := 1 + r.Intn(100)
		d, p := mustNew(t, sectors), newPlain(sectors)
		for range 300 {
			switch r.Intn(40) {
			case 0:
				doSync(t, d)
				p.sync()
			case 1:
				c := api.Crash{Keep: int(r.Uint64()), Torn: r.Intn(sectors+2) - 1, Bytes: r.Intn(65)}
				crash(t, d, c)
				p.crash(c)
				p.check(t, "P8.2", d)
			default:
				at, s := r.Intn(sectors), textOf(r.Intn(256))
				write(t, d, at, s)
				p.write(at, s)
				checkDirty(t, "P8.1", d, p.dirty())
			}
		}
		p.check(t, "P8.1", d)
	}
}

func TestDisksAreApart(t *testing.T) {
	a, b := mustNew(t, 2), mustNew(t, 2)
	write(t, a, 0, textOf(1))
	checkRead(t, "R4: another disk", b, 0, zeros)
	checkDirty(t, "R4: another disk", b, 0)
	write(t, b, 0, textOf(2))
	doSync(t, b)
	checkDirty(t, "R4: another disk's Sync", a, 1)
	crash(t, a, api.Crash{Torn: -1})
	checkRead(t, "R4: another disk's Crash", b, 0, textOf(2))
}

func TestNil(t *testing.T) {
	var d *Disk
	if n := d.Sectors(); n != 0 {
		t.Errorf("R3: Sectors: %d", n)
	}
	if n := d.Dirty(); n != 0 {
		t.Errorf("R3: Dirty: %d", n)
	}
	for _, at := range []int{0, -1, math.MinInt} {
		if s, e := d.Read(at); s != "" || e != api.ErrNil {
			t.Errorf("R3: Read(%d): %q, %d", at, s, e)
		}
		if e := d.Write(at, textOf(1)); e != api.ErrNil {
			t.Errorf("R3: Write(%d, ..): %d", at, e)
		}
		if e := d.Write(at, ""); e != api.ErrNil {
			t.Errorf("R3: Write(%d, \"\"): %d", at, e)
		}
	}
	if e := d.Sync(); e != api.ErrNil {
		t.Errorf("R3: Sync: %d", e)
	}
	for _, b := range []int{0, -1, 65} {
		if e := d.Crash(api.Crash{Bytes: b}); e != api.ErrNil {
			t.Errorf("R3: Crash: %d", e)
		}
	}
}

// TestZeroDisk: a disk that New did not make has no sector, and no call of it panics.
func TestZeroDisk(t *testing.T) {
	d := &Disk{}
	if n, m := d.Sectors(), d.Dirty(); n != 0 || m != 0 {
		t.Errorf("R1: %d sectors, %d of them unsynced", n, m)
	}
	if s, e := d.Read(0); s != "" || e != api.ErrDiskForm {
		t.Errorf("R1: Read: %q, %d", s, e)
	}
	if e := d.Write(0, textOf(1)); e != api.ErrDiskForm {
		t.Errorf("R1: Write: %d", e)
	}
	doSync(t, d)
	crash(t, d, api.Crash{Keep: 1})
	if e := d.Crash(api.Crash{Bytes: 65}); e != api.ErrDiskForm {
		t.Errorf("P8.2: Crash: %d", e)
	}
}

// TestNothingIsShared changes a text's memory behind a Write, and that of a text that was read.
func TestNothingIsShared(t *testing.T) {
	d := mustNew(t, 1)
	handed := []byte(textOf(1))
	write(t, d, 0, unsafe.String(&handed[0], len(handed)))
	if !bytes.Equal(handed, []byte(textOf(1))) {
		t.Error("R4: Write changed the text that was handed in")
	}
	clear(handed)
	checkRead(t, "R4: the text that was handed in is kept", d, 0, textOf(1))
	first, _ := d.Read(0)
	second, _ := d.Read(0)
	if first == "" {
		t.Fatal("P8.1: nothing is read")
	}
	clear(unsafe.Slice(unsafe.StringData(first), len(first)))
	if second != textOf(1) {
		t.Error("R4: two answers share memory")
	}
	checkRead(t, "R4: an answer shares the disk's memory", d, 0, textOf(1))
}

// TestAnswersStay: what was read ahead of a Write stays as it was.
func TestAnswersStay(t *testing.T) {
	d := mustNew(t, 1)
	write(t, d, 0, textOf(1))
	s, _ := d.Read(0)
	write(t, d, 0, textOf(2))
	crash(t, d, api.Crash{Torn: -1})
	if s != textOf(1) {
		t.Errorf("R4: an answer of Read was changed: %q", s)
	}
}

// TestCountsAreAtomic: that it can be built holds the counts' type; then they are asked while sectors are written, as go test -race sees.
func TestCountsAreAtomic(t *testing.T) {
	d := mustNew(t, 64)
	counts := []*atomic.Int64{&d.sectors, &d.unsynced}
	if n, m := counts[0].Load(), counts[1].Load(); n != 64 || m != 0 {
		t.Errorf("chapter 8, Ways: the atomic numbers are %d, %d", n, m)
	}
	var all sync.WaitGroup
	for range 4 {
		all.Go(func() {
			for range 1000 {
				if n, m := d.Sectors(), d.Dirty(); n != 64 || m < 0 || m > 64 {
					t.Errorf("chapter 8, Ways: %d sectors, %d of them unsynced", n, m)
				}
			}
		})
	}
	for k := range 50 {
		for at := range 64 {
			write(t, d, at, textOf(k))
		}
		doSync(t, d)
	}
	all.Wait()
	write(t, d, 3, textOf(1))
	if m := counts[1].Load(); m != 1 || d.Dirty() != 1 {
		t.Errorf("chapter 8, Ways: the atomic number is %d, Dirty %d, not 1", m, d.Dirty())
	}
}

// TestTogether makes and works disks from several goroutines, each its own.
func TestTogether(t *testing.T) {
	var all sync.WaitGroup
	for g := range 8 {
		all.Go(func() {
			d, e := New(100 + g)
			if e != api.OK {
				t.Errorf("R5: New: %d", e)
				return
			}
			for at := range 100 {
				d.Write(at, textOf(g+at))
			}
			d.Crash(api.Crash{Keep: 1<<40 - 1, Torn: 99, Bytes: 64})
			for at := range 100 {
				want := zeros
				if at < 40 || at == 99 {
					want = textOf(g + at)
				}
				if s, e := d.Read(at); s != want || e != api.OK {
					t.Errorf("R5: Read(%d): %q, %d", at, s, e)
				}
			}
		})
	}
	all.Wait()
}

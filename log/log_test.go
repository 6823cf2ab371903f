package log_test

import (
	"bytes"
	"math"
	"slices"
	"strings"
	"testing"

	"palatine/api"
	"palatine/disk"
	"palatine/log"
)

func made(t *testing.T, sectors int) *disk.Disk {
	t.Helper()
	d, e := disk.New(sectors)
	if d == nil || e != api.OK {
		t.Fatalf("New(%d): %v, %v", sectors, d, e)
	}
	return d
}

// text is n bytes, of which neighbours, and the same bytes of neighbouring sectors, differ.
func text(n int) string {
	b := make([]byte, n)
	for i := range b {
		b[i] = byte(7*i + i/48 + n)
	}
	return string(b)
}

func wantErr(t *testing.T, call string, got, want api.Errno) {
	t.Helper()
	if got != want {
		t.Errorf("%s: got %d, want %d", call, got, want)
	}
}

func wantRecords(t *testing.T, got, want []string) {
	t.Helper()
	if len(got) != len(want) {
		t.Errorf("got %d records, want %d", len(got), len(want))
		return
	}
	for i := range want {
		if got[i] != want[i] {
			t.Errorf("record %d: got %d bytes %.60q, want %d bytes %.60q", i, len(got[i]), got[i], len(want[i]), want[i])
		}
	}
}

func opened(t *testing.T, d *disk.Disk, first, count int, epoch uint32, want ...string) *log.Log {
	t.Helper()
	l, records, e := log.Open(d, first, count, epoch)
	if l == nil || e != api.OK {
		t.Fatalf("Open(%d, %d, %d): %v, %d", first, count, epoch, l, e)
	}
	wantRecords(t, records, want)
	return l
}

func wantNoLog(t *testing.T, d *disk.Disk, first, count int, want api.Errno) {
	t.Helper()
	l, records, e := log.Open(d, first, count, 1)
	if l != nil || len(records) != 0 || e != want {
		t.Errorf("Open(%d, %d): got %v, %q, %d, want nil, nothing, %d", first, count, l, records, e, want)
	}
}

func wantLog(t *testing.T, l *log.Log, life uint32, next, room int) {
	t.Helper()
	if l.Life() != life || l.Next() != next || l.Room() != room {
		t.Errorf("got Life %d, Next %d, Room %d, want %d, %d, %d", l.Life(), l.Next(), l.Room(), life, next, room)
	}
}

func appended(t *testing.T, l *log.Log, records ...string) {
	t.Helper()
	for _, r := range records {
		wantErr(t, "Append", l.Append(r), api.OK)
	}
}

func synced(t *testing.T, l *log.Log, records ...string) {
	t.Helper()
	appended(t, l, records...)
	wantErr(t, "Sync", l.Sync(), api.OK)
}

// all is a crash's choice of every one of n writes.
func all(n int) []bool { return slices.Repeat([]bool{true}, n) }

// contents are all sectors without their pending writes.
func contents(t *testing.T, d *disk.Disk) [][]byte {
	t.Helper()
	var list [][]byte
	for n := range d.Sectors() {
		b, e := d.Lasting(n)
		wantErr(t, "Lasting", e, api.OK)
		list = append(list, b)
	}
	return list
}

func wantContents(t *testing.T, d *disk.Disk, want [][]byte) {
	t.Helper()
	for n, b := range contents(t, d) {
		if !bytes.Equal(b, want[n]) {
			t.Errorf("sector %d: got %v, want %v", n, b, want[n])
		}
	}
}

func TestO1Sectors(t *testing.T) {
	for n, want := range map[int]int{
		math.MinInt: 1, -1 << 32: 1, -49: 1, -48: 1, -1: 1, 0: 1, 1: 1, 47: 1, 48: 1,
		49: 2, 95: 2, 96: 2, 97: 3, 144: 3, 145: 4, 1999: 42, 2000: 42, 2001: 42, 2016: 42, 2017: 43,
		4800: 100, 4801: 101, math.MaxInt: 192153584101141163, math.MaxInt - 31: 192153584101141162,
	} {
		if got := log.Sectors(n); got != want {
			t.Errorf("Sectors(%d): got %d, want %d", n, got, want)
		}
	}
	for n := 1; n < 5000; n++ {
		if s := log.Sectors(n); 48*s < n || 48*(s-1) >= n {
			t.Errorf("Sectors(%d): %d do not fit", n, s)
		}
	}
}

func TestO2NoRegion(t *testing.T) {
	d := made(t, 10)
	d.Write(3, 1)
	before := contents(t, d)
	for _, r := range [][2]int{
		{-1, 2}, {-1, 5}, {math.MinInt, 2}, {math.MinInt, math.MaxInt},
		{0, 1}, {0, 0}, {0, -1}, {0, math.MinInt}, {9, 1}, {-1, 1}, {5, -2}, {math.MaxInt, math.MinInt},
		{0, 11}, {1, 10}, {2, 9}, {8, 3}, {9, 2}, {10, 2}, {11, 2}, {10, 0}, {4096, 2},
		{0, math.MaxInt}, {1, math.MaxInt}, {2, math.MaxInt}, {math.MaxInt, 2}, {math.MaxInt - 1, 2}, {math.MaxInt, math.MaxInt}, {1 << 62, 1 << 62},
	} {
		wantNoLog(t, d, r[0], r[1], api.ErrArg)
	}
	wantContents(t, d, before)
	if d.Pending() != 1 {
		t.Error("an Open that returned ErrArg wrote or flushed")
	}
}

// Regions of every small size at every place of a disk, and of more than 256 sectors, whose places have two bytes: each is filled to its last sector.
func TestO2Regions(t *testing.T) {
	for first := range 6 {
		for count := 2; count <= 6-first; count++ {
			fill(t, 6, first, count)
		}
	}
	for _, r := range [][2]int{{0, 255}, {1, 256}, {0, 257}, {343, 257}, {0, 600}, {44, 256}} {
		fill(t, 600, r[0], r[1])
	}
	fill(t, 4096, 0, 4096)
	fill(t, 4096, 4094, 2)
	fill(t, 2, 0, 2)
}

func fill(t *testing.T, sectors, first, count int) {
	t.Helper()
	d := made(t, sectors)
	for n := range sectors {
		d.Write(n, 0xee, byte(n))
	}
	d.Flush()
	before := contents(t, d)
	l := opened(t, d, first, count, 9)
	wantLog(t, l, 1, 1, count-1)
	var records []string
	for i := range count - 1 {
		wantLog(t, l, 1, 1+i, count-1-i)
		records = append(records, text(i%49))
		appended(t, l, records[i])
	}
	wantLog(t, l, 1, count, 0)
	wantErr(t, "Append to a full region", l.Append(""), api.ErrFull)
	wantErr(t, "Sync", l.Sync(), api.OK)
	if d.Crash() != 0 {
		t.Error("something was pending after Sync")
	}
	wantLog(t, opened(t, d, first, count, 9, records...), 2, count, 0)
	for n, b := range contents(t, d) {
		if (n < first || n >= first+count) && !bytes.Equal(b, before[n]) {
			t.Errorf("region %d, %d: sector %d beside it was written", first, count, n)
		}
	}
}

func TestO2Lives(t *testing.T) {
	for h, want := range map[uint32]uint32{0: 1, 1: 2, 254: 255, 255: 256, 0x01020304: 0x01020305, math.MaxUint32 - 2: math.MaxUint32 - 1, math.MaxUint32 - 1: math.MaxUint32} {
		d := made(t, 4)
		head(h).to(d, 0)
		d.Flush()
		wantLog(t, opened(t, d, 0, 4, 1), want, 1, 3)
		wantSector(t, d, 0, head(want))
		if d.Pending() != 0 {
			t.Error("Open left its head pending")
		}
	}
}

func TestO2NoLifeIsLeft(t *testing.T) {
	d := made(t, 4)
	head(math.MaxUint32-1).to(d, 0)
	l := opened(t, d, 0, 4, 1)
	wantLog(t, l, math.MaxUint32, 1, 3)
	synced(t, l, "a")
	before := contents(t, d)
	d.Write(2, 1)
	for range 3 {
		d.Arm(0)
		wantNoLog(t, d, 0, 4, api.ErrFull)
		if !d.Up() || d.Pending() != 1 {
			t.Error("an Open that returned ErrFull wrote or flushed")
		}
	}
	wantContents(t, d, before)
	d.Crash()
	appended(t, l, "b") // the log that is open goes on
	wantLog(t, l, math.MaxUint32, 3, 1)
}

// Each Open begins a life, with or without records or a crash, and keeps what is appended in it.
func TestO2EachOpenIsALife(t *testing.T) {
	d := made(t, 40)
	var records []string
	for life := uint32(1); life <= 30; life++ {
		l := opened(t, d, 3, 35, 1, records...)
		wantLog(t, l, life, 1+len(records), 34-len(records))
		wantSector(t, d, 3, head(life))
		if life%3 == 0 {
			records = append(records, text(int(life)))
			synced(t, l, records[len(records)-1])
		}
		if life%4 == 0 {
			d.Crash()
		}
	}
}

func TestO2OrderOfErrors(t *testing.T) {
	d := made(t, 8)
	head(math.MaxUint32).to(d, 0)
	d.Flush()
	d.Arm(0)
	wantNoLog(t, d, 0, 9, api.ErrArg)
	wantNoLog(t, d, 0, 8, api.ErrFull)
	d.Flush()
	wantNoLog(t, d, -1, 8, api.ErrArg)
	wantNoLog(t, d, 0, 1, api.ErrArg)
	wantNoLog(t, d, 1, 8, api.ErrArg)
	wantNoLog(t, d, 0, 8, api.ErrDown)
	wantNoLog(t, d, 1, 7, api.ErrDown)
}

// Power fails at the write of the head, and at its flush, whereupon a crash keeps the head or loses it; a third operation is not there.
func TestO2PowerFails(t *testing.T) {
	for operations := range 3 {
		for _, kept := range []bool{false, true} {
			d := made(t, 8)
			synced(t, opened(t, d, 0, 8, 1), "ab", text(100))
			d.Arm(operations)
			life := uint32(2)
			if operations == 2 {
				l := opened(t, d, 0, 8, 1, "ab", text(100))
				wantLog(t, l, 2, 5, 3)
				wantErr(t, "Append", l.Append("c"), api.ErrDown)
				life = 3
			} else {
				wantNoLog(t, d, 0, 8, api.ErrDown)
				wantNoLog(t, d, 0, 8, api.ErrDown)
			}
			if n := d.Pending(); n != operations%2 || d.Up() {
				t.Errorf("after %d operations %d writes are pending", operations, n)
			}
			if d.Crash(kept) == 1 {
				life = 3
			}
			wantLog(t, opened(t, d, 0, 8, 1, "ab", text(100)), life, 5, 3)
		}
	}
}

// Open flushes the whole disk: what an earlier log appended without a Sync, and was not lost, is durable after it.
func TestO2OpenFlushes(t *testing.T) {
	d := made(t, 12)
	l := opened(t, d, 2, 8, 1)
	appended(t, l, "a", text(60))
	d.Write(11, 5)
	opened(t, d, 2, 8, 1, "a", text(60))
	if d.Pending() != 0 {
		t.Error("Open left writes pending")
	}
	d.Crash()
	if b, _ := d.Lasting(11); b[0] != 5 {
		t.Error("Open did not flush the disk")
	}
	wantLog(t, opened(t, d, 2, 8, 1, "a", text(60)), 3, 4, 4)
}

// Records of each length come back as they were, and occupy the sectors that Sectors tells.
func TestO4Lengths(t *testing.T) {
	for _, n := range []int{0, 1, 2, 47, 48, 49, 95, 96, 97, 143, 144, 145, 1968, 1969, 1999, 2000} {
		d := made(t, 80)
		l := opened(t, d, 1, 70, 3)
		synced(t, l, text(n), "x", text(n)[:n/2])
		next := 2 + log.Sectors(n) + log.Sectors(n/2)
		wantLog(t, l, 1, next, 70-next)
		d.Crash()
		wantLog(t, opened(t, d, 1, 70, 3, text(n), "x", text(n)[:n/2]), 2, next, 70-next)
	}
}

func TestO4AllBytes(t *testing.T) {
	d := made(t, 400)
	l := opened(t, d, 0, 400, 3)
	var records []string
	for x := range 256 {
		records = append(records, string([]byte{byte(x)}))
	}
	records = append(records, strings.Repeat("\x00", 48), strings.Repeat("\x00", 49), strings.Repeat("\xff", 96), "a\x00", "\xc3\x28é\x00")
	synced(t, l, records...)
	opened(t, d, 0, 400, 3, records...)
}

func TestO4TooLong(t *testing.T) {
	d := made(t, 4096)
	l := opened(t, d, 0, 4096, 1)
	synced(t, l, "a")
	d.Arm(0)
	for _, n := range []int{2001, 2002, 2016, 2017, 4000, 1 << 20} {
		wantErr(t, "Append of a long record", l.Append(text(n)), api.ErrLong)
	}
	wantLog(t, l, 1, 2, 4094)
	if !d.Up() || d.Pending() != 0 {
		t.Error("an Append that returned ErrLong wrote")
	}
	d.Crash()
	synced(t, l, text(2000))
	opened(t, d, 0, 4096, 1, "a", text(2000))
}

// A record of n sectors fits a room of n, and none of fewer.
func TestO4Full(t *testing.T) {
	for n := 1; n <= 42; n++ {
		for _, count := range []int{n, n + 1, n + 2} {
			if count < 2 {
				continue
			}
			d := made(t, 50)
			l := opened(t, d, 50-count, count, 1)
			if n >= count {
				d.Arm(0)
				wantErr(t, "Append without room", l.Append(text(min(48*n, 2000))), api.ErrFull)
				wantErr(t, "Append without room", l.Append(text(48*n-47)), api.ErrFull)
				wantLog(t, l, 1, 1, count-1)
				if !d.Up() || d.Pending() != 0 {
					t.Error("an Append that returned ErrFull wrote")
				}
				continue
			}
			synced(t, l, text(48*n-47))
			wantLog(t, l, 1, 1+n, count-1-n)
			opened(t, d, 50-count, count, 1, text(48*n-47))
		}
	}
}

// A record that does not fit leaves the room to a shorter one.
func TestO4FullForSome(t *testing.T) {
	d := made(t, 8)
	l := opened(t, d, 2, 6, 1)
	appended(t, l, text(96))
	wantErr(t, "Append of 4 sectors", l.Append(text(145)), api.ErrFull)
	appended(t, l, text(96))
	wantErr(t, "Append of 2 sectors", l.Append(text(49)), api.ErrFull)
	appended(t, l, text(48))
	wantErr(t, "Append of an empty record", l.Append(""), api.ErrFull)
	wantLog(t, l, 1, 6, 0)
	opened(t, d, 2, 6, 1, text(96), text(96), text(48))
}

func TestO4OrderOfErrors(t *testing.T) {
	d := made(t, 4)
	l := opened(t, d, 0, 4, 1)
	appended(t, l, "a")
	d.Arm(0)
	wantErr(t, "Append of 2001 bytes without room", l.Append(text(2001)), api.ErrLong)
	wantErr(t, "Append without room", l.Append(text(97)), api.ErrFull)
	if !d.Up() {
		t.Error("an Append that did not fit wrote")
	}
	wantErr(t, "Append, armed with 0", l.Append("b"), api.ErrDown)
	wantErr(t, "Append of 2001 bytes without power", l.Append(text(2001)), api.ErrLong)
	wantErr(t, "Append without power and room", l.Append(text(97)), api.ErrFull)
	wantErr(t, "Append without power", l.Append("b"), api.ErrDown)
	wantErr(t, "Sync without power", l.Sync(), api.ErrDown)
	wantLog(t, l, 1, 2, 2)
}

// The bytes on the disk: those of the chapter's table, in the order of the writes, and pending till Sync.
func TestO4Sectors(t *testing.T) {
	d := made(t, 300)
	head(0x01020303).to(d, 20)
	l := opened(t, d, 20, 280, 0xf1e2d3c4)
	for _, r := range []string{"", "x", text(48), text(49), text(100), strings.Repeat("\x00", 96), text(2000), text(2000), text(2000), text(2000), text(2000), text(48)} {
		place, before, n := l.Next(), d.Pending(), log.Sectors(len(r))
		appended(t, l, r)
		if l.Next() != place+n || d.Pending() != before+n {
			t.Errorf("%d bytes: Next %d, Pending %d, were %d, %d", len(r), l.Next(), d.Pending(), place, before)
		}
		for i := range n {
			s := raw{epoch: 0xf1e2d3c4, life: 0x01020304, place: place + i, content: r[48*i : min(48*i+48, len(r))]}
			s.size = len(s.content)
			if i == 0 {
				s.kind++
			}
			if i == n-1 {
				s.kind += 2
			}
			wantSector(t, d, 20+place+i, s)
			if b, _ := d.Lasting(20 + place + i); !bytes.Equal(b, make([]byte, 64)) {
				t.Error("Append flushed")
			}
		}
	}
	if l.Next() < 220 {
		t.Error("the places have one byte")
	}
	wantErr(t, "Sync", l.Sync(), api.OK)
	if d.Pending() != 0 {
		t.Error("Sync left writes pending")
	}
	wantSector(t, d, 20, head(0x01020304))
}

// Power fails at each write of a record: Next stays, the earlier records too, and the log that is open can append anew after a crash.
func TestO4PowerFails(t *testing.T) {
	for operations := range 4 {
		for bits := range 1 << operations {
			d := made(t, 12)
			l := opened(t, d, 1, 11, 1)
			synced(t, l, "a", text(70))
			d.Arm(operations)
			wantErr(t, "Append", l.Append(text(190)), api.ErrDown)
			wantLog(t, l, 1, 4, 7)
			if d.Up() || d.Pending() != operations {
				t.Errorf("%d writes of %d", d.Pending(), operations)
			}
			wantErr(t, "Append", l.Append("b"), api.ErrDown)
			wantErr(t, "Sync", l.Sync(), api.ErrDown)
			d.Crash(selected(bits, operations)...)
			wantLog(t, l, 1, 4, 7)
			synced(t, l, text(49))
			wantLog(t, l, 1, 6, 5)
			wantLog(t, opened(t, d, 1, 11, 1, "a", text(70), text(49)), 2, 6, 5)
		}
	}
}

// selected is a crash's choice among n writes: those whose bits are set.
func selected(bits, n int) []bool {
	keep := make([]bool, n)
	for i := range keep {
		keep[i] = bits>>i&1 == 1
	}
	return keep
}

func TestO4SyncFails(t *testing.T) {
	d := made(t, 8)
	l := opened(t, d, 0, 8, 1)
	appended(t, l, "a")
	d.Arm(0)
	wantErr(t, "Sync", l.Sync(), api.ErrDown)
	wantLog(t, l, 1, 2, 6)
	if d.Pending() != 1 {
		t.Error("a Sync that failed flushed")
	}
	d.Crash()
	opened(t, d, 0, 8, 1)
}

func TestO4SyncOfNothing(t *testing.T) {
	d := made(t, 8)
	l := opened(t, d, 0, 8, 1)
	d.Arm(2)
	wantErr(t, "Sync", l.Sync(), api.OK)
	wantErr(t, "Sync", l.Sync(), api.OK)
	wantErr(t, "Sync", l.Sync(), api.ErrDown)
	wantLog(t, l, 1, 1, 7)
}

// Two logs on one disk, side by side, know nothing of each other.
func TestR6TwoRegions(t *testing.T) {
	d := made(t, 20)
	a := opened(t, d, 0, 10, 1)
	opened(t, d, 10, 10, 1)
	opened(t, d, 10, 10, 1)
	b := opened(t, d, 10, 10, 1)
	appended(t, a, "a", text(80))
	appended(t, b, text(90), "b")
	wantErr(t, "Sync", a.Sync(), api.OK)
	wantLog(t, a, 1, 4, 6)
	wantLog(t, b, 3, 4, 6)
	d.Crash()
	opened(t, d, 0, 10, 1, "a", text(80))
	opened(t, d, 10, 10, 1, text(90), "b")
}

// A log and its disk don't hang on what a caller does to a result.
func TestR5ResultsAreNew(t *testing.T) {
	d := made(t, 8)
	synced(t, opened(t, d, 0, 8, 1), "a", "b")
	l, one, _ := log.Open(d, 0, 8, 1)
	_, two, _ := log.Open(d, 0, 8, 1)
	one[0], one[1] = "x", "y"
	wantRecords(t, two, []string{"a", "b"})
	wantLog(t, l, 2, 3, 5)
	opened(t, d, 0, 8, 1, "a", "b")
}

// The chapter's examples, line by line.
func TestExamples(t *testing.T) {
	d := made(t, 8)
	l := opened(t, d, 0, 8, 1)
	wantLog(t, l, 1, 1, 7)
	appended(t, l, "ab", text(100))
	wantLog(t, l, 1, 5, 3)
	synced(t, l)
	appended(t, l, "c")
	d.Crash()
	l = opened(t, d, 0, 8, 1, "ab", text(100))
	wantLog(t, l, 2, 5, 3)
	appended(t, l, "d", "e")
	d.Crash(false, true)
	l = opened(t, d, 0, 8, 1, "ab", text(100))
	wantLog(t, l, 3, 5, 3)
	wantLog(t, opened(t, d, 0, 8, 2), 4, 1, 7)
	if log.Sectors(0) != 1 || log.Sectors(48) != 1 || log.Sectors(49) != 2 {
		t.Error(log.Sectors(0), log.Sectors(48), log.Sectors(49))
	}
}

package disk_test

import (
	"bytes"
	"math"
	"slices"
	"testing"

	"palatine/api"
	"palatine/disk"
)

func made(t *testing.T, sectors int) *disk.Disk {
	t.Helper()
	d, e := disk.New(sectors)
	if d == nil || e != api.OK {
		t.Fatalf("New(%d): %v, %v", sectors, d, e)
	}
	return d
}

// full is a sector's bytes: those given, then zero bytes.
func full(b ...byte) []byte {
	s := make([]byte, 64)
	copy(s, b)
	return s
}

// repeated is n bytes b.
func repeated(b byte, n int) []byte { return bytes.Repeat([]byte{b}, n) }

func wantErr(t *testing.T, call string, got, want api.Errno) {
	t.Helper()
	if got != want {
		t.Errorf("%s: got %d, want %d", call, got, want)
	}
}

func wantRead(t *testing.T, d *disk.Disk, n int, want ...byte) {
	t.Helper()
	if b, e := d.Read(n); e != api.OK || !bytes.Equal(b, full(want...)) {
		t.Errorf("Read(%d): got %v, %d, want %v ..", n, b, e, want)
	}
}

func wantLasting(t *testing.T, d *disk.Disk, n int, want ...byte) {
	t.Helper()
	if b, e := d.Lasting(n); e != api.OK || !bytes.Equal(b, full(want...)) {
		t.Errorf("Lasting(%d): got %v, %d, want %v ..", n, b, e, want)
	}
}

func wantNoRead(t *testing.T, d *disk.Disk, n int, want api.Errno) {
	t.Helper()
	if b, e := d.Read(n); len(b) != 0 || e != want {
		t.Errorf("Read(%d): got %v, %d, want nothing, %d", n, b, e, want)
	}
}

func wantState(t *testing.T, d *disk.Disk, up bool, pending int) {
	t.Helper()
	if d.Up() != up || d.Pending() != pending {
		t.Errorf("got Up %v, Pending %d, want %v, %d", d.Up(), d.Pending(), up, pending)
	}
}

func wantCrash(t *testing.T, d *disk.Disk, want int, keep ...bool) {
	t.Helper()
	if n := d.Crash(keep...); n != want {
		t.Errorf("Crash(%v): got %d, want %d", keep, n, want)
	}
	wantState(t, d, true, 0)
}

// absent are numbers of sectors that a disk of two sectors lacks.
func absent() []int { return []int{2, 3, 64, -1, -2, 4096, math.MaxInt, math.MinInt} }

func TestD1Sizes(t *testing.T) {
	for _, n := range []int{0, -1, 4097, 4098, 1 << 20, math.MaxInt, math.MinInt} {
		if d, e := disk.New(n); d != nil || e != api.ErrArg {
			t.Errorf("New(%d): got %v, %d, want nil, ErrArg", n, d, e)
		}
	}
	for _, n := range []int{1, 2, 3, 64, 4095, 4096} {
		if d := made(t, n); d.Sectors() != n {
			t.Errorf("New(%d): %d sectors", n, d.Sectors())
		}
	}
}

func TestD1New(t *testing.T) {
	for _, n := range []int{1, 2, 4096} {
		d := made(t, n)
		wantState(t, d, true, 0)
		for i := range n {
			wantRead(t, d, i)
			wantLasting(t, d, i)
		}
		wantNoRead(t, d, n, api.ErrSector)
		wantCrash(t, d, 0, true)
	}
}

func TestD1NotArmed(t *testing.T) {
	d := made(t, 4096)
	for i := range 4096 {
		wantErr(t, "Write", d.Write(i, byte(i), byte(i>>8)), api.OK)
	}
	wantState(t, d, true, 4096)
	for range 100 {
		wantErr(t, "Flush", d.Flush(), api.OK)
	}
	wantState(t, d, true, 0)
	for i := range 4096 {
		wantLasting(t, d, i, byte(i), byte(i>>8))
	}
}

func TestD1Apart(t *testing.T) {
	a, b := made(t, 2), made(t, 3)
	a.Write(0, 1)
	a.Flush()
	a.Write(1, 2)
	a.Arm(0)
	a.Flush()
	wantState(t, a, false, 1)
	wantState(t, b, true, 0)
	wantRead(t, b, 0)
	wantErr(t, "Write", b.Write(1, 3), api.OK)
	if a.Sectors() != 2 || b.Sectors() != 3 {
		t.Error(a.Sectors(), b.Sectors())
	}
}

func TestD2ReadAndLasting(t *testing.T) {
	d := made(t, 2)
	d.Write(0, 7, 8)
	wantRead(t, d, 0, 7, 8)
	wantLasting(t, d, 0)
	wantRead(t, d, 1)
	d.Flush()
	wantRead(t, d, 0, 7, 8)
	wantLasting(t, d, 0, 7, 8)
	d.Write(0, 9)
	d.Write(1, 5)
	d.Write(0, 10)
	wantRead(t, d, 0, 10)
	wantLasting(t, d, 0, 7, 8)
	wantRead(t, d, 1, 5)
	wantLasting(t, d, 1)
	wantState(t, d, true, 3)
}

func TestD2Errors(t *testing.T) {
	d := made(t, 2)
	d.Write(1, 6)
	d.Flush()
	d.Write(1, 7)
	for _, n := range absent() {
		wantNoRead(t, d, n, api.ErrSector)
		if b, e := d.Lasting(n); len(b) != 0 || e != api.ErrSector {
			t.Errorf("Lasting(%d): %v, %d", n, b, e)
		}
	}
	d.Arm(0)
	wantRead(t, d, 1, 7) // reading needs no operation of those that are left
	d.Flush()
	for _, n := range append(absent(), 0, 1) {
		wantNoRead(t, d, n, api.ErrDown)
	}
	for _, n := range absent() {
		if b, e := d.Lasting(n); len(b) != 0 || e != api.ErrSector {
			t.Errorf("Lasting(%d) without power: %v, %d", n, b, e)
		}
	}
	wantLasting(t, d, 0)
	wantLasting(t, d, 1, 6)
	wantState(t, d, false, 1)
}

func TestD2ResultsAreNew(t *testing.T) {
	d := made(t, 1)
	d.Write(0, 1)
	d.Flush()
	d.Write(0, 2)
	pending, _ := d.Read(0)
	durable, _ := d.Lasting(0)
	pending[0], durable[0] = 9, 9
	pending, durable = append(pending, 9), append(durable, 9)
	wantRead(t, d, 0, 2)
	wantLasting(t, d, 0, 1)
	d.Flush()
	flushed, _ := d.Read(0)
	flushed[0] = 9
	d.Write(0, 3)
	if wantRead(t, d, 0, 3); flushed[0] != 9 || pending[0] != 9 || durable[0] != 9 {
		t.Error("a result changed after the call")
	}
}

func TestD3Lengths(t *testing.T) {
	d := made(t, 2)
	for i, n := range []int{64, 0, 63, 1, 2, 64, 63} {
		b := repeated(byte(i+1), n)
		wantErr(t, "Write", d.Write(1, b...), api.OK)
		wantRead(t, d, 1, b...)
		wantState(t, d, true, i+1)
	}
	wantRead(t, d, 0)
	for _, n := range []int{65, 66, 128, 4096, 100000} {
		wantErr(t, "Write", d.Write(1, repeated(1, n)...), api.ErrLong)
	}
	wantState(t, d, true, 7)
	d.Flush()
	wantLasting(t, d, 1, repeated(7, 63)...)
	wantErr(t, "Write of nothing", d.Write(1), api.OK)
	wantRead(t, d, 1)
	wantLasting(t, d, 1, repeated(7, 63)...)
	wantCrash(t, d, 1, true)
	wantRead(t, d, 1)
}

func TestD3LastSector(t *testing.T) {
	d := made(t, 4096)
	wantErr(t, "Write", d.Write(4095, 1), api.OK)
	wantErr(t, "Write", d.Write(4096, 1), api.ErrSector)
	wantErr(t, "Write", d.Write(-1, 1), api.ErrSector)
	wantRead(t, d, 4095, 1)
	wantRead(t, d, 0)
	wantState(t, d, true, 1)
}

func TestD3OrderOfErrors(t *testing.T) {
	d := made(t, 2)
	long := repeated(1, 65)
	d.Arm(0)
	for _, n := range absent() {
		wantErr(t, "Write to no sector", d.Write(n, 1), api.ErrSector)
		wantErr(t, "Write of 65 bytes to no sector", d.Write(n, long...), api.ErrSector)
	}
	wantErr(t, "Write of 65 bytes", d.Write(0, long...), api.ErrLong)
	wantState(t, d, true, 0)
	wantErr(t, "Write, armed with 0", d.Write(0, 1), api.ErrDown)
	wantState(t, d, false, 0)
	wantErr(t, "Write without power", d.Write(0, 1), api.ErrDown)
	wantErr(t, "Write to no sector without power", d.Write(2, 1), api.ErrDown)
	wantErr(t, "Write of 65 bytes without power", d.Write(0, long...), api.ErrDown)
	wantErr(t, "Flush without power", d.Flush(), api.ErrDown)
	wantCrash(t, d, 0, true)
	wantRead(t, d, 0)
}

func TestD3Armed(t *testing.T) {
	for _, operations := range []int{0, 1, 2, 3, 10, 100} {
		d := made(t, 2)
		wantErr(t, "Arm", d.Arm(operations), api.OK)
		for i := range operations {
			wantErr(t, "Write to no sector", d.Write(2, 1), api.ErrSector)
			wantErr(t, "Write of 65 bytes", d.Write(0, repeated(1, 65)...), api.ErrLong)
			if i%3 == 2 {
				wantErr(t, "Flush", d.Flush(), api.OK)
			} else {
				wantErr(t, "Write", d.Write(1, byte(i+1)), api.OK)
			}
			wantRead(t, d, 0)
		}
		wantState(t, d, true, operations%3)
		before, _ := d.Lasting(1)
		wantErr(t, "Flush", d.Flush(), api.ErrDown)
		wantState(t, d, false, operations%3)
		wantLasting(t, d, 1, before...)
	}
}

func TestD3FlushCountsWithNothingPending(t *testing.T) {
	d := made(t, 1)
	d.Arm(2)
	wantErr(t, "Flush", d.Flush(), api.OK)
	wantErr(t, "Flush", d.Flush(), api.OK)
	wantErr(t, "Write", d.Write(0, 1), api.ErrDown)
	wantState(t, d, false, 0)
}

func TestD3FlushAppliesWritesInOrder(t *testing.T) {
	d := made(t, 3)
	d.Write(0, 1)
	d.Write(2, 2)
	d.Write(0, 3, 4)
	d.Write(0, 5)
	wantState(t, d, true, 4)
	wantErr(t, "Flush", d.Flush(), api.OK)
	wantState(t, d, true, 0)
	wantLasting(t, d, 0, 5)
	wantLasting(t, d, 1)
	wantLasting(t, d, 2, 2)
	wantRead(t, d, 0, 5)
}

func TestD3FailingFlushKeepsThePendingWrites(t *testing.T) {
	d := made(t, 2)
	d.Write(0, 1)
	d.Write(1, 2)
	d.Arm(0)
	wantErr(t, "Flush", d.Flush(), api.ErrDown)
	wantErr(t, "Flush", d.Flush(), api.ErrDown)
	wantState(t, d, false, 2)
	wantLasting(t, d, 0)
	wantLasting(t, d, 1)
	wantCrash(t, d, 1, false, true)
	wantRead(t, d, 0)
	wantRead(t, d, 1, 2)
}

func TestD3ArgumentIsNotKept(t *testing.T) {
	d := made(t, 1)
	for _, n := range []int{1, 63, 64} {
		b := repeated(4, n)
		d.Write(0, b...)
		for i := range b {
			b[i] = 5
		}
		wantRead(t, d, 0, repeated(4, n)...)
		d.Flush()
		wantRead(t, d, 0, repeated(4, n)...)
		if !bytes.Equal(b, repeated(5, n)) {
			t.Error("Flush changed an argument of Write")
		}
	}
}

func TestD4Errors(t *testing.T) {
	d := made(t, 1)
	d.Arm(1)
	for _, n := range []int{-1, -2, math.MinInt} {
		wantErr(t, "Arm", d.Arm(n), api.ErrArg)
	}
	wantErr(t, "Write, still armed with 1", d.Write(0, 1), api.OK)
	wantErr(t, "Write, armed with 0", d.Write(0, 2), api.ErrDown)
	for _, n := range []int{-1, math.MinInt} {
		wantErr(t, "Arm without power", d.Arm(n), api.ErrArg)
	}
	for _, n := range []int{0, 1, math.MaxInt} {
		wantErr(t, "Arm without power", d.Arm(n), api.ErrDown)
	}
	wantErr(t, "Write", d.Write(0, 2), api.ErrDown)
	wantState(t, d, false, 1)
}

func TestD4Replaces(t *testing.T) {
	d := made(t, 1)
	for _, n := range []int{0, 5, math.MaxInt, 0, 2} {
		wantErr(t, "Arm", d.Arm(n), api.OK)
	}
	wantErr(t, "Write", d.Write(0, 1), api.OK)
	wantErr(t, "Flush", d.Flush(), api.OK)
	wantErr(t, "Write", d.Write(0, 2), api.ErrDown)
	wantCrash(t, d, 0)
	wantErr(t, "Arm", d.Arm(3), api.OK)
	wantErr(t, "Arm", d.Arm(0), api.OK)
	wantErr(t, "Flush", d.Flush(), api.ErrDown)
}

func TestD4LargeNumbers(t *testing.T) {
	d := made(t, 1)
	for _, n := range []int{1000, 1 << 16, 1 << 31, 1 << 32, 1 << 62, math.MaxInt} {
		wantErr(t, "Arm", d.Arm(n), api.OK)
		for range 1000 {
			wantErr(t, "Write", d.Write(0, 3), api.OK)
		}
		wantState(t, d, true, 1000)
		wantCrash(t, d, 0)
	}
}

// Every selection of three writes, given by one to five elements, in each case with and without power.
func TestD5Selections(t *testing.T) {
	for size := range 6 {
		for bits := range 1 << size {
			keep := make([]bool, size)
			for i := range keep {
				keep[i] = bits>>i&1 == 1
			}
			selection(t, keep, false)
			selection(t, keep, true)
		}
	}
}

func selection(t *testing.T, keep []bool, fails bool) {
	t.Helper()
	d := made(t, 2)
	d.Write(0, 7, 7)
	d.Flush()
	d.Write(0, 1)
	d.Write(1, 2)
	d.Write(0, 3)
	if fails {
		d.Arm(0)
		d.Write(1, 4)
		wantState(t, d, false, 3)
	}
	kept, zero, one := 0, []byte{7, 7}, []byte(nil)
	for i, k := range keep {
		if !k || i > 2 {
			continue
		}
		kept++
		if i == 1 {
			one = []byte{2}
		} else {
			zero = []byte{byte(i + 1)}
		}
	}
	given := slices.Clone(keep)
	wantCrash(t, d, kept, given...)
	if !slices.Equal(given, keep) {
		t.Errorf("Crash changed its argument %v", keep)
	}
	wantRead(t, d, 0, zero...)
	wantLasting(t, d, 0, zero...)
	wantRead(t, d, 1, one...)
	wantLasting(t, d, 1, one...)
}

func TestD5SeveralWritesOfOneSector(t *testing.T) {
	for last := range 10 {
		d := made(t, 1)
		for i := range 10 {
			d.Write(0, byte(i+1))
		}
		keep := make([]bool, last+1)
		keep[0], keep[last] = true, true
		wantCrash(t, d, min(last+1, 2), keep...)
		wantRead(t, d, 0, byte(last+1))
		wantLasting(t, d, 0, byte(last+1))
	}
}

func TestD5NotArmedAfterwards(t *testing.T) {
	d := made(t, 1)
	d.Arm(0)
	wantCrash(t, d, 0)
	wantErr(t, "Write", d.Write(0, 1), api.OK)
	d.Arm(1)
	wantErr(t, "Flush", d.Flush(), api.OK)
	wantErr(t, "Flush", d.Flush(), api.ErrDown)
	wantCrash(t, d, 0, true)
	for i := range 10 {
		wantErr(t, "Write", d.Write(0, byte(i)), api.OK)
		wantErr(t, "Flush", d.Flush(), api.OK)
	}
	wantErr(t, "Arm", d.Arm(0), api.OK)
	wantErr(t, "Write", d.Write(0, 1), api.ErrDown)
}

func TestD5Twice(t *testing.T) {
	d := made(t, 1)
	d.Write(0, 1)
	wantCrash(t, d, 1, true, true)
	wantCrash(t, d, 0, true, true)
	wantRead(t, d, 0, 1)
	d.Write(0, 2)
	wantCrash(t, d, 0, false, true)
	wantRead(t, d, 0, 1)
}

func TestD6AfterFlushACrashChangesNothing(t *testing.T) {
	d := made(t, 3)
	for i := range 9 {
		d.Write(i%3, byte(i), byte(i+1))
	}
	wantErr(t, "Flush", d.Flush(), api.OK)
	for _, n := range []int{0, 1, 9, 20} {
		wantCrash(t, d, 0, slices.Repeat([]bool{true}, n)...)
		for i := range 3 {
			wantRead(t, d, i, byte(i+6), byte(i+7))
		}
	}
}

// The chapter's examples, line by line.
func TestExamples(t *testing.T) {
	d := made(t, 2)
	wantErr(t, "Write", d.Write(0, 7, 8), api.OK)
	wantRead(t, d, 0, 7, 8)
	wantLasting(t, d, 0)
	wantState(t, d, true, 1)
	wantCrash(t, d, 0)
	wantRead(t, d, 0)

	d = made(t, 2)
	wantErr(t, "Write", d.Write(0, 1), api.OK)
	wantErr(t, "Write", d.Write(0, 2), api.OK)
	wantErr(t, "Write", d.Write(1, 3), api.OK)
	wantCrash(t, d, 2, true, false, true)
	wantRead(t, d, 0, 1)
	wantRead(t, d, 1, 3)

	d = made(t, 2)
	wantErr(t, "Arm", d.Arm(1), api.OK)
	wantErr(t, "Write", d.Write(1, 5), api.OK)
	wantErr(t, "Flush", d.Flush(), api.ErrDown)
	wantState(t, d, false, 1)
	wantCrash(t, d, 1, true)
	wantRead(t, d, 1, 5)

	if none, e := disk.New(0); none != nil || e != api.ErrArg {
		t.Error(none, e)
	}
	d = made(t, 2)
	wantNoRead(t, d, 2, api.ErrSector)
	wantErr(t, "Write", d.Write(0, make([]byte, 65)...), api.ErrLong)
	wantErr(t, "Arm", d.Arm(-1), api.ErrArg)
}

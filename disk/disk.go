// Package disk simulates a disk of 64-byte sectors, on which power can fail at any operation: see shared/doc/01-disk.md.
package disk

import (
	"sync/atomic"

	"palatine/api"
)

// notArmed stands apart from every number of operations: 0 already means that the next operation fails.
const notArmed = -1

type sector [api.SectorBytes]byte

// write is a pending write: the number of a sector, and what the sector becomes.
type write struct {
	number  int
	content sector
}

// Disk is a number of sectors, with the writes to them that a crash may lose.
type Disk struct {
	durable []sector
	pending []write
	up      bool
	left    atomic.Int64
}

// New creates a disk whose bytes are all 0.
func New(sectors int) (*Disk, api.Errno) {
	if sectors < 1 || sectors > api.MaxSectors {
		return nil, api.ErrArg
	}
	d := &Disk{durable: make([]sector, sectors), up: true}
	d.left.Store(notArmed)
	return d, api.OK
}

// Sectors returns the number of sectors.
func (d *Disk) Sectors() int { return len(d.durable) }

// Read returns a sector as it was last written, whether flushed or not.
func (d *Disk) Read(n int) ([]byte, api.Errno) {
	if !d.up {
		return nil, api.ErrDown
	}
	if !d.has(n) {
		return nil, api.ErrSector
	}
	return bytesOf(d.written(n)), api.OK
}

// Write replaces a sector by b and zero bytes; the write is pending until Flush.
func (d *Disk) Write(n int, b ...byte) api.Errno {
	if !d.up {
		return api.ErrDown
	}
	if !d.has(n) {
		return api.ErrSector
	}
	if len(b) > api.SectorBytes {
		return api.ErrLong
	}
	if !d.spend() {
		return api.ErrDown
	}
	w := write{number: n}
	copy(w.content[:], b)
	d.pending = append(d.pending, w)
	return api.OK
}

// Flush makes all pending writes durable.
func (d *Disk) Flush() api.Errno {
	if !d.up || !d.spend() {
		return api.ErrDown
	}
	for _, w := range d.pending {
		d.durable[w.number] = w.content
	}
	d.pending = nil
	return api.OK
}

// Pending returns the number of pending writes.
func (d *Disk) Pending() int { return len(d.pending) }

// Lasting returns a sector without its pending writes, even if power is off.
func (d *Disk) Lasting(n int) ([]byte, api.Errno) {
	if !d.has(n) {
		return nil, api.ErrSector
	}
	return bytesOf(d.durable[n]), api.OK
}

// Arm lets power fail after this number of further operations.
func (d *Disk) Arm(operations int) api.Errno {
	if operations < 0 {
		return api.ErrArg
	}
	if !d.up {
		return api.ErrDown
	}
	d.left.Store(int64(operations))
	return api.OK
}

// Up tells whether power is on.
func (d *Disk) Up() bool { return d.up }

// Crash makes the pending writes durable that keep selects by their positions, loses the others, and turns power on again. It returns the number of writes that were kept.
func (d *Disk) Crash(keep ...bool) int {
	kept := 0
	for i, w := range d.pending {
		if i < len(keep) && keep[i] {
			d.durable[w.number] = w.content
			kept++
		}
	}
	d.pending = nil
	d.up = true
	d.left.Store(notArmed)
	return kept
}

func (d *Disk) has(n int) bool { return n >= 0 && n < len(d.durable) }

// written looks from the last pending write backwards, since a later write to a sector hides the earlier ones.
func (d *Disk) written(n int) sector {
	for i := len(d.pending) - 1; i >= 0; i-- {
		if d.pending[i].number == n {
			return d.pending[i].content
		}
	}
	return d.durable[n]
}

// spend takes one operation from those that are left; if none is, power fails, and it returns false.
func (d *Disk) spend() bool {
	left := d.left.Load()
	if left == 0 {
		d.up = false
		return false
	}
	if left != notArmed {
		d.left.Store(left - 1)
	}
	return true
}

// bytesOf copies a sector out, so that a caller who changes the bytes doesn't change the disk.
func bytesOf(s sector) []byte {
	b := make([]byte, api.SectorBytes)
	copy(b, s[:])
	return b
}

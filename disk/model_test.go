package disk_test

import (
	"bytes"
	"testing"

	"palatine/api"
	"palatine/disk"
)

// draws is a fixed sequence of numbers, the same in every run.
type draws uint64

func (r *draws) below(n int) int {
	*r = *r*6364136223846793005 + 1442695040888963407
	return int(uint64(*r) >> 33 % uint64(n))
}

// model says what the chapter says, without regard to cost: a sector's durable bytes, and all it may become.
type model struct {
	durable [][]byte
	numbers []int
	written [][]byte
	up      bool
	armed   bool
	left    int
}

func newModel(sectors int) *model {
	m := &model{durable: make([][]byte, sectors), up: true}
	for i := range m.durable {
		m.durable[i] = full()
	}
	return m
}

func (m *model) fails() bool {
	if m.armed && m.left == 0 {
		m.up = false
		return true
	}
	if m.armed {
		m.left--
	}
	return false
}

func (m *model) write(n int, b []byte) api.Errno {
	switch {
	case !m.up:
		return api.ErrDown
	case n < 0 || n >= len(m.durable):
		return api.ErrSector
	case len(b) > 64:
		return api.ErrLong
	case m.fails():
		return api.ErrDown
	}
	m.numbers, m.written = append(m.numbers, n), append(m.written, full(b...))
	return api.OK
}

func (m *model) keep(selected func(i int) bool) int {
	kept := 0
	for i, n := range m.numbers {
		if selected(i) {
			m.durable[n] = m.written[i]
			kept++
		}
	}
	m.numbers, m.written = nil, nil
	return kept
}

func (m *model) flush() api.Errno {
	if !m.up || m.fails() {
		return api.ErrDown
	}
	m.keep(func(int) bool { return true })
	return api.OK
}

func (m *model) arm(n int) api.Errno {
	if n < 0 {
		return api.ErrArg
	}
	if !m.up {
		return api.ErrDown
	}
	m.armed, m.left = true, n
	return api.OK
}

func (m *model) crash(keep []bool) int {
	m.up, m.armed = true, false
	return m.keep(func(i int) bool { return i < len(keep) && keep[i] })
}

func (m *model) current(n int) []byte {
	b := m.durable[n]
	for i, x := range m.numbers {
		if x == n {
			b = m.written[i]
		}
	}
	return b
}

// possible tells whether a crash may leave b in a sector.
func (m *model) possible(n int, b []byte) bool {
	ok := bytes.Equal(b, m.durable[n])
	for i, x := range m.numbers {
		ok = ok || x == n && bytes.Equal(b, m.written[i])
	}
	return ok
}

func (m *model) compare(t *testing.T, d *disk.Disk) {
	t.Helper()
	wantState(t, d, m.up, len(m.numbers))
	for n := range m.durable {
		wantLasting(t, d, n, m.durable[n]...)
		if m.up {
			wantRead(t, d, n, m.current(n)...)
		} else {
			wantNoRead(t, d, n, api.ErrDown)
		}
	}
}

func (m *model) compareCrash(t *testing.T, d *disk.Disk, keep []bool) {
	t.Helper()
	before := *m
	before.durable = append([][]byte(nil), m.durable...)
	wantCrash(t, d, m.crash(keep), keep...)
	for n := range m.durable {
		if b, e := d.Read(n); e != api.OK || !before.possible(n, b) {
			t.Errorf("sector %d is neither durable nor pending content: %v, %d", n, b, e)
		}
	}
}

// Long mixtures of all calls: D2 to D5 call by call, and D6 at each crash.
func TestD6Mixtures(t *testing.T) {
	for seed := range draws(300) {
		r := seed
		sectors := 1 + r.below(4)
		d, m := made(t, sectors), newModel(sectors)
		for range 60 {
			step(t, &r, d, m)
			m.compare(t, d)
		}
		if t.Failed() {
			t.Fatalf("the mixture %d failed", seed)
		}
	}
}

func step(t *testing.T, r *draws, d *disk.Disk, m *model) {
	t.Helper()
	switch r.below(10) {
	default:
		n, b := r.below(len(m.durable)+2)-1, make([]byte, r.below(67))
		for i := range b {
			b[i] = byte(r.below(256))
		}
		wantErr(t, "Write", d.Write(n, b...), m.write(n, b))
	case 0:
		wantErr(t, "Flush", d.Flush(), m.flush())
	case 1:
		n := r.below(8) - 1
		wantErr(t, "Arm", d.Arm(n), m.arm(n))
	case 2:
		keep := make([]bool, r.below(2*len(m.numbers)+2))
		for i := range keep {
			keep[i] = r.below(2) == 1
		}
		m.compareCrash(t, d, keep)
	}
}

package log_test

import (
	"slices"
	"testing"

	"palatine/api"
	"palatine/disk"
	"palatine/log"
)

// draws is a fixed sequence of numbers, the same in every run.
type draws uint64

func (r *draws) below(n int) int {
	*r = *r*6364136223846793005 + 1442695040888963407
	return int(uint64(*r) >> 33 % uint64(n))
}

// Every choice of a crash among the writes of four records of one and more sectors: the records before the first lost write are there, and the next lives do not bring back the others.
func TestO5EveryChoice(t *testing.T) {
	records := []string{text(10), text(60), "", text(97)}
	ends := []int{1, 3, 4, 7}
	for bits := range 1 << 7 {
		d := made(t, 16)
		l := opened(t, d, 1, 15, 4)
		synced(t, l, "sure", text(50))
		appended(t, l, records...)
		keep := selected(bits, 7)
		d.Crash(keep...)
		lost := slices.Index(append(keep, false), false)
		want := []string{"sure", text(50)}
		next := 4
		for i, r := range records {
			if ends[i] <= lost {
				want, next = append(want, r), 4+ends[i]
			}
		}
		l = opened(t, d, 1, 15, 4, want...)
		wantLog(t, l, 2, next, 15-next)
		again(t, d, l, want)
	}
}

// again appends records of each length in a new life: whatever is behind them on the disk does not come back.
func again(t *testing.T, d *disk.Disk, l *log.Log, want []string) {
	t.Helper()
	for _, n := range []int{5, 49, 0} {
		if log.Sectors(n) > l.Room() {
			return
		}
		synced(t, l, text(n))
		want = append(slices.Clone(want), text(n))
		d.Crash()
		l = opened(t, d, 1, 15, 4, want...)
	}
}

// Lives of which each loses its first record and keeps the second one: a lost record's place is taken by the next life, and the kept ones behind it stay hidden.
func TestO5LivesThatLoseTheirFirstRecord(t *testing.T) {
	for _, n := range []int{1, 48, 49, 100} {
		size := log.Sectors(n)
		d := made(t, 20)
		synced(t, opened(t, d, 0, 20, 1), "sure")
		for life := uint32(2); life < 8; life++ {
			l := opened(t, d, 0, 20, 1, "sure")
			wantLog(t, l, life, 2, 18)
			appended(t, l, text(n), text(n))
			d.Crash(append(make([]bool, size), all(size)...)...)
		}
		l := opened(t, d, 0, 20, 1, "sure")
		synced(t, l, text(n))
		opened(t, d, 0, 20, 1, "sure", text(n))
	}
}

// A record of which one life keeps the first sectors, and the next life, of a record of the same length, the last ones: they do not make a record.
func TestO5HalvesOfTwoLives(t *testing.T) {
	for kept := range 4 {
		d := made(t, 20)
		appended(t, opened(t, d, 0, 20, 1), text(140))
		d.Crash(all(kept)...)
		if kept == 3 {
			opened(t, d, 0, 20, 1, text(140))
			continue
		}
		appended(t, opened(t, d, 0, 20, 1), text(140))
		d.Crash(append(make([]bool, kept), all(3-kept)...)...)
		if kept == 0 {
			opened(t, d, 0, 20, 1, text(140))
			continue
		}
		wantLog(t, opened(t, d, 0, 20, 1), 3, 1, 19)
	}
}

// A life whose head was written but not flushed has written no record: it does not matter whether the crash keeps the head.
func TestO5LostHead(t *testing.T) {
	for _, kept := range []bool{false, true} {
		d := made(t, 20)
		l := opened(t, d, 0, 20, 1)
		synced(t, l, "a")
		appended(t, l, "b", "c")
		d.Crash(false, true)
		d.Arm(1)
		wantNoLog(t, d, 0, 20, api.ErrDown)
		d.Crash(kept)
		l = opened(t, d, 0, 20, 1, "a")
		appended(t, l, "d")
		d.Crash(true)
		opened(t, d, 0, 20, 1, "a", "d")
	}
}

// A new epoch begins without records, and what the other one left is not read as its own; it is there till it is written over.
func TestO5TwoEpochs(t *testing.T) {
	d := made(t, 12)
	one := []string{"a", text(60), "b"}
	synced(t, opened(t, d, 2, 10, 1), one...)
	wantLog(t, opened(t, d, 2, 10, 2), 2, 1, 9)
	wantLog(t, opened(t, d, 2, 10, 1, one...), 3, 5, 5)
	l := opened(t, d, 2, 10, 2)
	appended(t, l, "x")
	d.Crash()
	wantLog(t, opened(t, d, 2, 10, 1, one...), 5, 5, 5)
	l = opened(t, d, 2, 10, 2)
	appended(t, l, "x", "y")
	d.Crash(false, true)
	wantLog(t, opened(t, d, 2, 10, 1, "a"), 7, 2, 8)
	synced(t, opened(t, d, 2, 10, 2), "x")
	wantLog(t, opened(t, d, 2, 10, 2, "x"), 9, 2, 8)
	wantLog(t, opened(t, d, 2, 10, 1), 10, 1, 9)
}

// The lives go on over the epochs: an old record of an epoch does not come back behind a new one of it.
func TestO5LivesGoOnOverEpochs(t *testing.T) {
	for _, epochs := range [][2]uint32{{1, 2}, {0, 1 << 24}, {1 << 31, 0}, {0xffffffff, 0}} {
		d := made(t, 8)
		synced(t, opened(t, d, 0, 8, epochs[0]), "a", "b", "c")
		synced(t, opened(t, d, 0, 8, epochs[1]), "x")
		synced(t, opened(t, d, 0, 8, epochs[0]), "d")
		wantLog(t, opened(t, d, 0, 8, epochs[0], "d"), 4, 2, 6)
		opened(t, d, 0, 8, epochs[1])
	}
}

// written is a record with its pending writes, from one on, to the one before another.
type written struct {
	text     string
	from, to int
}

// model is what O5 says: the records that are sure, those that a crash may lose, and the life that the head has.
type model struct {
	d     *disk.Disk
	l     *log.Log
	epoch uint32
	life  uint32
	head  int // the pending write of a head, or -1
	sure  []string
	loose []written
}

func (m *model) open(t *testing.T, r *draws) {
	t.Helper()
	epoch := m.epoch
	if r.below(8) == 0 {
		epoch++
	}
	l, records, e := log.Open(m.d, 1, 30, epoch)
	if e != api.OK {
		wantErr(t, "Open", e, api.ErrDown)
		if l != nil || len(records) != 0 || m.d.Up() {
			t.Error("an Open that failed returned something, or power did not fail")
		}
		return
	}
	if epoch != m.epoch {
		m.epoch, m.sure, m.loose = epoch, nil, nil
	}
	m.settle()
	wantRecords(t, records, m.sure)
	m.l = l
	m.life++
	next := 1
	for _, s := range m.sure {
		next += log.Sectors(len(s))
	}
	wantLog(t, l, m.life, next, 30-next)
}

func (m *model) settle() {
	for _, w := range m.loose {
		m.sure = append(m.sure, w.text)
	}
	m.loose = nil
}

func (m *model) append(t *testing.T, s string) {
	t.Helper()
	before, next, room := m.d.Pending(), m.l.Next(), m.l.Room()
	e := m.l.Append(s)
	switch {
	case log.Sectors(len(s)) > room:
		wantErr(t, "Append", e, api.ErrFull)
	case e == api.OK:
		m.loose = append(m.loose, written{s, before, m.d.Pending()})
		next += log.Sectors(len(s))
	default:
		wantErr(t, "Append", e, api.ErrDown)
		if m.d.Up() {
			t.Error("power did not fail")
		}
	}
	wantLog(t, m.l, m.life, next, 30-next)
}

// crash keeps some writes, and ends the life.
func (m *model) crash(r *draws, pendingHead bool) {
	keep := make([]bool, m.d.Pending())
	odds := 1 + r.below(8)
	for i := range keep {
		keep[i] = r.below(odds) != 0
	}
	if pendingHead && len(keep) > 0 && keep[len(keep)-1] {
		m.life++
	}
	m.d.Crash(keep...)
	for _, w := range m.loose {
		if slices.Contains(keep[w.from:w.to], false) {
			break
		}
		m.sure = append(m.sure, w.text)
	}
	m.loose, m.l = nil, nil
}

// Long mixtures of lives in which power fails at any operation, with a log that is opened after each crash, and at times without one.
func TestO5Mixtures(t *testing.T) {
	opens, most := 0, 0
	for seed := range draws(2000) {
		r := seed
		m := &model{d: made(t, 32)}
		for range 80 {
			m.step(t, &r)
			most = max(most, len(m.sure))
		}
		opens += int(m.life)
		if t.Failed() {
			t.Fatalf("the mixture %d failed", seed)
		}
	}
	if opens < 10000 || most < 8 {
		t.Errorf("the mixtures have %d lives, and %d records at most", opens, most)
	}
}

func (m *model) step(t *testing.T, r *draws) {
	t.Helper()
	if m.l == nil || r.below(20) == 0 {
		if r.below(4) == 0 {
			m.d.Arm(r.below(3))
		}
		before := m.d.Pending()
		m.l = nil
		m.open(t, r)
		if m.l == nil {
			m.crash(r, m.d.Pending() > before)
		}
		return
	}
	switch r.below(8) {
	default:
		m.append(t, text([]int{0, 1, 20, 47, 48, 49, 96, 97, 150, r.below(400)}[r.below(10)]))
	case 0, 1:
		if e := m.l.Sync(); e == api.OK {
			m.settle()
		} else {
			wantErr(t, "Sync", e, api.ErrDown)
		}
	case 2:
		m.d.Arm(r.below(6))
	}
	if !m.d.Up() || r.below(12) == 0 {
		m.crash(r, false)
	}
}

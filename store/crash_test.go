package store_test

import (
	"slices"
	"testing"

	"palatine/api"
	"palatine/disk"
	"palatine/log"
	"palatine/store"
)

// selected is a crash's choice of n writes, one for each bit.
func selected(bits, n int) []bool {
	keep := make([]bool, n)
	for i := range keep {
		keep[i] = bits>>i&1 == 1
	}
	return keep
}

// story is what happens to a disk till its power fails, the same each time.
type story func(t *testing.T) (*disk.Disk, *store.Store)

// everyCrash lets power fail at each of the operations of what is done to a store, and crashes with every choice of the writes that are pending then. It returns the number of operations.
func everyCrash(t *testing.T, begin story, do func(*store.Store) api.Errno, see func(t *testing.T, d *disk.Disk, operations int, keep []bool)) int {
	t.Helper()
	for n := range 100 {
		d, s := begin(t)
		before := s.Tree().All()
		d.Arm(n)
		e := do(s)
		if e == api.OK {
			if d.Pending() != 0 {
				t.Errorf("got Pending %d, want 0", d.Pending())
			}
			d.Crash()
			opened(t, d, s.Tree().All()...)
			return n
		}
		wantErr(t, "the call", e, api.ErrDown)
		wantTree(t, s, before...)
		pending := d.Pending()
		for bits := range 1 << pending {
			d, s := begin(t)
			d.Arm(n)
			do(s)
			wantBroken(t, d, s)
			keep := selected(bits, pending)
			d.Crash(keep...)
			wantBroken(t, d, s)
			see(t, d, n, keep)
		}
		if t.Failed() {
			t.Fatalf("power failed at the operation %d", n)
		}
	}
	t.Fatal("the call does not end")
	return 0
}

// goesOn holds a store that was opened after a crash to what follows: commits, a checkpoint, and more crashes.
func goesOn(t *testing.T, d *disk.Disk, s *store.Store) {
	t.Helper()
	changes := []api.Change{put("new", text(70)), gone("a")}
	committed(t, s, changes...)
	want := s.Tree().All()
	d.Crash()
	s = opened(t, d, want...)
	committed(t, s, put("new", "2"))
	want = s.Tree().All()
	wantErr(t, "Checkpoint", s.Checkpoint(), api.OK)
	committed(t, s, put("more", "3"))
	want = slices.Insert(want, slices.IndexFunc(want, func(p api.Pair) bool { return p.Key == "new" }), api.Pair{Key: "more", Value: "3"})
	d.Crash()
	opened(t, d, want...)
}

// A commit of one, two, three and five sectors is there if all of them were kept, and not at all otherwise.
func TestH5Commit(t *testing.T) {
	for _, checkpoints := range []int{0, 1, 2} {
		for _, x := range []struct{ value, sectors int }{{20, 1}, {80, 2}, {120, 3}, {220, 5}} {
			old := pairs("a", "1", "b", "2")
			changed := pairs("b", text(x.value), "c", "3")
			begin := func(t *testing.T) (*disk.Disk, *store.Store) {
				d := made(t, 40)
				s := opened(t, d)
				committed(t, s, put("a", "1"), put("b", "2"))
				for range checkpoints {
					wantErr(t, "Checkpoint", s.Checkpoint(), api.OK)
				}
				return d, s
			}
			commit := func(s *store.Store) api.Errno {
				return s.Commit(gone("a"), put("b", text(x.value)), put("c", "3"))
			}
			n := everyCrash(t, begin, commit, func(t *testing.T, d *disk.Disk, operations int, keep []bool) {
				want := old
				if operations == x.sectors && !slices.Contains(keep, false) {
					want = changed
				}
				s := opened(t, d, want...)
				if s.Epoch() != uint32(checkpoints) {
					t.Errorf("got Epoch %d, want %d", s.Epoch(), checkpoints)
				}
				goesOn(t, d, s)
			})
			if n != x.sectors+1 {
				t.Errorf("a commit of %d sectors has %d operations", x.sectors, n)
			}
		}
	}
}

// A commit of nothing may be lost or kept: the tree is the same.
func TestH5CommitOfNothing(t *testing.T) {
	begin := func(t *testing.T) (*disk.Disk, *store.Store) {
		d := made(t, 32)
		s := opened(t, d)
		committed(t, s, put("a", "1"))
		return d, s
	}
	n := everyCrash(t, begin, func(s *store.Store) api.Errno { return s.Commit() }, func(t *testing.T, d *disk.Disk, _ int, _ []bool) {
		goesOn(t, d, opened(t, d, pairs("a", "1")...))
	})
	if n != 2 {
		t.Errorf("a commit of nothing has %d operations", n)
	}
}

// twoImages is a store with two checkpoints, and commits behind the second one, in two pairs.
func twoImages(t *testing.T) (*disk.Disk, *store.Store) {
	d := made(t, 40)
	s := opened(t, d)
	committed(t, s, put("a", text(150)), put("b", text(90)))
	wantErr(t, "Checkpoint", s.Checkpoint(), api.OK)
	committed(t, s, put("a", text(10)), put("c", text(200)))
	wantErr(t, "Checkpoint", s.Checkpoint(), api.OK)
	committed(t, s, put("a", text(20)), gone("c"))
	committed(t, s, put("b", text(120)))
	return d, s
}

// A checkpoint doesn't change the tree, wherever power fails; the epoch is the new one if the root was kept.
func TestH5Checkpoint(t *testing.T) {
	want := pairs("a", text(20), "b", text(120)) // 150 bytes: 3 sectors
	n := everyCrash(t, twoImages, (*store.Store).Checkpoint, func(t *testing.T, d *disk.Disk, operations int, keep []bool) {
		s := opened(t, d, want...)
		epoch, room := uint32(2), 20-1-3
		if operations > 5 || operations == 5 && keep[0] {
			epoch, room = 3, 20
		}
		wantStore(t, s, epoch, room, want...)
		goesOn(t, d, s)
	})
	if n != 8 {
		t.Errorf("a checkpoint of 3 sectors has %d operations", n)
	}
}

// Checkpoints of a tree without keys, and of one that fills an area.
func TestH5CheckpointsOfAllSizes(t *testing.T) {
	for _, image := range []int{0, 6, 64, 65, 447, 448} {
		begin := func(t *testing.T) (*disk.Disk, *store.Store) {
			d := made(t, 32)
			s := opened(t, d)
			committed(t, s, put("z", "1"))
			wantErr(t, "Checkpoint", s.Checkpoint(), api.OK)
			committed(t, s, gone("z"))
			switch {
			case image > 400:
				committed(t, s, put("a", text(200)))
				committed(t, s, put("b", text(image-210)))
			case image > 0:
				committed(t, s, put("a", text(image-5)))
			}
			return d, s
		}
		_, s := begin(t)
		want := s.Tree().All()
		n := everyCrash(t, begin, (*store.Store).Checkpoint, func(t *testing.T, d *disk.Disk, _ int, _ []bool) {
			s := opened(t, d, want...)
			committed(t, s, gone("a"), gone("b"))
			goesOn(t, d, s)
		})
		if n != (image+63)/64+5 {
			t.Errorf("a checkpoint of %d bytes has %d operations", image, n)
		}
	}
}

// A commit for which the log has no room: first the checkpoint, then the record.
func TestH5CommitWithCheckpoint(t *testing.T) {
	old := pairs("a", "1", "b", text(60)) // 71 bytes: 2 sectors
	changed := pairs("b", text(61), "c", text(70))
	begin := func(t *testing.T) (*disk.Disk, *store.Store) {
		d := made(t, 40)
		s := opened(t, d)
		committed(t, s, put("a", "1"), put("b", text(60)))
		for range 15 {
			committed(t, s)
		}
		return d, s
	}
	commit := func(s *store.Store) api.Errno { return s.Commit(gone("a"), put("b", text(61)), put("c", text(70))) }
	sectors := log.Sectors(5 + 5 + 61 + 5 + 70)
	n := everyCrash(t, begin, commit, func(t *testing.T, d *disk.Disk, operations int, keep []bool) {
		want := old
		if operations == 7+sectors && !slices.Contains(keep, false) {
			want = changed
		}
		goesOn(t, d, opened(t, d, want...))
	})
	if n != 7+sectors+1 || sectors != 4 {
		t.Errorf("the commit has %d operations, and %d sectors", n, sectors)
	}
}

// An opening that fails changes nothing of the tree, however often it does, whatever is kept.
func TestH5Opening(t *testing.T) {
	begin := func(t *testing.T) *disk.Disk {
		d, s := twoImages(t)
		d.Arm(3) // a commit that is kept as a whole, and never answered
		wantErr(t, "Commit", s.Commit(put("d", text(100))), api.ErrDown)
		d.Crash(all(3)...)
		return d
	}
	want := pairs("a", text(20), "b", text(120), "d", text(100))
	for choices := range 1 << 8 {
		d := begin(t)
		for i := range 4 {
			d.Arm(choices >> (2 * i) & 1)
			wantNoStore(t, d, api.ErrDown)
			if d.Pending() != choices>>(2*i)&1 {
				t.Errorf("got Pending %d", d.Pending())
			}
			d.Crash(choices>>(2*i+1)&1 == 1)
		}
		s := opened(t, d, want...)
		if s.Epoch() != 2 {
			t.Errorf("got Epoch %d, want 2", s.Epoch())
		}
		goesOn(t, d, s)
	}
}

// The first opening of a disk on which nothing is.
func TestH5FirstOpening(t *testing.T) {
	for n := range 2 {
		for _, kept := range []bool{false, true} {
			d := made(t, 32)
			d.Arm(n)
			wantNoStore(t, d, api.ErrDown)
			d.Crash(kept)
			goesOn(t, d, opened(t, d))
		}
	}
}

// A store that is broken stays so till it is opened anew, which is possible without a crash if power is on.
func TestH3BrokenTillOpened(t *testing.T) {
	d, s := twoImages(t)
	want := s.Tree().All()
	d.Arm(1)
	wantErr(t, "Commit", s.Commit(put("d", text(100))), api.ErrDown)
	wantBroken(t, d, s)
	wantNoStore(t, d, api.ErrDown)
	d.Crash()
	wantBroken(t, d, s)
	one := opened(t, d, want...)
	wantBroken(t, d, s)
	committed(t, one, put("d", "4"))
	wantBroken(t, d, s)
	goesOn(t, d, one)
	wantBroken(t, d, s)
}

// Power that fails and comes back between two calls breaks nothing.
func TestH3NotBroken(t *testing.T) {
	d, s := twoImages(t)
	d.Arm(0)
	d.Flush()
	wantErr(t, "Commit without a key", s.Commit(put("", "")), api.ErrKey)
	d.Crash()
	committed(t, s, put("d", "4"))
	wantErr(t, "Checkpoint", s.Checkpoint(), api.OK)
	opened(t, d, s.Tree().All()...)
	d.Arm(0)
	d.Flush()
	wantErr(t, "Checkpoint", s.Checkpoint(), api.ErrDown)
	wantBroken(t, d, s)
}

// world is a disk, the store on it, if there is one, and what H5 says of its tree: all commits that returned OK, and perhaps the one in progress.
type world struct {
	r     draws
	d     *disk.Disk
	s     *store.Store
	sure  map[string]string
	maybe []api.Change
	// how often something happened
	opens, wholes, nones, checkpoints, fulls int
}

// draw makes changes of a few keys, of which some don't fit.
func (w *world) draw() []api.Change {
	list := make([]api.Change, w.r.below(5))
	for i := range list {
		key := string(rune('a' + w.r.below(6)))
		list[i] = put(key, text([]int{0, 1, 20, 60, 130, 300}[w.r.below(6)]))
		if w.r.below(3) == 0 {
			list[i] = gone(key)
		}
	}
	return list
}

// after is the pairs that changes make of what is sure.
func (w *world) after(changes []api.Change) map[string]string {
	m := map[string]string{}
	for k, v := range w.sure {
		m[k] = v
	}
	for _, c := range changes {
		if c.Gone {
			delete(m, c.Key)
		} else {
			m[c.Key] = c.Value
		}
	}
	return m
}

// sorted is the pairs of a map, in order.
func sorted(m map[string]string) []api.Pair {
	var list []api.Pair
	for k := 'a'; k <= 'z'; k++ {
		if v, ok := m[string(k)]; ok {
			list = append(list, api.Pair{Key: string(k), Value: v})
		}
	}
	return list
}

func (w *world) open(t *testing.T) {
	t.Helper()
	if w.r.below(4) == 0 {
		w.d.Arm(w.r.below(3))
	}
	s, e := store.Open(w.d)
	if e != api.OK {
		wantErr(t, "Open", e, api.ErrDown)
		w.crash()
		return
	}
	w.opens++
	w.s = s
	got := s.Tree().All()
	if w.maybe != nil {
		whole := sorted(w.after(w.maybe))
		switch {
		case slices.Equal(got, whole):
			w.sure = w.after(w.maybe)
			w.wholes++
		default:
			w.nones++
		}
		w.maybe = nil
	}
	wantTree(t, s, sorted(w.sure)...)
}

func (w *world) crash() {
	keep := make([]bool, w.d.Pending())
	odds := 1 + w.r.below(6)
	for i := range keep {
		keep[i] = w.r.below(odds) == 0
	}
	w.d.Crash(keep...)
	w.s = nil
}

func (w *world) commit(t *testing.T) {
	t.Helper()
	changes := w.draw()
	after := w.after(changes)
	long := len(imageOf(sorted(after)...)) > 64*areaOf(w.d.Sectors())
	switch e := w.s.Commit(changes...); {
	case long:
		wantErr(t, "Commit", e, api.ErrFull)
		w.fulls++
	case e == api.OK:
		w.sure = after
	case e == api.ErrFull:
		// The log takes no more than its room at the beginning of an epoch.
		if n := len(bytesOf(changes...)); log.Sectors(n) <= w.d.Sectors()-logOf(w.d.Sectors())-1 {
			t.Errorf("%d bytes don't fit into the log", n)
		}
		w.fulls++
	default:
		wantErr(t, "Commit", e, api.ErrDown)
		w.maybe = append([]api.Change{}, changes...)
		wantBroken(t, w.d, w.s)
	}
	wantTree(t, w.s, sorted(w.sure)...)
}

func (w *world) step(t *testing.T) {
	t.Helper()
	if w.s == nil {
		w.open(t)
		return
	}
	if w.r.below(8) == 0 {
		w.d.Arm(w.r.below(15))
	}
	if w.r.below(10) == 0 {
		epoch := w.s.Epoch()
		if e := w.s.Checkpoint(); e == api.OK {
			w.checkpoints++
			wantStore(t, w.s, epoch+1, w.d.Sectors()-logOf(w.d.Sectors())-1, sorted(w.sure)...)
		} else {
			wantErr(t, "Checkpoint", e, api.ErrDown)
			wantBroken(t, w.d, w.s)
		}
	} else {
		w.commit(t)
	}
	if !w.d.Up() || w.r.below(12) == 0 {
		w.crash()
	}
}

// Long mixtures of commits and checkpoints, in which power fails at any operation, with crashes that keep anything.
func TestH5Mixtures(t *testing.T) {
	var sum world
	for seed := range draws(400) {
		w := &world{r: seed, d: made(t, 32+int(seed%12)), sure: map[string]string{}}
		for range 120 {
			w.step(t)
		}
		sum.opens += w.opens
		sum.wholes += w.wholes
		sum.nones += w.nones
		sum.checkpoints += w.checkpoints
		sum.fulls += w.fulls
		if t.Failed() {
			t.Fatalf("the mixture %d failed", seed)
		}
	}
	if sum.opens < 5000 || sum.wholes < 200 || sum.nones < 500 || sum.checkpoints < 2000 || sum.fulls < 1000 {
		t.Errorf("the mixtures have %d opens, %d and %d commits that were kept and lost, %d checkpoints, %d commits that don't fit", sum.opens, sum.wholes, sum.nones, sum.checkpoints, sum.fulls)
	}
}

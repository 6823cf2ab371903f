package store_test

import (
	"bytes"
	"slices"
	"strings"
	"testing"

	"palatine/api"
	"palatine/disk"
	"palatine/log"
	"palatine/store"
)

func put(key, value string) api.Change { return api.Change{Key: key, Value: value} }

func gone(key string) api.Change { return api.Change{Key: key, Gone: true} }

// text is n bytes, of which neighbours, and the same bytes of neighbouring sectors, differ.
func text(n int) string {
	b := make([]byte, n)
	for i := range b {
		b[i] = byte(7*i + i/64 + n)
	}
	return string(b)
}

// cutUp is values whose changes, of keys of one byte, have so many bytes together.
func cutUp(bytes int) []string {
	var values []string
	for bytes > 405 {
		// Whatever is left is long enough for a key.
		n := min(400, bytes-10)
		values = append(values, text(n))
		bytes -= 5 + n
	}
	return append(values, text(bytes-5))
}

// manyKeys is changes of as many keys, whose record has so many bytes.
func manyKeys(bytes int) []api.Change {
	var list []api.Change
	for i, v := range cutUp(bytes) {
		list = append(list, put(string(rune('a'+i)), v))
	}
	return list
}

// manyTimes is changes of one key, whose record has so many bytes; the image stays short.
func manyTimes(bytes int) []api.Change {
	var list []api.Change
	for _, v := range cutUp(bytes) {
		list = append(list, put("k", v))
	}
	return list
}

// pairs takes keys and values by turns.
func pairs(words ...string) []api.Pair {
	var list []api.Pair
	for i := 0; i < len(words); i += 2 {
		list = append(list, api.Pair{Key: words[i], Value: words[i+1]})
	}
	return list
}

func made(t *testing.T, sectors int) *disk.Disk {
	t.Helper()
	d, e := disk.New(sectors)
	if d == nil || e != api.OK {
		t.Fatalf("New(%d): %v, %v", sectors, d, e)
	}
	return d
}

func wantErr(t *testing.T, call string, got, want api.Errno) {
	t.Helper()
	if got != want {
		t.Errorf("%s: got %d, want %d", call, got, want)
	}
}

func wantTree(t *testing.T, s *store.Store, want ...api.Pair) {
	t.Helper()
	if got := s.Tree().All(); !slices.Equal(got, want) {
		t.Errorf("the tree: got %.200q, want %.200q", got, want)
	}
}

func wantStore(t *testing.T, s *store.Store, epoch uint32, room int, want ...api.Pair) {
	t.Helper()
	if s.Epoch() != epoch || s.Room() != room {
		t.Errorf("got Epoch %d, Room %d, want %d, %d", s.Epoch(), s.Room(), epoch, room)
	}
	wantTree(t, s, want...)
}

func opened(t *testing.T, d *disk.Disk, want ...api.Pair) *store.Store {
	t.Helper()
	s, e := store.Open(d)
	if s == nil || e != api.OK {
		t.Fatalf("Open: %v, %d", s, e)
	}
	wantTree(t, s, want...)
	return s
}

func wantNoStore(t *testing.T, d *disk.Disk, want api.Errno) {
	t.Helper()
	if s, e := store.Open(d); s != nil || e != want {
		t.Errorf("Open: got %v, %d, want nil, %d", s, e, want)
	}
}

func committed(t *testing.T, s *store.Store, changes ...api.Change) {
	t.Helper()
	wantErr(t, "Commit", s.Commit(changes...), api.OK)
}

// wantBroken holds a store to its being broken: no call touches the disk any more, whether power is on or off.
func wantBroken(t *testing.T, d *disk.Disk, s *store.Store) {
	t.Helper()
	before, pending, up := contents(t, d), d.Pending(), d.Up()
	tree, epoch, room := s.Tree().All(), s.Epoch(), s.Room()
	wantErr(t, "Commit of nothing", s.Commit(), api.ErrDown)
	wantErr(t, "Commit", s.Commit(put("a", "1")), api.ErrDown)
	wantErr(t, "Commit without a key", s.Commit(put("", "1")), api.ErrDown)
	wantErr(t, "Commit of 33 changes", s.Commit(make([]api.Change, 33)...), api.ErrDown)
	wantErr(t, "Checkpoint", s.Checkpoint(), api.ErrDown)
	wantContents(t, d, before)
	if d.Pending() != pending || d.Up() != up {
		t.Errorf("got Pending %d, Up %v, want %d, %v", d.Pending(), d.Up(), pending, up)
	}
	wantStore(t, s, epoch, room, tree...)
}

// all is a crash's choice of every one of n writes.
func all(n int) []bool { return slices.Repeat([]bool{true}, n) }

// contents are all sectors without their pending writes.
func contents(t *testing.T, d *disk.Disk) [][]byte {
	t.Helper()
	var list [][]byte
	for n := range d.Sectors() {
		b, e := d.Lasting(n)
		wantErr(t, "Lasting", e, api.OK)
		list = append(list, b)
	}
	return list
}

func wantContents(t *testing.T, d *disk.Disk, want [][]byte) {
	t.Helper()
	for n, b := range contents(t, d) {
		if !bytes.Equal(b, want[n]) {
			t.Errorf("sector %d: got %v, want %v", n, b, want[n])
		}
	}
}

func TestExamples(t *testing.T) {
	d := made(t, 40)
	s := opened(t, d)
	wantStore(t, s, 0, 20)
	committed(t, s, put("a", "1"), put("b", "2"))
	committed(t, s, gone("a"), put("c", "3"))
	d.Crash()
	want := pairs("b", "2", "c", "3")
	s = opened(t, d, want...)
	wantErr(t, "Checkpoint", s.Checkpoint(), api.OK)
	wantStore(t, s, 1, 20, want...)
	d.Crash()
	s = opened(t, d, want...)
	wantStore(t, s, 1, 20, want...)
	wantErr(t, "Commit of nothing", s.Commit(), api.OK)
	wantErr(t, "Commit without a key", s.Commit(put("", "1")), api.ErrKey)
	wantErr(t, "Commit of a long value", s.Commit(put("a", text(401))), api.ErrKey)
	wantStore(t, s, 1, 19, want...)
	record, e := store.Encode(put("a", "1"))
	if record != "\x00\x01\x01\x00a1" || e != api.OK {
		t.Errorf("Encode: got %q, %d", record, e)
	}
}

func TestH2Sectors(t *testing.T) {
	for _, n := range []int{1, 2, 16, 31} {
		d := made(t, n)
		d.Write(0, 1)
		wantNoStore(t, d, api.ErrArg)
		if d.Pending() != 1 {
			t.Errorf("%d sectors: got Pending %d, want 1", n, d.Pending())
		}
		d.Arm(0)
		d.Flush()
		wantNoStore(t, d, api.ErrArg)
	}
	for n, room := range map[int]int{32: 16, 33: 15, 34: 16, 36: 18, 37: 17, 40: 20, 41: 19, 100: 50, 4095: 2047, 4096: 2048} {
		d := made(t, n)
		s := opened(t, d)
		wantStore(t, s, 0, room)
		committed(t, s, put("a", "1"))
		wantErr(t, "Checkpoint", s.Checkpoint(), api.OK)
		d.Crash()
		wantStore(t, opened(t, d, pairs("a", "1")...), 1, room, pairs("a", "1")...)
	}
}

func TestH2Down(t *testing.T) {
	d := made(t, 40)
	d.Arm(0)
	d.Flush()
	wantNoStore(t, d, api.ErrDown)
	d.Crash()
	committed(t, opened(t, d), put("a", "1"))
	for n := range 2 {
		d.Arm(n)
		wantNoStore(t, d, api.ErrDown)
		wantNoStore(t, d, api.ErrDown)
		d.Crash()
	}
	d.Arm(2)
	opened(t, d, pairs("a", "1")...)
}

// An opening writes nothing but the head of the log, and flushes it.
func TestH2Opening(t *testing.T) {
	d := made(t, 40)
	committed(t, opened(t, d), put("a", text(200)))
	wantErr(t, "Checkpoint", opened(t, d, pairs("a", text(200))...).Checkpoint(), api.OK)
	before := contents(t, d)
	s := opened(t, d, pairs("a", text(200))...)
	if d.Pending() != 0 {
		t.Errorf("got Pending %d, want 0", d.Pending())
	}
	head := before[19]
	before[19] = nil
	after := contents(t, d)
	if bytes.Equal(after[19], head) {
		t.Error("the head of the log is the same")
	}
	after[19] = nil
	for n := range before {
		if !bytes.Equal(after[n], before[n]) {
			t.Errorf("sector %d changed", n)
		}
	}
	wantStore(t, s, 1, 20, pairs("a", text(200))...)
}

func TestH3InOrder(t *testing.T) {
	for _, x := range []struct {
		changes []api.Change
		want    []api.Pair
	}{
		{nil, pairs("a", "1", "b", "2")},
		{[]api.Change{}, pairs("a", "1", "b", "2")},
		{[]api.Change{put("c", "")}, pairs("a", "1", "b", "2", "c", "")},
		{[]api.Change{put("a", "3"), put("a", "4")}, pairs("a", "4", "b", "2")},
		{[]api.Change{put("a", "3"), gone("a")}, pairs("b", "2")},
		{[]api.Change{gone("a"), put("a", "3")}, pairs("a", "3", "b", "2")},
		{[]api.Change{gone("a"), gone("a"), gone("c")}, pairs("b", "2")},
		{[]api.Change{put("c", "5"), gone("b"), gone("c"), put("b", "")}, pairs("a", "1", "b", "")},
		{[]api.Change{gone("b"), gone("a")}, nil},
		{[]api.Change{put("\x00", "\x00"), put("\xff\xff", "\xff")}, pairs("\x00", "\x00", "a", "1", "b", "2", "\xff\xff", "\xff")},
	} {
		d := made(t, 40)
		s := opened(t, d)
		committed(t, s, put("b", "2"), put("a", "1"))
		given := slices.Clone(x.changes)
		committed(t, s, x.changes...)
		if !slices.Equal(given, x.changes) {
			t.Errorf("the argument changed: %v", x.changes)
		}
		wantTree(t, s, x.want...)
		if d.Pending() != 0 {
			t.Errorf("got Pending %d, want 0", d.Pending())
		}
		d.Crash()
		opened(t, d, x.want...)
	}
}

// A commit changes no other sectors than those of its record, and these are a record of the log.
func TestH3Record(t *testing.T) {
	d := made(t, 40)
	committed(t, opened(t, d), put("a", "1"))
	wantErr(t, "Checkpoint", opened(t, d, pairs("a", "1")...).Checkpoint(), api.OK)
	s := opened(t, d, pairs("a", "1")...)
	before := contents(t, d)
	committed(t, s, gone("a"), put("b", text(90)))
	committed(t, s)
	committed(t, s, put("c", "3"))
	wantStore(t, s, 1, 15, pairs("b", text(90), "c", "3")...)
	for n, b := range contents(t, d) {
		if same := bytes.Equal(b, before[n]); same != (n < 20 || n > 24) {
			t.Errorf("sector %d: same %v", n, same)
		}
	}
	_, records, e := log.Open(d, 19, 21, 1)
	wantErr(t, "Open of the log", e, api.OK)
	if !slices.Equal(records, []string{bytesOf(gone("a"), put("b", text(90))), "", bytesOf(put("c", "3"))}) {
		t.Errorf("got the records %q", records)
	}
}

func TestH3Errors(t *testing.T) {
	d := made(t, 40)
	s := opened(t, d)
	committed(t, s, put("a", text(400)))
	before := contents(t, d)
	wantErr(t, "33 changes without a key", s.Commit(make([]api.Change, 33)...), api.ErrLong)
	wantErr(t, "no key", s.Commit(put("b", ""), put("", "")), api.ErrKey)
	wantErr(t, "a long key, and too much for an area", s.Commit(put("b", text(400)), put(text(65), "")), api.ErrKey)
	wantErr(t, "a gone value", s.Commit(api.Change{Key: "a", Value: "1", Gone: true}), api.ErrKey)
	wantErr(t, "2001 bytes, and too much for an area", s.Commit(manyKeys(2001)...), api.ErrLong)
	wantErr(t, "2000 bytes", s.Commit(manyKeys(2000)...), api.ErrFull)
	wantErr(t, "too much for an area", s.Commit(put("b", text(400))), api.ErrFull)
	wantErr(t, "too much for an area", s.Commit(put("b", text(200)), put("a", text(399))), api.ErrFull)
	wantStore(t, s, 0, 20-9, pairs("a", text(400))...)
	wantContents(t, d, before)
	if d.Pending() != 0 {
		t.Errorf("got Pending %d, want 0", d.Pending())
	}
	d.Arm(0)
	d.Flush()
	wantErr(t, "no key, without power", s.Commit(put("", "")), api.ErrKey)
	wantErr(t, "too much for an area, without power", s.Commit(put("b", text(400))), api.ErrFull)
	d.Crash()
	committed(t, s, put("b", "2"))
	opened(t, d, pairs("a", text(400), "b", "2")...)
}

// filled is a store on 32 sectors, whose areas have 448 bytes, with so many bytes of image in two pairs.
func filled(t *testing.T, image int) (*disk.Disk, *store.Store) {
	t.Helper()
	d := made(t, 32)
	s := opened(t, d)
	committed(t, s, put("k", text(100)))
	committed(t, s, put("l", text(image-110)))
	return d, s
}

func TestH3FullToTheLastByte(t *testing.T) {
	for _, x := range []struct {
		image   int // the length ahead of the commit
		changes []api.Change
		want    api.Errno
	}{
		{440, []api.Change{put("abc", "1")}, api.OK},
		{440, []api.Change{put("abc", "12")}, api.ErrFull},
		{440, []api.Change{put("abcd", "1")}, api.ErrFull},
		{440, []api.Change{put("abcd", "")}, api.OK},
		{440, []api.Change{put("k", text(108))}, api.OK},
		{440, []api.Change{put("k", text(109))}, api.ErrFull},
		{448, nil, api.OK},
		{448, []api.Change{put("m", "")}, api.ErrFull},
		{448, []api.Change{gone("m")}, api.OK},
		{448, []api.Change{gone("k"), gone("m"), gone("k")}, api.OK},
		{448, []api.Change{put("k", text(101))}, api.ErrFull},
		{448, []api.Change{put("k", strings.Repeat("x", 100))}, api.OK},
		{448, []api.Change{gone("k"), put("m", text(100))}, api.OK},
		{448, []api.Change{put("m", text(100)), gone("k")}, api.OK},
		{448, []api.Change{gone("k"), put("m", text(101))}, api.ErrFull},
		{448, []api.Change{put("m", text(101)), gone("k")}, api.ErrFull},
		{448, []api.Change{put("k", text(400)), put("k", text(100))}, api.OK},
		{448, []api.Change{put("k", ""), put("k", text(101))}, api.ErrFull},
		{448, []api.Change{put("m", text(300)), gone("m")}, api.OK},
		{448, []api.Change{gone("k"), put("k", text(101))}, api.ErrFull},
		{448, []api.Change{gone("k"), put("k", text(100)), gone("k"), put("k", text(100))}, api.OK},
		{448, []api.Change{gone("k"), gone("k"), put("m", text(205))}, api.ErrFull},
		{448, []api.Change{put("k", ""), put("k", ""), put("m", text(95))}, api.OK},
		{448, []api.Change{put("k", ""), put("k", ""), put("m", text(96))}, api.ErrFull},
	} {
		d, s := filled(t, x.image)
		before, room := s.Tree().All(), s.Room()
		if e := s.Commit(x.changes...); e != x.want {
			t.Errorf("Commit(%.60v) to %d bytes: got %d, want %d", x.changes, x.image, e, x.want)
		}
		if x.want != api.OK {
			wantStore(t, s, 0, room, before...)
		}
		after := s.Tree().All()
		opened(t, d, after...)
		// The longest image is written and read.
		wantErr(t, "Checkpoint", s.Checkpoint(), api.OK)
		d.Crash()
		opened(t, d, after...)
	}
}

// Images of all lengths around whole sectors, and whatever was there before: the length of a store that was opened is right, too.
func TestH3FullAfterOpen(t *testing.T) {
	for image := 150; image <= 448; image += 1 + image%3 {
		d, s := filled(t, image)
		if image%2 == 0 {
			wantErr(t, "Checkpoint", s.Checkpoint(), api.OK)
		}
		d.Crash()
		s = opened(t, d, pairs("k", text(100), "l", text(image-110))...)
		wantErr(t, "Commit of a byte more", s.Commit(put("k", text(100+448-image+1))), api.ErrFull)
		wantErr(t, "Commit to the last byte", s.Commit(put("k", text(100+448-image))), api.OK)
		wantErr(t, "Commit of a key more", s.Commit(put("m", "")), api.ErrFull)
		committed(t, s, gone("l"))
		committed(t, s, put("m", text(image-110)))
	}
}

// A record that fits exactly needs no checkpoint; one that needs a sector more does.
func TestH3LogIsFull(t *testing.T) {
	for used := range 17 {
		for _, bytes := range []int{5, 48, 49, 96, 97, 144, 145, 384, 385} {
			d := made(t, 32)
			s := opened(t, d)
			for range used {
				committed(t, s)
			}
			wantStore(t, s, 0, 16-used)
			n := log.Sectors(bytes)
			epoch, room := uint32(0), 16-used-n
			if room < 0 {
				epoch, room = 1, 16-n
			}
			want := pairs("k", text(bytes-5))
			committed(t, s, put("k", text(bytes-5)))
			wantStore(t, s, epoch, room, want...)
			d.Crash()
			wantStore(t, opened(t, d, want...), epoch, room, want...)
		}
	}
}

// A commit of nothing needs a sector, too.
func TestH3LogIsFullForNothing(t *testing.T) {
	d := made(t, 32)
	s := opened(t, d)
	committed(t, s, put("a", "1"))
	for range 15 {
		committed(t, s)
	}
	wantStore(t, s, 0, 0, pairs("a", "1")...)
	committed(t, s)
	wantStore(t, s, 1, 15, pairs("a", "1")...)
	d.Crash()
	wantStore(t, opened(t, d, pairs("a", "1")...), 1, 15, pairs("a", "1")...)
}

// Many commits: each one that doesn't fit begins a new epoch.
func TestH3ManyEpochs(t *testing.T) {
	d := made(t, 40)
	s := opened(t, d)
	room, epoch := 20, uint32(0)
	for i := range 500 {
		value := text(i * 7 % 300)
		n := log.Sectors(len(value) + 5)
		if n > room {
			room, epoch = 20, epoch+1
		}
		room -= n
		committed(t, s, put("k", value))
		wantStore(t, s, epoch, room, pairs("k", value)...)
		if i%11 == 0 {
			d.Crash()
			s = opened(t, d, pairs("k", value)...)
			wantStore(t, s, epoch, room, pairs("k", value)...)
		}
	}
	if epoch < 50 {
		t.Errorf("got %d epochs", epoch)
	}
}

// On 32 sectors the log has room for 16 sectors, which is 768 bytes: a longer record doesn't fit even after a checkpoint.
func TestH3NeverFits(t *testing.T) {
	d := made(t, 32)
	s := opened(t, d)
	committed(t, s, put("a", "1"))
	committed(t, s, manyTimes(768)...)
	want := s.Tree().All()
	wantStore(t, s, 1, 0, want...)
	for i, bytes := range []int{769, 816, 1000, 2000} {
		wantErr(t, "Commit", s.Commit(manyTimes(bytes)...), api.ErrFull)
		wantStore(t, s, uint32(2+i), 16, want...)
		d.Crash()
		s = opened(t, d, want...)
		wantStore(t, s, uint32(2+i), 16, want...)
	}
	wantErr(t, "Commit of too long a record", s.Commit(manyTimes(2001)...), api.ErrLong)
	committed(t, s, put("b", "2"))
	wantStore(t, s, 5, 15, slices.Insert(want, 1, api.Pair{Key: "b", Value: "2"})...)
	if d.Pending() != 0 {
		t.Errorf("got Pending %d, want 0", d.Pending())
	}
}

// The checkpoint of a record that doesn't fit fails like any other one.
func TestH3NeverFitsAndDown(t *testing.T) {
	for n := range 6 {
		d := made(t, 32)
		s := opened(t, d)
		committed(t, s, put("a", "1"))
		d.Arm(n)
		wantErr(t, "Commit", s.Commit(manyTimes(1000)...), api.ErrDown)
		wantBroken(t, d, s)
		d.Crash()
		wantBroken(t, d, s)
		s = opened(t, d, pairs("a", "1")...)
		wantErr(t, "Commit", s.Commit(manyTimes(1000)...), api.ErrFull)
		wantTree(t, s, pairs("a", "1")...)
	}
}

func TestR5Arguments(t *testing.T) {
	changes := []api.Change{put("a", "1"), gone("b"), put("c", "3")}
	given := slices.Clone(changes)
	record, _ := store.Encode(changes...)
	s := opened(t, made(t, 40))
	committed(t, s, changes...)
	if !slices.Equal(changes, given) {
		t.Errorf("the argument became %v", changes)
	}
	for i := range changes {
		changes[i] = put("z", "z")
	}
	wantTree(t, s, pairs("a", "1", "c", "3")...)
	one, _ := store.Decode(record)
	two, _ := store.Decode(record)
	_ = append(one[:1], put("z", "z"))
	one[0] = put("z", "z")
	if !slices.Equal(two, given) {
		t.Errorf("Decode: got %v, want %v", two, given)
	}
}

func TestR6StoresAreApart(t *testing.T) {
	c, d := made(t, 40), made(t, 50)
	r, s := opened(t, c), opened(t, d)
	committed(t, r, put("a", "1"))
	wantErr(t, "Checkpoint", s.Checkpoint(), api.OK)
	d.Arm(0)
	wantErr(t, "Commit", s.Commit(put("b", "2")), api.ErrDown)
	wantStore(t, r, 0, 19, pairs("a", "1")...)
	wantStore(t, s, 1, 50-25-1)
	committed(t, r, put("c", "3"))
	opened(t, c, pairs("a", "1", "c", "3")...)
	d.Crash()
	opened(t, d)
}

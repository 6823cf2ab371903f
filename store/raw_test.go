package store_test

import (
	"bytes"
	"math"
	"slices"
	"strings"
	"testing"

	"palatine/api"
	"palatine/disk"
	"palatine/log"
	"palatine/store"
	"palatine/sum"
)

// areaOf is the number of sectors of an area of a disk of n sectors, and logOf the first sector of its log.
func areaOf(n int) int { return (n - 1) / 4 }

func logOf(n int) int { return 2*areaOf(n) + 1 }

// number puts n into four bytes of b.
func number(b []byte, at int, n uint32) {
	for i := range 4 {
		b[at+i] = byte(n >> (8 * i))
	}
}

// checked puts the right checksum into a sector.
func checked(b []byte) []byte {
	number(b, 0, sum.Sum(b[4:]...))
	return b
}

// rootOf is the sector of a root by the chapter's words.
func rootOf(area int, epoch uint32, length int, checksum uint32) []byte {
	b := make([]byte, 64)
	b[4], b[5], b[6] = 80, 76, byte(area)
	number(b, 8, epoch)
	number(b, 12, uint32(length))
	number(b, 16, checksum)
	return checked(b)
}

// imageOf is the image of pairs, in whatever order.
func imageOf(pairs ...api.Pair) string {
	var list []api.Change
	for _, p := range pairs {
		list = append(list, put(p.Key, p.Value))
	}
	return bytesOf(list...)
}

// write makes a sector durable.
func write(t *testing.T, d *disk.Disk, n int, b []byte) {
	t.Helper()
	wantErr(t, "Write", d.Write(n, b...), api.OK)
	wantErr(t, "Flush", d.Flush(), api.OK)
}

// layImage makes an image durable in an area, ahead of bytes that don't belong to it.
func layImage(t *testing.T, d *disk.Disk, area int, image string) {
	t.Helper()
	first := 1 + area*areaOf(d.Sectors())
	b := append([]byte(image), bytes.Repeat([]byte{0xa5}, 63)...)
	for i := 0; i+64 <= len(b); i += 64 {
		write(t, d, first+i/64, b[i:i+64])
	}
}

// laid is a disk with an image and its root.
func laid(t *testing.T, sectors, area int, epoch uint32, image string) *disk.Disk {
	t.Helper()
	d := made(t, sectors)
	layImage(t, d, area, image)
	write(t, d, 0, rootOf(area, epoch, len(image), sum.Text(image)))
	return d
}

// logged appends records to the log of an epoch.
func logged(t *testing.T, d *disk.Disk, epoch uint32, records ...string) {
	t.Helper()
	first := logOf(d.Sectors())
	l, _, e := log.Open(d, first, d.Sectors()-first, epoch)
	wantErr(t, "Open of the log", e, api.OK)
	for _, r := range records {
		wantErr(t, "Append", l.Append(r), api.OK)
	}
	wantErr(t, "Sync", l.Sync(), api.OK)
}

// wantUntouched holds that there is no store on a disk, and that the attempt to open it changes nothing.
func wantUntouched(t *testing.T, d *disk.Disk, want api.Errno) {
	t.Helper()
	before := contents(t, d)
	wantNoStore(t, d, want)
	wantContents(t, d, before)
	if d.Pending() != 0 {
		t.Errorf("got Pending %d, want 0", d.Pending())
	}
}

// wantNextArea holds that a checkpoint goes to an area.
func wantNextArea(t *testing.T, d *disk.Disk, s *store.Store, area int) {
	t.Helper()
	wantErr(t, "Checkpoint", s.Checkpoint(), api.OK)
	image := imageOf(s.Tree().All()...)
	list := contents(t, d)
	if want := rootOf(area, s.Epoch(), len(image), sum.Text(image)); !bytes.Equal(list[0], want) {
		t.Errorf("the root is %v, want %v", list[0], want)
	}
	first := 1 + area*areaOf(d.Sectors())
	if got := bytes.Join(list[first:first+areaOf(d.Sectors())], nil); !strings.HasPrefix(string(got), image) {
		t.Errorf("the area %d begins with %.60q", area, got)
	}
	opened(t, d, s.Tree().All()...)
}

func TestH2Roots(t *testing.T) {
	list := pairs("\x00", "", "a", text(60), "a\x00", "2", "ab", text(100), text(64), "5", "\xff\xff", "")
	slices.SortFunc(list, func(a, b api.Pair) int { return strings.Compare(a.Key, b.Key) })
	for _, sectors := range []int{32, 33, 35, 36, 37, 40, 100, 4096} {
		for area := range 2 {
			for _, epoch := range []uint32{0, 1, 255, 256, 1 << 16, 1 << 24, 1<<31 - 1, 1 << 31, math.MaxUint32} {
				for _, n := range []int{0, 1, 2, len(list)} {
					d := laid(t, sectors, area, epoch, imageOf(list[:n]...))
					s := opened(t, d, list[:n]...)
					wantStore(t, s, epoch, sectors-logOf(sectors)-1, list[:n]...)
					wantNextArea(t, d, s, 1-area)
				}
			}
		}
	}
}

func TestH2NoRoot(t *testing.T) {
	for _, sectors := range []int{32, 40} {
		d := made(t, sectors)
		layImage(t, d, 0, imageOf(pairs("a", "1")...))
		layImage(t, d, 1, imageOf(pairs("b", "2")...))
		s := opened(t, d)
		wantStore(t, s, 0, sectors-logOf(sectors)-1)
		wantNextArea(t, d, s, 0)
	}
}

// turned is a sector of which one bit is another.
func turned(b []byte, bit int) []byte {
	b = slices.Clone(b)
	b[bit/8] ^= 1 << (bit % 8)
	return b
}

// A root that isn't valid is none: the tree is that of the log's records of the epoch 0.
func wantNoRoot(t *testing.T, d *disk.Disk, root []byte) {
	t.Helper()
	write(t, d, 0, root)
	s := opened(t, d, pairs("z", "26")...)
	if s.Epoch() != 0 {
		t.Errorf("got Epoch %d, want 0", s.Epoch())
	}
}

func TestH2RootWithOneBitTurned(t *testing.T) {
	for area := range 2 {
		image := imageOf(pairs("a", "1", "b", "2")...)
		d := laid(t, 40, area, 7, image)
		logged(t, d, 0, bytesOf(put("z", "26")))
		root, _ := d.Lasting(0)
		for bit := range 512 {
			wantNoRoot(t, d, turned(root, bit))
		}
		write(t, d, 0, root)
		wantStore(t, opened(t, d, pairs("a", "1", "b", "2")...), 7, 20, pairs("a", "1", "b", "2")...)
	}
}

// The same with a checksum that is right: each field counts by itself.
func TestH2RootWithAnotherField(t *testing.T) {
	for area := range 2 {
		image := imageOf(pairs("a", "1", "b", "2")...)
		d := laid(t, 40, area, 7, image)
		logged(t, d, 0, bytesOf(put("z", "26")))
		root, _ := d.Lasting(0)
		for bit := 32; bit < 512; bit++ {
			b := checked(turned(root, bit))
			write(t, d, 0, b)
			switch at := bit / 8; {
			case at >= 8 && at < 12:
				epoch := 7 ^ uint32(1)<<(bit-64)
				wantStore(t, opened(t, d, pairs("a", "1", "b", "2")...), epoch, 20, pairs("a", "1", "b", "2")...)
			case bit == 6*8, at >= 16 && at < 20, at >= 12 && at < 14 && len(image)^1<<(bit-96) <= 9*64:
				wantUntouched(t, d, api.ErrImage)
			default:
				wantNoRoot(t, d, b)
			}
		}
	}
}

func TestH2RootWithAnotherArea(t *testing.T) {
	image := imageOf(pairs("a", "1")...)
	d := made(t, 40)
	for n := range 40 {
		write(t, d, n, []byte(image)) // wherever an area above 1 might begin
	}
	logged(t, d, 0, bytesOf(put("z", "26")))
	for area := 2; area < 256; area++ {
		wantNoRoot(t, d, rootOf(area, 7, len(image), sum.Text(image)))
	}
	for area := range 2 {
		write(t, d, 0, rootOf(area, 7, len(image), sum.Text(image)))
		opened(t, d, pairs("a", "1")...)
	}
}

func TestH2LengthOfAnImage(t *testing.T) {
	for _, sectors := range []int{32, 36, 37, 40, 41} {
		most := 64 * areaOf(sectors)
		for area := range 2 {
			d := made(t, sectors)
			logged(t, d, 0, bytesOf(put("z", "26")))
			list := pairs("a", text(200), "b", text(200), "c", text(most-415))
			image := imageOf(list...)
			layImage(t, d, area, image)
			write(t, d, 0, rootOf(area, 3, most, sum.Text(image)))
			wantNextArea(t, d, opened(t, d, list...), 1-area)
			for _, length := range []int{most + 1, most + 5, 2 * most, 64 * sectors, 1 << 16, 1 << 24, 1<<31 - 1, 1 << 31, math.MaxUint32} {
				d := made(t, sectors)
				logged(t, d, 0, bytesOf(put("z", "26")))
				wantNoRoot(t, d, rootOf(area, 3, length, sum.Text(image)))
			}
			// One byte more than an area, and an image that goes on in the next sector.
			long := imageOf(pairs("a", text(200), "b", text(200), "c", text(most-414))...)
			first := 1 + area*areaOf(sectors)
			for i := 0; i < len(long); i += 64 {
				if n := first + i/64; n != logOf(sectors) {
					write(t, d, n, []byte(long[i:min(i+64, len(long))]))
				}
			}
			wantNoRoot(t, d, rootOf(area, 3, len(long), sum.Text(long)))
		}
	}
}

func TestH2ImageTurned(t *testing.T) {
	list := pairs("a", text(50), "b", text(70))
	image := imageOf(list...)
	for area := range 2 {
		d := laid(t, 40, area, 3, image)
		for at := range 192 {
			n := 1 + area*9 + at/64
			was, _ := d.Lasting(n)
			for bit := range 8 {
				write(t, d, n, turned(was, at%64*8+bit))
				if at < len(image) {
					wantUntouched(t, d, api.ErrImage)
				} else {
					opened(t, d, list...) // behind the image
				}
			}
			write(t, d, n, was)
		}
		for _, checksum := range []uint32{0, 1, sum.Text(image) + 1, ^sum.Text(image), sum.Text(image[:len(image)-1])} {
			write(t, d, 0, rootOf(area, 3, len(image), checksum))
			wantUntouched(t, d, api.ErrImage)
		}
		write(t, d, 0, rootOf(area, 3, 0, 1))
		wantUntouched(t, d, api.ErrImage)
		write(t, d, 0, rootOf(area, 3, 0, 0))
		opened(t, d)
	}
}

func TestH2NoImage(t *testing.T) {
	a, b := imageOf(pairs("a", "1")...), imageOf(pairs("b", "2")...)
	for _, image := range []string{
		b + a, a + a, a + imageOf(pairs("a", "2")...), a + b + a, a + b + b,
		imageOf(pairs("ab", "", "a", "")...), imageOf(pairs("\xff", "", "a", "")...), imageOf(pairs("a\x00", "", "a", "")...),
		bytesOf(gone("a")), a + bytesOf(gone("b")), bytesOf(gone("a")) + b, a + bytesOf(gone("a")),
		imageOf(pairs("", "1")...), imageOf(pairs("", "")...) + a, imageOf(pairs(text(65), "")...), imageOf(pairs("a", text(401))...),
		bytesOf(api.Change{Key: "a", Value: "1", Gone: true}), "\x02" + a[1:], a + "\xff" + b[1:],
		a + b[:1], a + b[:4], a + b[:5], a[:5], a + "\x00", "\x00\x00\x00\x00", a + "\x00\x00\x00\x00", "x", strings.Repeat("\x00", 64),
	} {
		for area := range 2 {
			d := laid(t, 40, area, 5, image)
			logged(t, d, 5, bytesOf(put("c", "3")))
			wantUntouched(t, d, api.ErrImage)
		}
	}
}

// An image may be longer than a record, and of more pairs.
func TestH2LongImages(t *testing.T) {
	var list []api.Pair
	for i := range 300 {
		list = append(list, api.Pair{Key: text(3)[:1] + string([]byte{byte(i / 256), byte(i)}), Value: text(i % 401)})
	}
	list = append(list, api.Pair{Key: text(3)[:1] + "\xff" + text(62), Value: text(400)})
	for area := range 2 {
		d := laid(t, 4096, area, 9, imageOf(list...))
		s := opened(t, d, list...)
		wantStore(t, s, 9, 2048, list...)
		wantNextArea(t, d, s, 1-area)
	}
}

// Of two images the one that the root tells of counts.
func TestH2TwoImages(t *testing.T) {
	one, two := pairs("a", "1"), pairs("b", "2", "c", "3")
	d := made(t, 40)
	layImage(t, d, 0, imageOf(one...))
	layImage(t, d, 1, imageOf(two...))
	write(t, d, 0, rootOf(0, 5, 6, sum.Text(imageOf(one...))))
	opened(t, d, one...)
	write(t, d, 0, rootOf(1, 5, 12, sum.Text(imageOf(two...))))
	opened(t, d, two...)
	write(t, d, 0, rootOf(1, 5, 6, sum.Text(imageOf(one...))))
	wantUntouched(t, d, api.ErrImage)
}

func TestH2Log(t *testing.T) {
	for _, x := range []struct {
		records []string
		want    []api.Pair
	}{
		{nil, pairs("a", "1", "b", "2")},
		{[]string{""}, pairs("a", "1", "b", "2")},
		{[]string{bytesOf(put("c", "3"))}, pairs("a", "1", "b", "2", "c", "3")},
		{[]string{bytesOf(gone("a"), put("b", "3"))}, pairs("b", "3")},
		{[]string{bytesOf(put("a", "3"), gone("a"))}, pairs("b", "2")},
		{[]string{bytesOf(put("a", "3")), bytesOf(gone("a"))}, pairs("b", "2")},
		{[]string{bytesOf(gone("a")), "", bytesOf(put("a", "3"))}, pairs("a", "3", "b", "2")},
		{[]string{bytesOf(put("c", text(200))), bytesOf(put("c", text(100))), bytesOf(gone("d"))}, pairs("a", "1", "b", "2", "c", text(100))},
	} {
		for _, epoch := range []uint32{0, 1, 1 << 31, math.MaxUint32} {
			d := laid(t, 40, 1, epoch, imageOf(pairs("a", "1", "b", "2")...))
			logged(t, d, epoch, x.records...)
			room := 20
			for _, r := range x.records {
				room -= log.Sectors(len(r))
			}
			s := opened(t, d, x.want...)
			wantStore(t, s, epoch, room, x.want...)
			wantNextArea(t, d, s, 0)
		}
	}
}

func TestH2LogOfAnotherEpoch(t *testing.T) {
	for _, epochs := range [][2]uint32{{0, 1}, {1, 0}, {1, 2}, {2, 1}, {7, 7 << 24}, {math.MaxUint32, 0}, {0, math.MaxUint32}} {
		d := laid(t, 40, 0, epochs[0], imageOf(pairs("a", "1")...))
		logged(t, d, epochs[1], bytesOf(put("b", "2")))
		wantStore(t, opened(t, d, pairs("a", "1")...), epochs[0], 20, pairs("a", "1")...)
	}
}

func TestH2NoRecords(t *testing.T) {
	good := bytesOf(put("a", "1"))
	for _, bad := range []string{
		"x", "\x00", good + "\x00", good[:5], "\x02" + good[1:], bytesOf(put("", "1")), bytesOf(put(text(65), "")), bytesOf(put("a", text(401))),
		bytesOf(api.Change{Key: "a", Value: "1", Gone: true}), bytesOf(slices.Repeat([]api.Change{gone("a")}, 33)...),
	} {
		for _, records := range [][]string{{bad}, {good, bad}, {bad, good}, {"", good, bad, good}} {
			d := made(t, 40)
			logged(t, d, 0, records...)
			wantNoStore(t, d, api.ErrImage)
			wantNoStore(t, d, api.ErrImage)
			d = laid(t, 40, 0, 4, imageOf(pairs("b", "2")...))
			logged(t, d, 4, records...)
			wantNoStore(t, d, api.ErrImage)
			// A record of another epoch isn't looked at.
			write(t, d, 0, rootOf(0, 5, 6, sum.Text(imageOf(pairs("b", "2")...))))
			opened(t, d, pairs("b", "2")...)
		}
	}
}

// sectorOf is a sector of the log by chapter 3's words.
func sectorOf(epoch, life uint32, place, kind int, part string) []byte {
	b := make([]byte, 64)
	number(b, 4, epoch)
	number(b, 8, life)
	b[12], b[13], b[14], b[15] = byte(place), byte(place>>8), byte(kind), byte(len(part))
	copy(b[16:], part)
	return checked(b)
}

// A record of 2001 bytes can't be appended, but it can lie there.
func TestH2LongRecord(t *testing.T) {
	for _, length := range []int{2000, 2001, 2016} {
		d := made(t, 200)
		opened(t, d)
		record := bytesOf(manyKeys(length)...)
		for i := range 42 {
			kind := 0
			if i == 0 {
				kind |= 1
			}
			if i == 41 {
				kind |= 2
			}
			write(t, d, logOf(200)+1+i, sectorOf(0, 1, 1+i, kind, record[48*i:min(48*i+48, length)]))
		}
		if length > 2000 {
			wantNoStore(t, d, api.ErrImage)
			continue
		}
		var want []api.Pair
		for _, c := range manyKeys(length) {
			want = append(want, api.Pair{Key: c.Key, Value: c.Value})
		}
		wantStore(t, opened(t, d, want...), 0, 200-logOf(200)-1-42, want...)
	}
}

// The log has lived as often as its head can count.
func TestH2LogIsFull(t *testing.T) {
	d := laid(t, 40, 0, 4, imageOf(pairs("b", "2")...))
	write(t, d, 19, sectorOf(0, math.MaxUint32, 0, 4, ""))
	wantUntouched(t, d, api.ErrFull)
	write(t, d, 1, []byte("x"))
	wantUntouched(t, d, api.ErrImage)
}

func TestH4LogIsFull(t *testing.T) {
	for _, forced := range []bool{false, true} {
		d := laid(t, 40, 0, 4, imageOf(pairs("b", "2")...))
		write(t, d, 19, sectorOf(0, math.MaxUint32-1, 0, 4, ""))
		s := opened(t, d, pairs("b", "2")...)
		for range 19 {
			committed(t, s)
		}
		committed(t, s, put("c", "3"))
		if forced {
			wantErr(t, "Commit", s.Commit(), api.ErrFull)
		} else {
			wantErr(t, "Checkpoint", s.Checkpoint(), api.ErrFull)
		}
		wantStore(t, s, 4, 0, pairs("b", "2", "c", "3")...)
		wantBroken(t, d, s)
		wantUntouched(t, d, api.ErrFull)
		// Only the log is worn out: the checkpoint itself is there.
		image := imageOf(pairs("b", "2", "c", "3")...)
		if b, _ := d.Lasting(0); !bytes.Equal(b, rootOf(1, 5, len(image), sum.Text(image))) {
			t.Errorf("the root is %v", b)
		}
	}
}

// Every sector that a checkpoint leaves behind, on a disk that was full of other bytes.
func TestH4Bytes(t *testing.T) {
	for _, sectors := range []int{32, 40, 41} {
		d := made(t, sectors)
		for n := range sectors {
			write(t, d, n, bytes.Repeat([]byte{byte(n + 1)}, 64))
		}
		s := opened(t, d)
		for i, changes := range [][]api.Change{
			nil, {put("a", text(59))}, {put("b", "2")}, {put("c", text(150)), gone("a")}, {gone("a")}, {gone("b"), gone("c")}, {put("a", text(400))},
		} {
			committed(t, s, changes...)
			want := contents(t, d)
			image := imageOf(s.Tree().All()...)
			area := i % 2
			want[0] = rootOf(area, uint32(i+1), len(image), sum.Text(image))
			for k := 0; k < len(image); k += 64 {
				n := 1 + area*areaOf(sectors) + k/64
				want[n] = make([]byte, 64)
				copy(want[n], image[k:])
			}
			want[logOf(sectors)] = sectorOf(0, uint32(i+2), 0, 4, "")
			wantErr(t, "Checkpoint", s.Checkpoint(), api.OK)
			wantContents(t, d, want)
			wantStore(t, s, uint32(i+1), sectors-logOf(sectors)-1, s.Tree().All()...)
			if d.Pending() != 0 {
				t.Errorf("got Pending %d, want 0", d.Pending())
			}
		}
	}
}

// The steps of a checkpoint, one after the other: the sectors of the image, a flush, the root, a flush, the head of the log, a flush.
func TestH4Steps(t *testing.T) {
	list := pairs("a", text(100), "b", text(60)) // 170 bytes: 3 sectors
	image := imageOf(list...)
	for done := range 9 {
		d := made(t, 40)
		s := opened(t, d)
		committed(t, s, put("a", text(100)), put("b", text(60)))
		d.Arm(done)
		before := contents(t, d)
		want := api.ErrDown
		if done == 8 {
			want = api.OK
		}
		wantErr(t, "Checkpoint", s.Checkpoint(), want)
		lasting := func(n int) bool { return !bytes.Equal(contents(t, d)[n], before[n]) }
		for n := 1; n <= 3; n++ {
			if lasting(n) != (done >= 4) {
				t.Errorf("after %d steps, sector %d: durable %v", done, n, lasting(n))
			}
		}
		if lasting(0) != (done >= 6) || lasting(19) != (done == 8) {
			t.Errorf("after %d steps: root durable %v, head %v", done, lasting(0), lasting(19))
		}
		if pending := []int{0, 1, 2, 3, 0, 1, 0, 1, 0}[done]; d.Pending() != pending {
			t.Errorf("after %d steps: got Pending %d, want %d", done, d.Pending(), pending)
		}
		if done == 8 {
			wantStore(t, s, 1, 20, list...)
			continue
		}
		wantStore(t, s, 0, 20-log.Sectors(len(image)), list...)
		wantBroken(t, d, s)
	}
}

func TestH4Epochs(t *testing.T) {
	for _, epoch := range []uint32{0, 255, 1<<16 - 1, 1<<31 - 1, math.MaxUint32 - 1, math.MaxUint32} {
		d := laid(t, 40, 1, epoch, imageOf(pairs("a", "0")...))
		s := opened(t, d, pairs("a", "0")...)
		for i := range uint32(4) {
			value := text(int(i) + 1)
			wantStore(t, s, epoch+i, 20, s.Tree().All()...)
			committed(t, s, put("a", value))
			d.Crash()
			s = opened(t, d, pairs("a", value)...)
			wantStore(t, s, epoch+i, 19, pairs("a", value)...)
			wantErr(t, "Checkpoint", s.Checkpoint(), api.OK)
			wantStore(t, s, epoch+i+1, 20, pairs("a", value)...)
			if i%2 == 0 {
				d.Crash()
				s = opened(t, d, pairs("a", value)...)
			}
		}
	}
}

// Commits of the greatest epoch, till the log is full and the epochs begin anew.
func TestH4EpochsBeginAnew(t *testing.T) {
	d := laid(t, 40, 0, math.MaxUint32, "")
	s := opened(t, d)
	for i := range 20 {
		committed(t, s, put("k", text(i)))
		wantStore(t, s, math.MaxUint32, 19-i, pairs("k", text(i))...)
	}
	committed(t, s, put("k", text(30)))
	wantStore(t, s, 0, 19, pairs("k", text(30))...)
	d.Crash()
	wantStore(t, opened(t, d, pairs("k", text(30))...), 0, 19, pairs("k", text(30))...)
}

// Whatever lies on a disk, opening it and what follows comes to an end.
func TestR1AnyDisk(t *testing.T) {
	opens := 0
	for r := range draws(3000) {
		d := made(t, 32+r.below(10))
		first := logOf(d.Sectors())
		s := opened(t, d)
		for range r.below(8) {
			list := make([]api.Change, r.below(9))
			for i := range list {
				list[i] = r.change()
			}
			if r.below(3) == 0 {
				s.Checkpoint()
			}
			s.Commit(list...)
		}
		for range r.below(4) {
			n := []int{0, 1, first + 1, first + 2, r.below(d.Sectors())}[r.below(5)]
			b, _ := d.Lasting(n)
			b[r.below(64)] = byte(r.below(256))
			if r.below(2) == 0 {
				b = checked(b)
			}
			write(t, d, n, b)
		}
		s, e := store.Open(d)
		if e != api.OK {
			wantErr(t, "Open", e, api.ErrImage)
			continue
		}
		opens++
		s.Commit(put("a", "1"))
		s.Checkpoint()
		s.Commit(put("b", "2"), gone("a"))
		store.Open(d)
	}
	if opens < 1000 {
		t.Errorf("%d stores were opened", opens)
	}
}

// A log that isn't a store's own may have more than an area takes: no commit goes on with it, unless it makes the tree small enough.
func TestH3MoreThanAnArea(t *testing.T) {
	d := made(t, 40)
	logged(t, d, 0, bytesOf(put("a", text(300))), bytesOf(put("b", text(300))))
	want := pairs("a", text(300), "b", text(300))
	s := opened(t, d, want...)
	wantErr(t, "Commit of nothing", s.Commit(), api.ErrFull)
	wantErr(t, "Commit", s.Commit(put("b", text(267))), api.ErrFull)
	wantStore(t, s, 0, 6, want...)
	committed(t, s, put("b", text(266)))
	wantStore(t, opened(t, d, pairs("a", text(300), "b", text(266))...), 0, 0, pairs("a", text(300), "b", text(266))...)
}

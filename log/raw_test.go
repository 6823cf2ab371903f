package log_test

import (
	"bytes"
	"encoding/binary"
	"hash/crc32"
	"math"
	"testing"

	"palatine/api"
	"palatine/disk"
)

// raw is a sector by the chapter's table, with a checksum that is correct whatever the other fields are.
type raw struct {
	epoch, life uint32
	place       int
	kind        byte
	size        int
	content     string
}

func (r raw) bytes() []byte {
	b := make([]byte, 64)
	binary.LittleEndian.PutUint32(b[4:], r.epoch)
	binary.LittleEndian.PutUint32(b[8:], r.life)
	binary.LittleEndian.PutUint16(b[12:], uint16(r.place))
	b[14], b[15] = r.kind, byte(r.size)
	copy(b[16:], r.content)
	binary.LittleEndian.PutUint32(b, crc32.ChecksumIEEE(b[4:]))
	return b
}

func (r raw) to(d *disk.Disk, n int) { d.Write(n, r.bytes()...) }

func head(life uint32) raw { return raw{life: life, kind: 4} }

func wantSector(t *testing.T, d *disk.Disk, n int, want raw) {
	t.Helper()
	if b, e := d.Read(n); e != api.OK || !bytes.Equal(b, want.bytes()) {
		t.Errorf("sector %d: got %v, %d, want %v", n, b, e, want.bytes())
	}
}

// long is the bytes of a full sector.
func long(c byte) string { return string(bytes.Repeat([]byte{c}, 48)) }

// scene is a region of the places 0 to 7 from sector 2 on, with the epoch 7 and the life 5 in its head: a record of life 3 in one sector, one of life 4 in three sectors, and one of life 4 in one sector.
func scene() []raw {
	return []raw{
		head(5),
		{7, 3, 1, 3, 1, "a"},
		{7, 4, 2, 1, 48, long('b')},
		{7, 4, 3, 0, 48, long('c')},
		{7, 4, 4, 2, 2, "dd"},
		{7, 4, 5, 3, 3, "eee"},
	}
}

func sceneRecords() []string { return []string{"a", long('b') + long('c') + "dd", "eee"} }

func laid(t *testing.T, sectors []raw) *disk.Disk {
	t.Helper()
	d := made(t, 12)
	for i, s := range sectors {
		s.to(d, 2+i)
	}
	wantErr(t, "Flush", d.Flush(), api.OK)
	return d
}

// wantScene opens the region and wants the first n of the scene's records.
func wantScene(t *testing.T, d *disk.Disk, n int) {
	t.Helper()
	next := []int{1, 2, 5, 6}[n]
	wantLog(t, opened(t, d, 2, 8, 7, sceneRecords()[:n]...), 6, next, 8-next)
}

func TestO3Scene(t *testing.T) {
	wantScene(t, laid(t, scene()), 3)
}

// what is left of the scene's records if the sector at a place does not continue the log.
func left(place int) int { return []int{0, 0, 1, 1, 1, 2}[place] }

func TestO3EachBitOfEachSector(t *testing.T) {
	for place := 1; place <= 5; place++ {
		for bit := range 512 {
			d := laid(t, scene())
			b := scene()[place].bytes()
			b[bit/8] ^= 1 << (bit % 8)
			d.Write(2+place, b...)
			wantScene(t, d, left(place))
		}
	}
}

func TestO3Epoch(t *testing.T) {
	for place := 1; place <= 5; place++ {
		for _, epoch := range []uint32{0, 1, 6, 8, 7 + 1<<8, 7 + 1<<16, 7 + 1<<24, 7 << 8, math.MaxUint32} {
			s := scene()
			s[place].epoch = epoch
			wantScene(t, laid(t, s), left(place))
		}
	}
}

func TestO3Place(t *testing.T) {
	for place := 1; place <= 5; place++ {
		for _, p := range []int{0, place - 1, place + 1, place + 2, place + 256, place << 8, 0xffff} {
			s := scene()
			s[place].place = p
			wantScene(t, laid(t, s), left(place))
		}
	}
}

func TestO3Kind(t *testing.T) {
	good := map[int]byte{1: 3, 2: 1, 3: 0, 4: 2, 5: 3}
	for place, kind := range good {
		for k := range 256 {
			s := scene()
			s[place].kind = byte(k)
			if byte(k) != kind && (place != 2 && place != 3 || k&3 != int(kind)|2 || k > 3) {
				wantScene(t, laid(t, s), left(place))
			}
		}
	}
}

// A last sector instead of one that is not the last: the record ends with it, and the next sector is no first one.
func TestO3EarlierLast(t *testing.T) {
	for _, size := range []int{0, 1, 47, 48} {
		s := scene()
		s[2].kind, s[2].size = 3, size
		wantLog(t, opened(t, laid(t, s), 2, 8, 7, "a", long('b')[:size]), 6, 3, 5)
		s = scene()
		s[3].kind, s[3].size = 2, size
		wantLog(t, opened(t, laid(t, s), 2, 8, 7, "a", long('b')+long('c')[:size]), 6, 4, 4)
	}
}

func TestO3Size(t *testing.T) {
	for size := range 256 {
		for place := 1; place <= 5; place++ {
			s := scene()
			s[place].size, s[place].content = size, long('x')
			n, want := left(place), sceneRecords()
			whole := place == 2 || place == 3 // not the last sector of a record
			switch {
			case whole && size == 48:
				want[1] = map[int]string{2: long('x') + long('c') + "dd", 3: long('b') + long('x') + "dd"}[place]
			case !whole && size <= 48:
				want[left(place)] = map[int]string{1: "", 4: long('b') + long('c'), 5: ""}[place] + long('x')[:size]
			default:
				want = want[:n]
			}
			opened(t, laid(t, s), 2, 8, 7, want...)
		}
	}
}

// The bytes behind those of a record are not looked at, if the checksum is correct.
func TestO3BytesBehind(t *testing.T) {
	s := scene()
	s[1].content, s[4].content, s[5].content = "axyz", "dd"+long('x'), "eee\x00z"
	wantScene(t, laid(t, s), 3)
}

// Lives never fall from record to record, and are those of the earlier Opens.
func TestO3LifeOfAFirstSector(t *testing.T) {
	for life, n := range map[uint32]int{0: 3, 1: 3, 3: 3, 4: 3, 5: 1, 6: 0, 7: 0, 255: 0, 256 + 3: 0, 3 << 8: 0, 3 << 24: 0, 1 << 31: 0, math.MaxUint32: 0} {
		s := scene()
		s[1].life = life
		wantScene(t, laid(t, s), n)
	}
	for life, n := range map[uint32]int{0: 1, 2: 1, 3: 3, 4: 3, 5: 2, 6: 1, 256 + 4: 1, math.MaxUint32: 1} {
		s := scene()
		s[2].life, s[3].life, s[4].life = life, life, life
		wantScene(t, laid(t, s), n)
	}
	for life, n := range map[uint32]int{0: 2, 3: 2, 4: 3, 5: 3, 6: 2, 4 << 8: 2, math.MaxUint32: 2} {
		s := scene()
		s[5].life = life
		wantScene(t, laid(t, s), n)
	}
}

// A further sector's life is that of the record's first sector, be it higher or lower otherwise.
func TestO3LifeOfAFurtherSector(t *testing.T) {
	for _, life := range []uint32{0, 3, 5, 6, 4 + 1<<8, 4 + 1<<16, 4 + 1<<24, math.MaxUint32} {
		for place := 3; place <= 4; place++ {
			s := scene()
			s[place].life = life
			wantScene(t, laid(t, s), 1)
		}
		s := scene()
		s[3].life, s[4].life = life, life
		wantScene(t, laid(t, s), 1)
	}
}

// Without a head the lives begin anew: only a sector with the life 0 is not of a later one.
func TestO3NoHead(t *testing.T) {
	for life, n := range map[uint32]int{0: 1, 1: 0, 3: 0, math.MaxUint32: 0} {
		s := scene()[:2]
		s[0], s[1].life = raw{}, life
		wantLog(t, opened(t, laid(t, s), 2, 8, 7, sceneRecords()[:n]...), 1, 1+n, 7-n)
	}
}

// A head with the life 0 is one too, as is the highest life of which another Open is possible.
func TestO3HeadOfTheEdges(t *testing.T) {
	s := scene()[:2]
	s[0], s[1].life = head(0), 0
	wantLog(t, opened(t, laid(t, s), 2, 8, 7, "a"), 1, 2, 6)
	s[1].life = 1
	wantLog(t, opened(t, laid(t, s), 2, 8, 7), 1, 1, 7)
	s[0], s[1].life = head(math.MaxUint32-1), math.MaxUint32-1
	wantLog(t, opened(t, laid(t, s), 2, 8, 7, "a"), math.MaxUint32, 2, 6)
	s[1].life = math.MaxUint32
	wantLog(t, opened(t, laid(t, s), 2, 8, 7), math.MaxUint32, 1, 7)
}

// What makes a head is its checksum, byte 14 and the place, and nothing else.
func TestO2Heads(t *testing.T) {
	for _, h := range []raw{{3, 5, 0, 4, 0, ""}, {7, 5, 0, 4, 255, "x"}, {math.MaxUint32, 5, 0, 4, 48, long('x')}} {
		s := scene()
		s[0] = h
		d := laid(t, s)
		wantScene(t, d, 3)
		wantSector(t, d, 2, head(6))
	}
}

func TestO2NoHeads(t *testing.T) {
	var list []raw
	for k := range 256 {
		if k != 4 {
			list = append(list, raw{life: 5, kind: byte(k)})
		}
	}
	for _, place := range []int{1, 2, 255, 256, 1 << 15, 0xffff} {
		list = append(list, raw{life: 5, place: place, kind: 4})
	}
	for _, h := range list {
		s := scene()
		s[0] = h
		d := laid(t, s)
		wantLog(t, opened(t, d, 2, 8, 7), 1, 1, 7)
		wantSector(t, d, 2, head(1))
	}
}

func TestO2EachBitOfTheHead(t *testing.T) {
	for bit := range 512 {
		d := laid(t, scene())
		b := head(5).bytes()
		b[bit/8] ^= 1 << (bit % 8)
		d.Write(2, b...)
		wantLog(t, opened(t, d, 2, 8, 7), 1, 1, 7)
		wantSector(t, d, 2, head(1))
	}
}

// A life of 2^32 - 1 in what is no head is not told as ErrFull.
func TestO2HighestLifeInNoHead(t *testing.T) {
	for _, h := range []raw{{life: math.MaxUint32, kind: 3}, {life: math.MaxUint32, place: 1, kind: 4}} {
		wantLog(t, opened(t, laid(t, []raw{h}), 2, 8, 7), 1, 1, 7)
	}
	b := head(math.MaxUint32).bytes()
	b[0]++
	d := made(t, 12)
	d.Write(2, b...)
	wantLog(t, opened(t, d, 2, 8, 7), 1, 1, 7)
	head(math.MaxUint32).to(d, 2)
	wantNoLog(t, d, 2, 8, api.ErrFull)
}

// A record that the end of the region cuts off is not complete; one that ends there is.
func TestO3EndOfTheRegion(t *testing.T) {
	for count, n := range map[int]int{2: 1, 3: 1, 4: 1, 5: 2, 6: 3, 7: 3, 10: 3} {
		next := []int{1, 2, 5, 6}[n]
		wantLog(t, opened(t, laid(t, scene()), 2, count, 7, sceneRecords()[:n]...), 6, next, count-next)
	}
}

func TestO3NoRecords(t *testing.T) {
	for n := 1; n <= 2; n++ {
		wantLog(t, opened(t, laid(t, scene()[:n]), 2, 8, 7, sceneRecords()[:n-1]...), 6, n, 8-n)
	}
	wantLog(t, opened(t, made(t, 12), 2, 8, 7), 1, 1, 7)
	wantLog(t, opened(t, made(t, 12), 2, 8, 0), 1, 1, 7)
}

// A head is no record, and neither is a sector of zero bytes, even though its place, life and epoch may fit.
func TestO3ZeroBytes(t *testing.T) {
	s := scene()
	for place := 1; place <= 5; place++ {
		d := laid(t, s)
		d.Write(2 + place)
		wantScene(t, d, left(place))
	}
	s = scene()
	s[1] = raw{7, 3, 1, 4, 0, ""}
	wantScene(t, laid(t, s), 0)
}

// Raw sectors may hold a record that Append refuses: more than 2000 bytes, and a last sector without bytes behind full ones.
func TestO3LongRecord(t *testing.T) {
	d := made(t, 100)
	head(1).to(d, 0)
	want := ""
	for p := 1; p < 99; p++ {
		s := raw{7, 1, p, 0, 48, long(byte(p))}
		if p == 1 {
			s.kind = 1
		}
		s.to(d, p)
		want += s.content
	}
	raw{7, 1, 99, 2, 0, ""}.to(d, 99)
	wantLog(t, opened(t, d, 0, 99, 7), 2, 1, 98)
	wantLog(t, opened(t, d, 0, 100, 7, want), 3, 100, 0)
}

// What follows the first sector that does not continue the log is not read, and the next record is written over it.
func TestO3AppendOverTheRest(t *testing.T) {
	s := scene()
	s[4].life = 5
	d := laid(t, s)
	l := opened(t, d, 2, 8, 7, "a")
	synced(t, l, "f")
	wantSector(t, d, 4, raw{7, 6, 2, 3, 1, "f"})
	wantSector(t, d, 5, s[3])
	wantLog(t, opened(t, d, 2, 8, 7, "a", "f"), 7, 3, 5)
}

// by is O3 word by word: the records, and the place after them.
func by(region []raw, epoch, h uint32) (records []string, next int) {
	next = 1
	begins, record, own, previous := true, "", uint32(0), uint32(0)
	for p := 1; p < len(region); p++ {
		s := region[p]
		ok := s.epoch == epoch && s.place == p && s.life <= h && s.size <= 48 && s.kind <= 3
		if begins {
			ok = ok && s.kind%2 == 1 && (len(records) == 0 || s.life >= previous)
		} else {
			ok = ok && s.kind%2 == 0 && s.life == own
		}
		if s.kind/2%2 == 0 {
			ok = ok && s.size == 48
		}
		if !ok {
			break
		}
		if begins {
			own, record = s.life, ""
		}
		record += s.content[:s.size]
		if begins = s.kind/2%2 == 1; begins {
			records, previous, next = append(records, record), own, p+1
		}
	}
	return records, next
}

// Regions of sectors that mostly fit each other, and sometimes do not, read by the log and by O3's words.
func TestO3Mixtures(t *testing.T) {
	most := 0
	for seed := range draws(20000) {
		r := seed
		h := uint32(r.below(4))
		region := []raw{head(h)}
		kind, life := byte(1), uint32(r.below(2))
		for p := 1; p < 9; p++ {
			if r.below(2) == 0 {
				kind |= 2
			}
			s := raw{7, life, p, kind, 48, text(48)}
			if kind&2 == 2 {
				s.size = r.below(49)
				life += uint32(r.below(3) / 2)
			}
			spoil(&r, &s)
			region = append(region, s)
			kind = kind & 2 / 2
		}
		d := laid(t, region)
		records, next := by(region, 7, h)
		wantLog(t, opened(t, d, 2, 9, 7, records...), h+1, next, 9-next)
		most = max(most, len(records))
		if t.Failed() {
			t.Fatalf("the mixture %d failed", seed)
		}
	}
	if most < 5 {
		t.Errorf("the mixtures have %d records at most", most)
	}
}

// spoil changes a field, once in a while.
func spoil(r *draws, s *raw) {
	switch r.below(40) {
	case 0:
		s.epoch += uint32(r.below(3))
	case 1:
		s.life = uint32(r.below(4))
	case 2:
		s.place += r.below(3) - 1
	case 3:
		s.kind = byte(r.below(5))
	case 4:
		s.size = r.below(60)
		s.content = text(60)
	}
}

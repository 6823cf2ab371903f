package store

import (
	"palatine/api"
	"palatine/disk"
	"palatine/log"
	"palatine/sum"
)

// Where the fields of a root begin. The checksum is at 0, and goes over all that follows it.
const (
	markAt     = 4
	areaAt     = 6
	epochAt    = 8
	lengthAt   = 12
	checksumAt = 16
)

// What the bytes 4 and 5 of a root are.
const (
	firstMark  = 80
	secondMark = 76
)

// root tells where the image of a checkpoint is, and how to see that it is whole.
type root struct {
	area     int
	epoch    uint32
	length   int
	checksum uint32
}

// rootOf returns what the fields of a sector say, whether or not it is a root.
func rootOf(b [api.SectorBytes]byte) root {
	number := func(at int) uint32 {
		n := uint32(0)
		for i := range 4 {
			n |= uint32(b[at+i]) << (8 * i)
		}
		return n
	}
	return root{area: int(b[areaAt]), epoch: number(epochAt), length: int(number(lengthAt)), checksum: number(checksumAt)}
}

// sector returns the bytes of a root.
func (r root) sector() [api.SectorBytes]byte {
	var b [api.SectorBytes]byte
	put := func(at int, n uint32) {
		for i := range 4 {
			b[at+i] = byte(n >> (8 * i))
		}
	}
	b[markAt], b[markAt+1], b[areaAt] = firstMark, secondMark, byte(r.area)
	put(epochAt, r.epoch)
	put(lengthAt, uint32(r.length))
	put(checksumAt, r.checksum)
	put(0, sum.Sum(b[markAt:]...))
	return b
}

// volume is a disk that is divided into the root, two areas for images, and the region of the log.
type volume struct{ *disk.Disk }

// area returns the number of sectors of an area.
func (v volume) area() int { return (v.Sectors() - 1) / 4 }

// capacity returns the number of bytes of the longest image.
func (v volume) capacity() int { return v.area() * api.SectorBytes }

// start returns the first sector of an area; that of the area 2 is the log's.
func (v volume) start(area int) int { return 1 + area*v.area() }

// readRoot returns the root if it is valid. Otherwise it returns one that stands for a disk without a checkpoint: the other area is the first to be written, and no bytes have the checksum 0.
func (v volume) readRoot() (root, api.Errno) {
	b, e := v.Read(0)
	if e != api.OK {
		return root{}, e
	}
	s := [api.SectorBytes]byte(b)
	r := rootOf(s)
	// The marks, the checksum and the zero bytes are right if the fields make the same sector again.
	if r.area > 1 || r.length > v.capacity() || r.sector() != s {
		return root{area: 1}, api.OK
	}
	return r, api.OK
}

// writeRoot makes a root durable.
func (v volume) writeRoot(r root) api.Errno {
	b := r.sector()
	if e := v.Write(0, b[:]...); e != api.OK {
		return e
	}
	return v.Flush()
}

// readImage returns the bytes of the image that a root tells of.
func (v volume) readImage(r root) (string, api.Errno) {
	var image []byte
	for n := v.start(r.area); len(image) < r.length; n++ {
		b, e := v.Read(n)
		if e != api.OK {
			return "", e
		}
		image = append(image, b...)
	}
	return string(image[:r.length]), api.OK
}

// writeImage makes an image durable, from the beginning of an area on.
func (v volume) writeImage(area int, image string) api.Errno {
	for n := v.start(area); image != ""; n++ {
		b := []byte(image[:min(api.SectorBytes, len(image))])
		if e := v.Write(n, b...); e != api.OK {
			return e
		}
		image = image[len(b):]
	}
	return v.Flush()
}

// openLog opens the log in the sectors behind the areas.
func (v volume) openLog(epoch uint32) (*log.Log, []string, api.Errno) {
	first := v.start(2)
	return log.Open(v.Disk, first, v.Sectors()-first, epoch)
}

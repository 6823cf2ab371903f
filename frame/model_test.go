package frame_test

import (
	"slices"
	"strings"
	"testing"

	"palatine/api"
	"palatine/frame"
)

// draws is a fixed sequence of numbers, the same in every run.
type draws uint64

func (r *draws) next() uint32 {
	*r = *r*6364136223846793005 + 1442695040888963407
	return uint32(*r >> 32)
}

func (r *draws) below(n int) int { return int(r.next() % uint32(n)) }

func (r *draws) text(n int) string {
	b := make([]byte, n)
	for i := range b {
		b[i] = byte(r.next())
	}
	return string(b)
}

// whole is the frame with these contents.
func whole(contents string) string {
	n := len(contents)
	switch {
	case n < 128:
		return "\x30" + string([]byte{byte(n)}) + contents
	case n < 256:
		return "\x30\x81" + string([]byte{byte(n)}) + contents
	}
	return "\x30\x82" + string([]byte{byte(n / 256), byte(n % 256)}) + contents
}

// edges are numbers of bytes of contents at which the form of the length changes, or that are the least and the greatest.
func edges() []int {
	return []int{0, 1, 2, 126, 127, 128, 129, 254, 255, 256, 257, 511, 512, 3839, 3840, 3999, 4000}
}

// invalid are the beginnings of no frame, each as short as can be.
func invalid() []string {
	return []string{"\x00", "\x04", "\x10", "\x2f", "\x31", "\x1f", "\x3f", "\x7f", "\xff",
		"\x30\x80", "\x30\x83", "\x30\xff", "\x30\x81\x00", "\x30\x81\x7f",
		"\x30\x82\x00\x00", "\x30\x82\x00\xff", "\x30\x82\x0f\xa1", "\x30\x82\x10\x00", "\x30\x82\xff\xff"}
}

// sizeByWords is the number of bytes of the frame at the beginning of s, as far as it can be known: 0 if it can't yet, -1 if there can be none.
func sizeByWords(s string) int {
	if len(s) > 0 && s[0] != 0x30 {
		return -1
	}
	if len(s) < 2 {
		return 0
	}
	long := int(s[1]) - 128
	switch {
	case long < 0:
		return 2 + int(s[1])
	case long == 0 || long > 2:
		return -1
	case len(s) < 2+long:
		return 0
	case long == 1 && s[2] >= 128:
		return 3 + int(s[2])
	case long == 2 && s[2] > 0 && int(s[2])*256+int(s[3]) <= 4000:
		return 4 + int(s[2])*256 + int(s[3])
	}
	return -1
}

// byWords is F2 over all bytes that have arrived: the frames, what is buffered, and whether it is dead.
func byWords(s string) (frames []string, rest string, dead bool) {
	for {
		n := sizeByWords(s)
		if n < 0 {
			return frames, "", true
		}
		if n == 0 || n > len(s) {
			return frames, s, false
		}
		frames = append(frames, s[:n])
		s = s[n:]
	}
}

// checkState sees how many bytes wait, and whether it is dead.
func checkState(t *testing.T, f *frame.Frames, waiting int, dead bool) {
	t.Helper()
	if w, d := f.Waiting(), f.Dead(); w != waiting || d != dead {
		t.Errorf("Waiting, Dead: got %d, %v, want %d, %v", w, d, waiting, dead)
	}
}

// checkFeed sees what a chunk brings, and how many bytes wait then; a wrong chunk kills.
func checkFeed(t *testing.T, f *frame.Frames, chunk string, want []string, waiting int, wanted api.Errno) {
	t.Helper()
	if frames, e := f.Feed(chunk); !slices.Equal(frames, want) || e != wanted {
		t.Errorf("Feed(%s): got %x, %v, want %x, %v", told(chunk), frames, e, want, wanted)
	}
	checkState(t, f, waiting, wanted != api.OK)
}

// checkChunks feeds chunks, and holds every state on the way against F2's words for all bytes until then.
func checkChunks(t *testing.T, chunks ...string) {
	t.Helper()
	f, before := frame.New(), 0
	for i, chunk := range chunks {
		frames, rest, dead := byWords(strings.Join(chunks[:i+1], ""))
		e := api.OK
		if dead {
			e = api.ErrFrame
		}
		checkFeed(t, f, chunk, frames[before:], len(rest), e)
		before = len(frames)
		if t.Failed() {
			t.Fatalf("chunks %x", chunks[:i+1])
		}
	}
}

// told is a chunk in short.
func told(chunk string) string {
	const digits = "0123456789abcdef"
	var b strings.Builder
	for i := range min(len(chunk), 20) {
		b.WriteByte(digits[chunk[i]/16])
		b.WriteByte(digits[chunk[i]%16])
	}
	if len(chunk) > 20 {
		b.WriteString(" ..")
	}
	return b.String()
}

// divided is a stream in chunks of drawn sizes below most; some are empty.
func (r *draws) divided(stream string, most int) []string {
	var chunks []string
	for stream != "" {
		n := min(r.below(most), len(stream))
		chunks = append(chunks, stream[:n])
		stream = stream[n:]
	}
	return chunks
}

// stream draws frames, and sometimes something else behind some of them.
func (r *draws) stream() string {
	var b strings.Builder
	for range r.below(12) {
		most := []int{4, 40, 140, 300, 4001}[r.below(16)/4]
		b.WriteString(whole(r.text(r.below(most))))
		if r.below(20) == 0 {
			b.WriteString(invalid()[r.below(len(invalid()))])
		}
	}
	if r.below(3) == 0 {
		b.WriteString(whole(r.text(300))[:r.below(300)])
	}
	return b.String()
}

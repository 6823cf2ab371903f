package frame_test

import (
	"slices"
	"strings"
	"testing"

	"palatine/api"
	"palatine/ber"
	"palatine/frame"
)

func TestF1New(t *testing.T) {
	f := frame.New()
	checkState(t, f, 0, false)
	g := frame.New()
	checkFeed(t, f, "\x30\x05ab", nil, 4, api.OK)
	checkState(t, g, 0, false)
	checkFeed(t, g, "\x31", nil, 0, api.ErrFrame)
	checkState(t, f, 4, false)
	checkState(t, frame.New(), 0, false)
	checkFeed(t, f, "cde", []string{"\x30\x05abcde"}, 0, api.OK)
}

func TestF1Waiting(t *testing.T) {
	f, longest := frame.New(), whole(strings.Repeat("x", api.MaxBer))
	for i := range len(longest) - 1 {
		checkFeed(t, f, longest[i:i+1], nil, i+1, api.OK)
	}
	checkFeed(t, f, "x\x30", []string{longest}, 1, api.OK)
	checkFeed(t, f, "", nil, 1, api.OK)
	checkFeed(t, f, "\x81", nil, 2, api.OK)
	checkFeed(t, f, "\x80", nil, 3, api.OK)
	checkFeed(t, f, strings.Repeat("y", 127), nil, 130, api.OK)
	checkFeed(t, f, "y", []string{"\x30\x81\x80" + strings.Repeat("y", 128)}, 0, api.OK)
}

func TestF2Examples(t *testing.T) {
	f := frame.New()
	checkFeed(t, f, "\x30", nil, 1, api.OK)
	checkFeed(t, f, "\x02\x05\x00\x30\x00\x30", []string{"\x30\x02\x05\x00", "\x30\x00"}, 1, api.OK)
	f = frame.New()
	checkFeed(t, f, "\x80", nil, 0, api.ErrFrame)
	checkFeed(t, f, "\x30\x00", nil, 0, api.ErrFrame)
	checkFeed(t, frame.New(), "\x30\x00\x04\x00", []string{"\x30\x00"}, 0, api.ErrFrame)
}

func TestF2NothingFed(t *testing.T) {
	f := frame.New()
	for range 3 {
		checkFeed(t, f, "", nil, 0, api.OK)
	}
	checkFeed(t, f, "\x30\x00", []string{"\x30\x00"}, 0, api.OK)
	checkFeed(t, f, "", nil, 0, api.OK)
}

func TestF2LengthsOfContents(t *testing.T) {
	for _, n := range edges() {
		s := whole(strings.Repeat("\x30", n))
		checkFeed(t, frame.New(), s, []string{s}, 0, api.OK)
		checkFeed(t, frame.New(), s+s+"\x30", []string{s, s}, 1, api.OK)
		checkFeed(t, frame.New(), s[:len(s)-1], nil, len(s)-1, api.OK)
	}
}

// TestF2ContentsAreFree: only the head of a frame is read, whatever its contents are.
func TestF2ContentsAreFree(t *testing.T) {
	for _, contents := range append(invalid(), "\x02\x01", "\x04\x80", "\x30\x01", strings.Repeat("\x30\x02", 9)) {
		s := whole(contents)
		checkFeed(t, frame.New(), s+"\x30\x00", []string{s, "\x30\x00"}, 0, api.OK)
	}
	nine := ""
	for range 9 {
		nine = whole(nine)
	}
	if _, _, e := ber.Decode(nine); e != api.ErrDepth {
		t.Fatalf("Decode(%x): got %v", nine, e)
	}
	checkFeed(t, frame.New(), nine, []string{nine}, 0, api.OK)
}

func TestF2FirstBytes(t *testing.T) {
	for b := range 256 {
		checkChunks(t, string([]byte{byte(b)}))
		checkChunks(t, string([]byte{byte(b), 0}))
		checkChunks(t, "\x30\x01x"+string([]byte{byte(b)}), "\x00")
	}
}

// TestF2Lengths: all lengths of one and two bytes, and all of three, with and without all of their contents.
func TestF2Lengths(t *testing.T) {
	zeros := strings.Repeat("\x00", 300)
	for b := range 256 {
		checkChunks(t, string([]byte{0x30, byte(b)}), zeros)
		checkChunks(t, string([]byte{0x30, 0x81, byte(b)}), zeros)
	}
	for n := range 1 << 16 {
		head := string([]byte{0x30, 0x82, byte(n >> 8), byte(n)})
		checkChunks(t, head)
		if n < 300 || n > 3990 && n < 4010 {
			checkChunks(t, head[:3], head[3:]+strings.Repeat("z", 4000), "z")
		}
	}
}

func TestF2Invalid(t *testing.T) {
	for _, wrong := range invalid() {
		checkFeed(t, frame.New(), wrong, nil, 0, api.ErrFrame)
		checkFeed(t, frame.New(), wrong+"\x30\x00", nil, 0, api.ErrFrame)
		checkFeed(t, frame.New(), "\x30\x00\x30\x01a"+wrong+"\x30\x00", []string{"\x30\x00", "\x30\x01a"}, 0, api.ErrFrame)
		f := frame.New()
		checkFeed(t, f, wrong[:len(wrong)-1], nil, len(wrong)-1, api.OK)
		checkFeed(t, f, wrong[len(wrong)-1:], nil, 0, api.ErrFrame)
	}
}

func TestF2InvalidBehindBuffered(t *testing.T) {
	f := frame.New()
	checkFeed(t, f, "\x30\x03ab", nil, 4, api.OK)
	checkFeed(t, f, "c\x30\x00\x05\x30\x00", []string{"\x30\x03abc", "\x30\x00"}, 0, api.ErrFrame)
}

func TestF2Dead(t *testing.T) {
	for _, wrong := range invalid() {
		f := frame.New()
		checkFeed(t, f, "\x30\x00"+wrong, []string{"\x30\x00"}, 0, api.ErrFrame)
		for _, chunk := range []string{"", "\x30\x00", "\x30", "\x00", wrong, whole(strings.Repeat("x", 300))} {
			checkFeed(t, f, chunk, nil, 0, api.ErrFrame)
		}
	}
}

// TestF3EveryDivision: short streams in all ways in which they can be divided.
func TestF3EveryDivision(t *testing.T) {
	for _, stream := range []string{
		"\x30\x02\x05\x00\x30\x00\x30\x01\x30\x30\x00\x30",
		"\x30\x00\x30\x00\x30\x01a\x30\x82\x0f\xa1\x30\x00",
		"\x30\x02\x30\x00\x30\x82\x0f\xa0abc",
		"\x30\x03abc\x30\x81\x7f\x30\x00\x30",
		"\x30\x01\x00\x00\x30\x00\x30\x00",
		"\x30\x81\x80\x30\x00\x30\x00\x30\x00",
	} {
		for cuts := range 1 << (len(stream) - 1) {
			var chunks []string
			from := 0
			for i := 1; i < len(stream); i++ {
				if cuts>>(i-1)&1 == 1 {
					chunks = append(chunks, stream[from:i])
					from = i
				}
			}
			checkChunks(t, append(chunks, stream[from:])...)
		}
	}
}

func TestF3DrawnDivisions(t *testing.T) {
	r := draws(10)
	for range 400 {
		stream := r.stream()
		for _, most := range []int{2, 5, 100, 1000, 9000} {
			if most > 2 || len(stream) < 500 {
				checkChunks(t, r.divided(stream, most)...)
			}
		}
		checkChunks(t, stream)
	}
}

// TestF3LongStream: a division of many frames brings what one chunk of them all brings.
func TestF3LongStream(t *testing.T) {
	r := draws(11)
	var want []string
	for range 3000 {
		want = append(want, whole(r.text(r.below(400))))
	}
	stream := strings.Join(want, "")
	checkFeed(t, frame.New(), stream, want, 0, api.OK)
	f, got := frame.New(), []string(nil)
	for _, chunk := range r.divided(stream, 700) {
		frames, e := f.Feed(chunk)
		if e != api.OK {
			t.Fatalf("Feed: got %v", e)
		}
		got = append(got, frames...)
	}
	if !slices.Equal(got, want) {
		t.Errorf("got %d frames, want %d, or others", len(got), len(want))
	}
	checkState(t, f, 0, false)
}

// TestR5FramesAreNew: what a caller does with the frames doesn't reach those of a later call.
func TestR5FramesAreNew(t *testing.T) {
	f := frame.New()
	first, _ := f.Feed("\x30\x01a\x30\x01b\x30")
	clear(first)
	_ = append(first[:0], "x", "y")
	checkFeed(t, f, "\x01c\x30\x01d", []string{"\x30\x01c", "\x30\x01d"}, 0, api.OK)
	second, _ := f.Feed("\x30\x01e")
	checkFeed(t, f, "\x30\x01f", []string{"\x30\x01f"}, 0, api.OK)
	if !slices.Equal(second, []string{"\x30\x01e"}) {
		t.Errorf("earlier frames: got %x", second)
	}
}

// TestR6Alone: two connections whose chunks alternate bring what each brings alone.
func TestR6Alone(t *testing.T) {
	r := draws(12)
	for range 50 {
		var both [2][]string
		for i := range both {
			both[i] = r.divided(r.stream(), 300)
		}
		f, all, sent := [2]*frame.Frames{frame.New(), frame.New()}, [2][]string{}, [2]string{}
		for len(both[0])+len(both[1]) > 0 {
			i := r.below(2)
			if len(both[i]) == 0 {
				continue
			}
			frames, _ := f[i].Feed(both[i][0])
			all[i], sent[i], both[i] = append(all[i], frames...), sent[i]+both[i][0], both[i][1:]
		}
		for i := range f {
			frames, rest, dead := byWords(sent[i])
			if !slices.Equal(all[i], frames) {
				t.Errorf("got %x, want %x", all[i], frames)
			}
			checkState(t, f[i], len(rest), dead)
		}
	}
}

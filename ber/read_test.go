package ber_test

import (
	"slices"
	"strings"
	"testing"

	"palatine/api"
	"palatine/ber"
)

func TestB2AllFirstBytes(t *testing.T) {
	tails := []string{"", "\x00", "\x7f", "\x80", "\xff", "\x00\x00", "\x00\xff", "\x01\x00", "\x0f\xa0", "\x0f\xa1", "\xff\xff", "\x00\x80\x00", "\x10\x00\x00\x00\x00"}
	checkHead(t, "")
	for first := range 256 {
		checkHead(t, string([]byte{byte(first)}))
		for second := range 256 {
			for _, tail := range tails {
				checkHead(t, string([]byte{byte(first), byte(second)})+tail)
			}
		}
	}
}

func TestB2AllLengths(t *testing.T) {
	for n := range 1 << 16 {
		checkHead(t, string([]byte{0x30, 0x82, byte(n >> 8), byte(n)}))
		checkHead(t, string([]byte{0x04, 0x81, byte(n >> 8), byte(n)}))
	}
}

// The contents need not be there.
func TestB2TheHeadAlone(t *testing.T) {
	for n := range 4001 {
		s := bytesByLibrary(leaf(4, zeros(n)))
		head := len(s) - n
		for _, end := range []int{head, head + n/2, len(s)} {
			tag, content, got, e := ber.Head(s[:end])
			if tag != 4 || content != n || got != head || e != api.OK {
				t.Errorf("Head of %d bytes of %d: %d, %d, %d, %v", end, len(s), tag, content, got, e)
			}
		}
		for end := range head {
			checkHead(t, s[:end])
			if _, _, _, e := ber.Head(s[:end]); e != api.ErrShort {
				t.Errorf("Head(%x): %v", s[:end], e)
			}
		}
	}
}

func TestB2TheOrderOfErrors(t *testing.T) {
	for s, want := range map[string]api.Errno{
		"": api.ErrShort, "\x1f": api.ErrBer, "\xff": api.ErrBer, "\x30": api.ErrShort,
		"\x1f\x80": api.ErrBer, "\x1f\x81": api.ErrBer, "\x30\x80": api.ErrBer, "\x30\x83": api.ErrBer, "\x30\xff": api.ErrBer,
		"\x30\x81": api.ErrShort, "\x30\x82": api.ErrShort, "\x30\x82\x00": api.ErrShort, "\x30\x82\xff": api.ErrShort,
		"\x30\x81\x7f": api.ErrBer, "\x30\x81\x80": api.OK, "\x30\x82\x00\xff": api.ErrBer, "\x30\x82\x01\x00": api.OK,
		"\x30\x82\x0f\xa0": api.OK, "\x30\x82\x0f\xa1": api.ErrLong, "\x30\x82\xff\xff": api.ErrLong, "\x9f\x82\xff\xff": api.ErrBer,
	} {
		checkHead(t, s)
		if _, _, _, e := ber.Head(s); e != want {
			t.Errorf("Head(%x): got %v, want %v", s, e, want)
		}
	}
}

func TestB3Examples(t *testing.T) {
	checkDecode(t, "\x30\x07\x02\x01\x05\x04\x02ab!", of(0x30, leaf(2, "\x05"), leaf(4, "ab")), 9, api.OK)
	for s, want := range map[string]api.Errno{
		"\x30\x03\x02\x01": api.ErrShort, "\x30\x03\x02\x02\x05": api.ErrBer, "\x1f\x00": api.ErrBer,
		"\x04\x81\x05": api.ErrBer, "\x04\x81\x05abcde": api.ErrBer, "\x04\x80": api.ErrBer, "\x04\x82\x0f\xa1": api.ErrLong,
	} {
		checkDecode(t, s, api.Node{}, 0, want)
	}
}

// All texts of up to five bytes that stand for something at one place or another.
func TestB3AllShortTexts(t *testing.T) {
	alphabet := "\x00\x01\x02\x03\x04\x1f\x20\x30\x7f\x80\x81\x82\xff"
	texts := []string{""}
	for range 5 {
		for _, s := range texts {
			checkDecodeByWords(t, s)
		}
		var longer []string
		for _, s := range texts {
			for i := range len(alphabet) {
				longer = append(longer, s+alphabet[i:i+1])
			}
		}
		texts = longer
	}
	for _, s := range texts {
		checkDecodeByWords(t, s)
	}
}

// nested puts bytes inside so many constructed elements.
func nested(s string, levels int) string {
	for range levels {
		h := bytesByLibrary(leaf(0x30, s))
		s = h[:len(h)-len(s)] + s
	}
	return s
}

func TestB3Depth(t *testing.T) {
	for levels := range 12 {
		for _, s := range []string{"\x04\x00", "\x04\x01x", "\x30\x00", "\x30\x00\x30\x00"} {
			want := api.OK
			if levels > 7 {
				want = api.ErrDepth
			}
			checkDecodeByWords(t, nested(s, levels))
			if _, _, e := ber.Decode(nested(s, levels)); e != want {
				t.Errorf("%x inside %d elements: got %v, want %v", s, levels, e, want)
			}
		}
	}
}

// On the ninth level nothing is looked at but that there is something.
func TestB3DepthIsAheadOfOtherErrors(t *testing.T) {
	for _, s := range []string{"\x00", "\x1f", "\x1f\x00", "\x30", "\x04\x80", "\x04\x82\x0f\xa1", "\x04\x05"} {
		checkDecode(t, nested(s, 8), api.Node{}, 0, api.ErrDepth)
		checkDecode(t, nested("\x04\x00"+s, 8), api.Node{}, 0, api.ErrDepth)
		checkDecode(t, nested(nested(s, 7)+"\x1f\x00", 1), api.Node{}, 0, api.ErrDepth)
		checkDecode(t, nested("\x1f\x00"+nested(s, 7), 1), api.Node{}, 0, api.ErrBer)
	}
	checkDecode(t, nested("", 8), chain8(), 16, api.OK)
}

// chain8 is eight constructed elements, of which the last one is empty.
func chain8() api.Node {
	n := of(0x30)
	for range 7 {
		n = of(0x30, n)
	}
	return n
}

// An error inside is returned as it is on all levels but for ErrShort, which becomes ErrBer.
func TestB3ErrorsOfChildren(t *testing.T) {
	for s, want := range map[string]api.Errno{
		"\x1f\x00": api.ErrBer, "\x04\x80": api.ErrBer, "\x04\x83": api.ErrBer, "\x04\x81\x05abcde": api.ErrBer, "\x04\x82\x00\x80": api.ErrBer,
		"\x04\x82\x0f\xa1": api.ErrLong, "\x30\x82\xff\xff": api.ErrLong,
		"\x04": api.ErrBer, "\x04\x01": api.ErrBer, "\x04\x81": api.ErrBer, "\x04\x82\x01": api.ErrBer, "\x30\x02\x04": api.ErrBer, "\x04\x82\x0f\xa0": api.ErrBer,
	} {
		for levels := 1; levels < 8; levels++ {
			for _, ahead := range []string{"", "\x04\x02ab", "\x30\x00\x02\x01\x05"} {
				checkDecode(t, nested(ahead+s, levels), api.Node{}, 0, want)
				checkDecode(t, nested(ahead+s, levels)+"\x00\x00\x00\x00", api.Node{}, 0, want)
				checkDecode(t, nested(ahead+nested(s, levels-1), 1), api.Node{}, 0, want)
			}
		}
	}
}

// The first child that is wrong decides.
func TestB3TheFirstWrongChild(t *testing.T) {
	wrong, long, deep := "\x1f\x00", "\x04\x82\x0f\xa1", nested("\x00", 7)
	for s, want := range map[string]api.Errno{
		wrong + long: api.ErrBer, long + wrong: api.ErrLong, deep + long: api.ErrDepth, long + deep: api.ErrLong, deep + wrong: api.ErrDepth, "\x04\x00" + deep + "\x04": api.ErrDepth,
	} {
		checkDecode(t, nested(s, 1), api.Node{}, 0, want)
	}
}

// Of an element that isn't complete, no child is looked at; and a child doesn't reach beyond the contents.
func TestB3ContentsAreThereAsAWhole(t *testing.T) {
	for _, s := range []string{"\x30\x05\x1f\x00\x04", "\x30\x7f" + nested("\x00", 8), "\x30\x81\xff\x04\x82\x0f\xa1", "\x30\x82\x0f\xa0\x80"} {
		checkDecode(t, s, api.Node{}, 0, api.ErrShort)
	}
	for _, s := range []string{"\x30\x03\x04\x02ab", "\x30\x01\x04\x00", "\x30\x05\x30\x03\x04\x02ab", "\x30\x02\x04\x01a", "\x30\x03\x04\x81\x80" + zeros(128)} {
		checkDecode(t, s, api.Node{}, 0, api.ErrBer)
		checkDecode(t, s+zeros(300), api.Node{}, 0, api.ErrBer)
	}
}

func TestB3Lengths(t *testing.T) {
	for _, n := range edges() {
		body := strings.Repeat("z", n)
		s := bytesByLibrary(leaf(4, body))
		if n > 4000 {
			checkDecodeByWords(t, s)
			continue
		}
		checkDecode(t, s, leaf(4, body), len(s), api.OK)
		checkDecode(t, s+s, leaf(4, body), len(s), api.OK)
	}
	kids := slices.Repeat([]api.Node{leaf(4, "")}, 2000)
	checkDecode(t, nested(strings.Repeat("\x04\x00", 2000), 1), of(0x30, kids...), 4004, api.OK)
	checkDecode(t, nested(strings.Repeat("\x04\x00", 2001), 1), api.Node{}, 0, api.ErrLong)
}

// Bytes of elements with some bytes changed, taken out or put in.
func TestB3DrawnTexts(t *testing.T) {
	r := draws(10)
	seen := map[api.Errno]int{}
	for range 60000 {
		s := bytesByLibrary(r.element(1 + r.below(9)))
		for range r.below(3) {
			s = r.changed(s)
		}
		_, _, e := decodedByWords(s, 1)
		seen[e]++
		checkDecodeByWords(t, s)
		checkHead(t, s)
	}
	if len(seen) != 5 {
		t.Errorf("drawn: %v", seen)
	}
}

// changed is a text with one change.
func (r *draws) changed(s string) string {
	i := r.below(len(s) + 1)
	put := []string{"\x00", "\x04", "\x30", "\x80", "\x81", "\x82", "\x82\x0f\xa1", "\x1f", r.text(1), r.text(2)}[r.below(10)]
	switch r.below(4) {
	case 0:
		return s[:i] + put + s[i:]
	case 1:
		return s[:i] + put + s[min(i+len(put), len(s)):]
	case 2:
		return s[:i] + s[min(i+1, len(s)):]
	}
	return s[:i]
}

func TestB5DecodingTheEncoding(t *testing.T) {
	r := draws(11)
	for range 3000 {
		n := r.element(1 + r.below(8))
		s, e := ber.Encode(n)
		if e != api.OK {
			continue
		}
		checkDecode(t, s, n, len(s), api.OK)
		checkDecode(t, s+r.text(r.below(9)), n, len(s), api.OK)
	}
}

func TestB5ProperPrefixesAreShort(t *testing.T) {
	r := draws(12)
	for range 300 {
		s, _ := ber.Encode(r.element(6))
		for end := range s {
			checkDecode(t, s[:end], api.Node{}, 0, api.ErrShort)
		}
	}
	s, _ := ber.Encode(under(leaf(4, zeros(3900)), 7))
	for end := range s {
		checkDecode(t, s[:end], api.Node{}, 0, api.ErrShort)
	}
}

// Whatever is decoded is valid, and has the bytes that were read.
func TestB5EncodingTheDecoded(t *testing.T) {
	r := draws(13)
	decoded := 0
	for range 60000 {
		s := bytesByLibrary(r.element(7))
		for range r.below(3) {
			s = r.changed(s)
		}
		n, used, e := ber.Decode(s)
		if e != api.OK {
			continue
		}
		decoded++
		if e := ber.Right(n); e != api.OK {
			t.Errorf("Decode(%x) is not valid: %v", s, e)
		}
		if got, _ := ber.Encode(n); got != s[:used] {
			t.Errorf("Decode(%x): its bytes are %x", s, got)
		}
	}
	if decoded < 10000 {
		t.Errorf("only %d were decoded", decoded)
	}
}

// R5, R6: a result that its caller changes does not show in later ones, nor in the lists beside it.
func TestR5ResultsAreNew(t *testing.T) {
	r := draws(14)
	for range 300 {
		n := r.element(6)
		s, e := ber.Encode(n)
		if e != api.OK {
			continue
		}
		first, _, _ := ber.Decode(s)
		kids := first.Kids
		for i, kid := range kids {
			kids[i].Kids = append(kid.Kids, leaf(4, "more"))
			clear(kids[i].Kids)
			for j, other := range kids {
				if j > i && !same(other, n.Kids[j]) {
					t.Errorf("%s: child %d has changed with child %d", told(n), j, i)
				}
			}
		}
		clear(kids)
		checkDecode(t, s, n, len(s), api.OK)
	}
}

package ber_test

import (
	"encoding/asn1"
	"slices"
	"strings"
	"testing"

	"palatine/api"
	"palatine/ber"
)

// draws is a fixed sequence of numbers, the same in every run.
type draws uint64

func (r *draws) next() uint32 {
	*r = *r*6364136223846793005 + 1442695040888963407
	return uint32(*r >> 32)
}

func (r *draws) below(n int) int { return int(r.next() % uint32(n)) }

func (r *draws) text(n int) string {
	b := make([]byte, n)
	for i := range b {
		b[i] = byte(r.next())
	}
	return string(b)
}

// edges are numbers of bytes at which the form of a length changes, or at which there are too many.
func edges() []int {
	return []int{0, 1, 2, 126, 127, 128, 129, 254, 255, 256, 257, 3999, 4000, 4001, 4096, 65535, 65536, 65540, 1 << 20}
}

// tagByWords is the chapter's tag: a byte whose five least significant bits are not all 1.
func tagByWords(tag int) bool {
	if tag < 0 || tag > 255 {
		return false
	}
	for _, bit := range []int{1, 2, 4, 8, 16} {
		if tag/bit%2 == 0 {
			return true
		}
	}
	return false
}

func constructedByWords(tag int) bool { return tag/32%2 == 1 }

func leaf(tag int, body string) api.Node { return api.Node{Tag: tag, Body: body} }

func zeros(n int) string { return strings.Repeat("\x00", n) }

func of(tag int, kids ...api.Node) api.Node { return api.Node{Tag: tag, Kids: kids} }

// under puts an element below so many others, each of which has other children too.
func under(n api.Node, levels int) api.Node {
	for i := range levels {
		n = of(0x30+i, leaf(4, "x"), n, of(0xa0))
	}
	return n
}

// chain is an element of a depth, with one child on each level.
func chain(depth int) api.Node {
	n := leaf(4, "")
	for range depth - 1 {
		n = of(0x30, n)
	}
	return n
}

// drawnTag is any tag that is constructed or not.
func (r *draws) drawnTag(constructed bool) int {
	for {
		tag := r.below(256)
		if tagByWords(tag) && constructedByWords(tag) == constructed {
			return tag
		}
	}
}

// element draws a valid element that is at most so deep.
func (r *draws) element(depth int) api.Node {
	if depth == 1 || r.below(3) == 0 {
		most := []int{4, 40, 130, 300, 3000}[r.below(18)/4]
		return leaf(r.drawnTag(false), r.text(r.below(most)))
	}
	n := api.Node{Tag: r.drawnTag(true)}
	for range r.below(4) {
		n.Kids = append(n.Kids, r.element(depth-1))
	}
	return n
}

// all is an element and those inside it.
func all(n api.Node) []api.Node {
	list := []api.Node{n}
	for _, kid := range n.Kids {
		list = append(list, all(kid)...)
	}
	return list
}

func depthByWords(n api.Node) int {
	most := 0
	for _, kid := range n.Kids {
		most = max(most, depthByWords(kid))
	}
	return most + 1
}

// bytesByLibrary is what another program makes of an element whose tags are right.
func bytesByLibrary(n api.Node) string {
	raw := asn1.RawValue{Class: n.Tag / 64, Tag: n.Tag % 32, IsCompound: constructedByWords(n.Tag), Bytes: []byte(contentsByLibrary(n))}
	b, err := asn1.Marshal(raw)
	if err != nil {
		panic(err)
	}
	return string(b)
}

func contentsByLibrary(n api.Node) string {
	var b strings.Builder
	b.WriteString(n.Body)
	for _, kid := range n.Kids {
		b.WriteString(bytesByLibrary(kid))
	}
	return b.String()
}

// rightByWords is B1, one error after the other.
func rightByWords(n api.Node) api.Errno {
	if depthByWords(n) > 8 {
		return api.ErrDepth
	}
	for _, x := range all(n) {
		if !tagByWords(x.Tag) || constructedByWords(x.Tag) && x.Body != "" || !constructedByWords(x.Tag) && len(x.Kids) > 0 {
			return api.ErrBer
		}
	}
	for _, x := range all(n) {
		if len(contentsByLibrary(x)) > 4000 {
			return api.ErrLong
		}
	}
	return api.OK
}

// heading is what Head returns.
type heading struct {
	tag, content, head int
	e                  api.Errno
}

// headByWords is B2, one error after the other.
func headByWords(s string) heading {
	if len(s) == 0 {
		return heading{e: api.ErrShort}
	}
	if !tagByWords(int(s[0])) {
		return heading{e: api.ErrBer}
	}
	if len(s) == 1 {
		return heading{e: api.ErrShort}
	}
	h := heading{tag: int(s[0]), content: int(s[1]), head: 2}
	least := 0
	switch {
	case s[1] == 0x80 || s[1] > 0x82:
		return heading{e: api.ErrBer}
	case s[1] == 0x81:
		if len(s) < 3 {
			return heading{e: api.ErrShort}
		}
		h.content, h.head, least = int(s[2]), 3, 128
	case s[1] == 0x82:
		if len(s) < 4 {
			return heading{e: api.ErrShort}
		}
		h.content, h.head, least = 256*int(s[2])+int(s[3]), 4, 256
	}
	if h.content < least {
		return heading{e: api.ErrBer}
	}
	if h.content > 4000 {
		return heading{e: api.ErrLong}
	}
	return h
}

// decodedByWords is B3 for an element at a depth.
func decodedByWords(s string, depth int) (api.Node, int, api.Errno) {
	if depth > 8 {
		return api.Node{}, 0, api.ErrDepth
	}
	h := headByWords(s)
	if h.e != api.OK {
		return api.Node{}, 0, h.e
	}
	if len(s) < h.head+h.content {
		return api.Node{}, 0, api.ErrShort
	}
	contents := s[h.head : h.head+h.content]
	if !constructedByWords(h.tag) {
		return leaf(h.tag, contents), h.head + h.content, api.OK
	}
	n := api.Node{Tag: h.tag}
	for i := 0; i < len(contents); {
		kid, used, e := decodedByWords(contents[i:], depth+1)
		if e == api.ErrShort {
			e = api.ErrBer
		}
		if e != api.OK {
			return api.Node{}, 0, e
		}
		n.Kids = append(n.Kids, kid)
		i += used
	}
	return n, h.head + h.content, api.OK
}

// same is whether two elements have the same tags, bodies and children; no children may be nil or empty.
func same(a, b api.Node) bool {
	return a.Tag == b.Tag && a.Body == b.Body && slices.EqualFunc(a.Kids, b.Kids, same)
}

// checkRight sees that Right and Encode report an error, or that the bytes are those of the library.
func checkRight(t *testing.T, n api.Node, want api.Errno) {
	t.Helper()
	if e := ber.Right(n); e != want {
		t.Errorf("Right(%s): got %v, want %v", told(n), e, want)
	}
	bytes := ""
	if want == api.OK {
		bytes = bytesByLibrary(n)
	}
	if s, e := ber.Encode(n); s != bytes || e != want {
		t.Errorf("Encode(%s): got %x, %v, want %x, %v", told(n), s, e, bytes, want)
	}
}

// told is an element in short.
func told(n api.Node) string {
	var b strings.Builder
	for _, x := range all(n) {
		b.WriteString(strings.Repeat(" ", min(b.Len(), 1)))
		b.WriteString(hexadecimal(x.Tag))
		if b.Len() > 200 {
			return b.String() + " .."
		}
	}
	return b.String()
}

func hexadecimal(tag int) string {
	const digits = "0123456789abcdef"
	if tag < 0 || tag > 255 {
		return "(no byte)"
	}
	return string([]byte{digits[tag/16], digits[tag%16]})
}

// checkHead holds Head against the chapter's words.
func checkHead(t *testing.T, s string) {
	t.Helper()
	tag, content, head, e := ber.Head(s)
	if got, want := (heading{tag, content, head, e}), headByWords(s); got != want {
		t.Errorf("Head(%x): got %v, want %v", s, got, want)
	}
}

// checkDecode holds what Decode returns against what is wanted; beside an error that is nothing.
func checkDecode(t *testing.T, s string, want api.Node, wants int, wanted api.Errno) {
	t.Helper()
	if n, used, e := ber.Decode(s); !same(n, want) || used != wants || e != wanted {
		t.Errorf("Decode(%x): got %s, %d, %v, want %s, %d, %v", s, told(n), used, e, told(want), wants, wanted)
	}
}

// checkDecodeByWords holds it against the chapter's words.
func checkDecodeByWords(t *testing.T, s string) {
	t.Helper()
	n, used, e := decodedByWords(s, 1)
	checkDecode(t, s, n, used, e)
}

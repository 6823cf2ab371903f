package ber_test

import (
	"math"
	"slices"
	"testing"

	"palatine/api"
	"palatine/ber"
)

func TestB1Examples(t *testing.T) {
	s, e := ber.Encode(of(0x30, leaf(0x02, "\x05"), leaf(0x04, "ab")))
	if s != "\x30\x07\x02\x01\x05\x04\x02ab" || e != api.OK {
		t.Errorf("got %x, %v", s, e)
	}
}

// Each number is judged as the tag of an element alone, and of one inside others.
func TestB1Tags(t *testing.T) {
	tags := []int{256 + 4, 256 + 0x30, 512, 1 << 32, 1<<32 + 4, math.MaxInt, math.MinInt, math.MinInt + 4, -256 + 4, -224}
	for tag := -300; tag < 600; tag++ {
		tags = append(tags, tag)
	}
	for _, tag := range tags {
		want := api.ErrBer
		if tagByWords(tag) {
			want = api.OK
		}
		for levels := range 8 {
			checkRight(t, under(leaf(tag, ""), levels), want)
		}
	}
}

func TestB1BodiesAndKidsThatTheTagPermits(t *testing.T) {
	kids := []api.Node{leaf(4, "y")}
	for tag := range 256 {
		body, below := api.OK, api.OK
		switch {
		case tag&0x1f == 0x1f:
			body, below = api.ErrBer, api.ErrBer
		case tag&0x20 != 0:
			body = api.ErrBer
		default:
			below = api.ErrBer
		}
		for levels := range 7 {
			checkRight(t, under(leaf(tag, "x"), levels), body)
			checkRight(t, under(of(tag, kids...), levels), below)
			checkRight(t, under(api.Node{Tag: tag, Body: "x", Kids: kids}, levels), api.ErrBer)
		}
	}
}

func TestR4NoKidsAreNilOrEmpty(t *testing.T) {
	for tag := range 256 {
		want := rightByWords(leaf(tag, ""))
		checkRight(t, api.Node{Tag: tag}, want)
		checkRight(t, api.Node{Tag: tag, Kids: []api.Node{}}, want)
		checkRight(t, api.Node{Tag: tag, Kids: kidsWithRoom()}, want)
	}
}

// kidsWithRoom has no kids, but room for an element that isn't valid.
func kidsWithRoom() []api.Node { return []api.Node{leaf(0x1f, "")}[:0] }

func TestB1Depth(t *testing.T) {
	for depth := 1; depth < 20; depth++ {
		want := api.OK
		if depth > 8 {
			want = api.ErrDepth
		}
		checkRight(t, chain(depth), want)
		for levels := range 4 {
			checkRight(t, under(chain(depth), levels), rightByWords(chain(depth+levels)))
		}
	}
}

// An element without children has the depth 1, whichever its tag is.
func TestB1TheLastLevelMayBeConstructed(t *testing.T) {
	for levels := range 12 {
		want := api.OK
		if levels > 7 {
			want = api.ErrDepth
		}
		checkRight(t, under(of(0x31), levels), want)
		checkRight(t, under(leaf(0x85, "x"), levels), want)
	}
}

func TestB1ManyLevels(t *testing.T) {
	checkRightAlone(t, chain(1<<16), api.ErrDepth)
	wide := make([]api.Node, 3000)
	for i := range wide {
		wide[i] = leaf(4, "")
	}
	wide[2999] = chain(8)
	checkRightAlone(t, of(0x30, wide...), api.ErrDepth)
	wide[2999] = chain(2)
	checkRightAlone(t, of(0x30, wide...), api.ErrLong)
}

// R1: an element may be inside itself, which is as deep as can be.
func TestB1AnElementInsideItself(t *testing.T) {
	for place := range 3 {
		for _, tag := range []int{0x30, 4, 0x1f} {
			kids := []api.Node{leaf(4, "a"), leaf(4, "b"), leaf(4, "c")}
			kids[place] = api.Node{Tag: tag, Body: zeros(5000), Kids: kids}
			checkRightAlone(t, kids[place], api.ErrDepth)
		}
	}
}

// checkRightAlone is for elements that the models can't walk.
func checkRightAlone(t *testing.T, n api.Node, want api.Errno) {
	t.Helper()
	if e := ber.Right(n); e != want {
		t.Errorf("Right: got %v, want %v", e, want)
	}
	if s, e := ber.Encode(n); s != "" || e != want {
		t.Errorf("Encode: got %d bytes, %v, want %v", len(s), e, want)
	}
}

func TestB1LengthsOfBodies(t *testing.T) {
	for _, n := range edges() {
		want := api.OK
		if n > 4000 {
			want = api.ErrLong
		}
		for _, tag := range []int{0, 2, 4, 0x80, 0xde} {
			checkRight(t, leaf(tag, zeros(n)), want)
		}
	}
	r := draws(1)
	for n := range 4001 {
		checkRight(t, leaf(4, r.text(n)), api.OK)
	}
}

// The heads of children count, too, and they have 2, 3 or 4 bytes.
func TestB1LengthsOfContents(t *testing.T) {
	for _, body := range []int{0, 1, 2, 126, 127, 128, 255, 256, 257, 1995, 1996, 3995, 3996} {
		kid := leaf(4, zeros(body))
		size := len(bytesByLibrary(kid))
		kids := slices.Repeat([]api.Node{kid}, 4000/size)
		checkRight(t, of(0x30, kids...), api.OK)
		checkRight(t, of(0x30, append(kids, kid)...), api.ErrLong)
		left := 4000 % size
		for last := max(left-6, 0); last < left+3; last++ {
			n := of(0x30, append(kids, leaf(4, zeros(last)))...)
			checkRight(t, n, rightByWords(n))
		}
	}
}

func TestB1LengthsOnEveryLevel(t *testing.T) {
	for levels := range 8 {
		for body := 3960; body < 4005; body++ {
			n := leaf(4, zeros(body))
			for range levels {
				n = of(0x30, n)
			}
			want := api.OK
			if body+4*levels > 4000 {
				want = api.ErrLong
			}
			checkRight(t, n, want)
		}
	}
}

// Wherever they are, too many levels are reported ahead of wrong elements, and those ahead of long ones.
func TestB1TheOrderOfErrors(t *testing.T) {
	deep, wrong, long, right := chain(8), leaf(0x1f, ""), leaf(4, zeros(4001)), leaf(4, "x")
	for _, kids := range [][]api.Node{
		{deep, wrong, long, right}, {wrong, long, deep, right}, {long, wrong, deep}, {long, deep, wrong}, {deep, long}, {long, deep}, {right, deep},
		{of(4, chain(7))}, {api.Node{Tag: 0x1f, Body: zeros(4001), Kids: []api.Node{chain(7)}}}, {leaf(4, zeros(4001)), of(-1, chain(7))},
	} {
		checkRight(t, of(0x30, kids...), api.ErrDepth)
		checkRight(t, of(0x3f, kids...), api.ErrDepth)
		checkRight(t, api.Node{Tag: 4, Body: zeros(4001), Kids: kids}, api.ErrDepth)
	}
	for _, kids := range [][]api.Node{
		{wrong, long}, {long, wrong}, {long, right, of(4, right)}, {long, leaf(0x30, "x")}, {of(0x30, of(0x30, long)), wrong}, {leaf(0x30, zeros(4001))}, {leaf(256, zeros(4001))},
	} {
		checkRight(t, of(0x30, kids...), api.ErrBer)
		checkRight(t, of(4, kids...), api.ErrBer)
		n := of(0x30, kids...)
		checkRight(t, under(n, 8-depthByWords(n)), api.ErrBer)
	}
	checkRight(t, of(0x30, right, long), api.ErrLong)
	checkRight(t, of(0x30, long, right), api.ErrLong)
	checkRight(t, api.Node{Tag: 4, Body: zeros(4001), Kids: []api.Node{right}}, api.ErrBer)
}

func TestB1DrawnElements(t *testing.T) {
	r := draws(2)
	seen := map[api.Errno]int{}
	for range 6000 {
		n := r.element(1 + r.below(10))
		want := rightByWords(n)
		seen[want]++
		checkRight(t, n, want)
	}
	if seen[api.OK] < 1000 || seen[api.ErrDepth] < 10 || seen[api.ErrLong] < 10 {
		t.Errorf("drawn: %v", seen)
	}
}

// A valid element that is changed somewhere is valid or not by the chapter's words.
func TestB1DrawnFaults(t *testing.T) {
	r := draws(3)
	seen := map[api.Errno]int{}
	for range 6000 {
		n := r.element(6)
		r.spoil(&n)
		want := rightByWords(n)
		seen[want]++
		checkRight(t, n, want)
	}
	if seen[api.OK] < 100 || seen[api.ErrBer] < 1000 || seen[api.ErrDepth] < 100 || seen[api.ErrLong] < 100 {
		t.Errorf("drawn: %v", seen)
	}
}

// spoil changes an element or one inside it.
func (r *draws) spoil(n *api.Node) {
	for len(n.Kids) > 0 && r.below(4) > 0 {
		n = &n.Kids[r.below(len(n.Kids))]
	}
	switch r.below(5) {
	case 0:
		n.Tag ^= 1 << r.below(10)
	case 1:
		n.Tag |= 0x1f
	case 2:
		n.Body += r.text(1 + r.below(3))
	case 3:
		n.Kids = append(n.Kids, chain(1+r.below(8)))
	case 4:
		*n = leaf(4, zeros(3900+r.below(200)))
	}
}

func TestR5ArgumentsStayAsTheyAre(t *testing.T) {
	r := draws(4)
	for range 300 {
		n := r.element(6)
		if r.below(2) == 0 {
			r.spoil(&n)
		}
		was := copied(n)
		ber.Right(n)
		ber.Encode(n)
		if !same(n, was) {
			t.Errorf("%s has become %s", told(was), told(n))
		}
	}
}

func copied(n api.Node) api.Node {
	n.Kids = slices.Clone(n.Kids)
	for i, kid := range n.Kids {
		n.Kids[i] = copied(kid)
	}
	return n
}

package sha_test

import (
	"bytes"
	"crypto/hmac"
	library "crypto/sha256"
	"slices"
	"strings"
	"sync"
	"testing"

	"palatine/sha"
)

// tagByLibrary is another program's answer.
func tagByLibrary(key, b []byte) [32]byte {
	h := hmac.New(library.New, key)
	h.Write(b)
	return [32]byte(h.Sum(nil))
}

// kinds are bytes of a length: zeros, ones, those that padding begins with, and drawn ones.
func kinds(n int) [][]byte {
	r := draws(n)
	return [][]byte{make([]byte, n), bytes.Repeat([]byte{0xff}, n), bytes.Repeat([]byte{0x80}, n), r.bytes(n), r.bytes(n)}
}

func TestI1Examples(t *testing.T) {
	for _, x := range []struct{ text, want string }{
		{"", "e3b0c44298fc1c149afbf4c8996fb92427ae41e4649b934ca495991b7852b855"},
		{"abc", "ba7816bf8f01cfea414140de5dae2223b00361a396177a9cb410ff61f20015ad"},
		{strings.Repeat("a", 56), "b35439a4ac6f0948b6d6f9e3c6af0f5f590ce20f1bde7090ef7970686ec6738a"},
	} {
		same(t, "Sum of "+x.text, sha.Sum([]byte(x.text)...), digits(t, x.want))
	}
	same(t, "Sum of a nil slice", sha.Sum(nil...), library.Sum256(nil))
	same(t, "Sum of an empty slice", sha.Sum([]byte{}...), library.Sum256(nil))
}

// Digests that are published for this hash.
func TestI1PublishedDigests(t *testing.T) {
	for _, x := range []struct{ text, want string }{
		{"abcdbcdecdefdefgefghfghighijhijkijkljklmklmnlmnomnopnopq", "248d6a61d20638b8e5c026930c3e6039a33ce45964ff2167f6ecedd419db06c1"},
		{"abcdefghbcdefghicdefghijdefghijkefghijklfghijklmghijklmnhijklmnoijklmnopjklmnopqklmnopqrlmnopqrsmnopqrstnopqrstu", "cf5b16a778af8380036ce59e7b0492370b249b11e8f07a51afac45037afee9d1"},
		{strings.Repeat("a", 1000000), "cdc76e5c9914fb9281a1c7e284d73e67f1809a48a497200e046d39ccc7112cd0"},
		{"The quick brown fox jumps over the lazy dog", "d7a8fbb307d7809469ca9abcb0082e4f8d5651e46d3cdb762d02d0bf37c9e592"},
		{"\xbd", "68325720aabd7c82f30f554b313d0570c95accbb7dc4b5aae11204c08ffe732b"},
		{"\xc9\x8c\x8e\x55", "7abc22c0ae5af26ce93dbb94433a0e0b2e119d014f8e7f65bd56c61ccccd9504"},
		{strings.Repeat("\x00", 55), "02779466cdec163811d078815c633f21901413081449002f24aa3e80f0b88ef7"},
		{strings.Repeat("\x00", 56), "d4817aa5497628e7c77e6b606107042bbba3130888c5f47a375e6179be789fbb"},
		{strings.Repeat("\x00", 57), "65a16cb7861335d5ace3c60718b5052e44660726da4cd13bb745381b235a1785"},
		{strings.Repeat("\x00", 64), "f5a5fd42d16a20302798ef6ed309979b43003d2320d9f0e8ea9831a92759fb4b"},
		{strings.Repeat("\x00", 1000), "541b3e9daa09b20bf85fa273e5cbd3e80185aa4ec298e765db87742b70138a53"},
		{strings.Repeat("A", 1000), "c2e686823489ced2017f6059b8b239318b6364f6dcd835d0a519105a1eadd6e4"},
	} {
		same(t, "Sum", sha.Sum([]byte(x.text)...), digits(t, x.want))
	}
}

// All lengths around one, two and more blocks, the edges 55, 56, 63, 64 and 65 among them.
func TestI1LengthsByTheWords(t *testing.T) {
	m := newModel()
	for n := range 330 {
		for _, b := range kinds(n) {
			want := m.sum(b)
			same(t, "Sum", sha.Sum(b...), want)
			same(t, "Sum by the library", library.Sum256(b), want)
		}
	}
}

func TestI1LongBytes(t *testing.T) {
	r := draws(1)
	for _, n := range []int{4095, 4096, 4097, 1<<13 - 1, 1<<16 + 55, 1<<16 + 56, 1<<21 - 1, 1 << 21} {
		b := r.bytes(n)
		same(t, "Sum of many bytes", sha.Sum(b...), library.Sum256(b))
	}
}

// 2^29 bytes are the fewest whose number of bits needs more than four bytes.
func TestI1MoreThan32BitsOfLength(t *testing.T) {
	r, h, want := draws(2), sha.New(), library.New()
	part := r.bytes(1 << 20)
	for range 1 << 9 {
		h.Write(part...)
		want.Write(part)
	}
	same(t, "Sum of 2^29 bytes", h.Sum(), [32]byte(want.Sum(nil)))
	h.Write(1, 2, 3)
	want.Write([]byte{1, 2, 3})
	same(t, "Sum of 2^29 + 3 bytes", h.Sum(), [32]byte(want.Sum(nil)))
}

// unlike reports two lists of bytes that have the same digest.
func unlike(t *testing.T, what string, list [][]byte) {
	t.Helper()
	seen := map[[32]byte][]byte{}
	for _, b := range list {
		d := sha.Sum(b...)
		same(t, what, d, library.Sum256(b))
		if a, ok := seen[d]; ok && !bytes.Equal(a, b) {
			t.Errorf("%s: %x and %x have the same digest", what, a, b)
		}
		seen[d] = b
	}
}

func TestI1EachBitCounts(t *testing.T) {
	r := draws(3)
	for _, n := range []int{1, 55, 56, 64, 65, 130} {
		b := r.bytes(n)
		list := [][]byte{b}
		for bit := range 8 * n {
			c := slices.Clone(b)
			c[bit/8] ^= 1 << (bit % 8)
			list = append(list, c)
		}
		unlike(t, "a changed bit", list)
	}
}

// Bytes that already look as if they were padded, whole or in part, are padded once more.
func TestI1BytesThatLookPadded(t *testing.T) {
	r := draws(4)
	for _, n := range []int{0, 1, 54, 55, 56, 63, 64, 65, 120} {
		p := padded(r.bytes(n))
		list := [][]byte{}
		for end := n; end <= len(p); end++ {
			list = append(list, p[:end])
		}
		unlike(t, "what is padded", list)
	}
}

func TestI1OrderOfBytes(t *testing.T) {
	var list [][]byte
	for i := range 128 {
		b := make([]byte, 128)
		b[i] = 1
		list = append(list, b, b[:i], b[i:])
	}
	unlike(t, "a byte's place", list)
}

func TestI2NothingWritten(t *testing.T) {
	want := library.Sum256(nil)
	h := sha.New()
	same(t, "Sum of a new hash", h.Sum(), want)
	h.Write()
	same(t, "Sum after Write of nothing", h.Sum(), want)
	h.Write(nil...)
	h.Write([]byte{}...)
	same(t, "Sum after Write of empty slices", h.Sum(), want)
	h.Write(0)
	same(t, "Sum after Write of a byte", h.Sum(), library.Sum256([]byte{0}))
}

func TestI2SumBetweenAnyTwoWrites(t *testing.T) {
	r := draws(5)
	b := r.bytes(330)
	often, once := sha.New(), sha.New()
	for n := range b {
		want := library.Sum256(b[:n])
		same(t, "Sum", often.Sum(), want)
		same(t, "Sum once more", often.Sum(), want)
		often.Write(b[n])
		once.Write(b[n])
	}
	same(t, "Sum at the end", often.Sum(), library.Sum256(b))
	same(t, "Sum at the end alone", once.Sum(), library.Sum256(b))
}

// The unprocessed block has each length when Sum is called, and what is written then ends in it, fills it, or goes beyond it.
func TestI2WritingContinuesAfterSum(t *testing.T) {
	r := draws(6)
	b := r.bytes(300)
	for n := range 130 {
		for _, more := range []int{0, 1, 63 - n%64, 64 - n%64, 65 - n%64, 64, 128, 150} {
			h := sha.New()
			h.Write(b[:n]...)
			same(t, "Sum before", h.Sum(), library.Sum256(b[:n]))
			h.Write(b[n : n+more]...)
			same(t, "Sum after", h.Sum(), library.Sum256(b[:n+more]))
			same(t, "Sum after once more", h.Sum(), library.Sum256(b[:n+more]))
		}
	}
}

func TestI2HashesAreApart(t *testing.T) {
	r := draws(7)
	var hashes [5]*sha.Hash
	var written [5][]byte
	for i := range hashes {
		hashes[i] = sha.New()
	}
	for range 2000 {
		i, b := r.below(5), r.bytes(r.below(100))
		hashes[i].Write(b...)
		written[i] = append(written[i], b...)
		k := r.below(5)
		same(t, "Sum of one of several hashes", hashes[k].Sum(), library.Sum256(written[k]))
	}
}

func TestI3Example(t *testing.T) {
	got := sha.Mac([]byte("key"), []byte("The quick brown fox jumps over the lazy dog")...)
	same(t, "Mac", got, digits(t, "f7bc83f430538424b13298e6aa6fb143ef4d59a14946175997479dbc2d1a3cd8"))
	same(t, "Mac of nothing under nothing", sha.Mac(nil), digits(t, "b613679a0814d9ec772f95d778c35fc5ff1697c493715653c6c712144292c5ad"))
	same(t, "Mac of nothing under an empty key", sha.Mac([]byte{}, []byte{}...), sha.Mac(nil))
}

// Codes that are published for this hash.
func TestI3PublishedCodes(t *testing.T) {
	long := bytes.Repeat([]byte{0xaa}, 131)
	for _, x := range []struct {
		key, b []byte
		want   string
	}{
		{bytes.Repeat([]byte{0x0b}, 20), []byte("Hi There"), "b0344c61d8db38535ca8afceaf0bf12b881dc200c9833da726e9376c2e32cff7"},
		{[]byte("Jefe"), []byte("what do ya want for nothing?"), "5bdcc146bf60754e6a042426089575c75a003f089d2739839dec58b964ec3843"},
		{bytes.Repeat([]byte{0xaa}, 20), bytes.Repeat([]byte{0xdd}, 50), "773ea91e36800e46854db8ebd09181a72959098b3ef8c122d9635514ced565fe"},
		{bytesOf(t, "0102030405060708090a0b0c0d0e0f10111213141516171819", 25), bytes.Repeat([]byte{0xcd}, 50), "82558a389a443c0ea4cc819899f2083a85f0faa3e578f8077a2e3ff46729665b"},
		{long, []byte("Test Using Larger Than Block-Size Key - Hash Key First"), "60e431591ee0b67f0d8a26aacbf5b77f8e0bc6213728c5140546040f0ee37f54"},
		{long, []byte("This is a test using a larger than block-size key and a larger than block-size data. The key needs to be hashed before being used by the HMAC algorithm."), "9b09ffa71b942fcb27635fbcd5b0e944bfdc63644f0713938a7f51535c3a35e2"},
	} {
		same(t, "Mac", sha.Mac(x.key, x.b...), digits(t, x.want))
	}
}

// Keys of all lengths around one, two and three blocks, 0, 63, 64 and 65 among them.
func TestI3KeysByTheWords(t *testing.T) {
	m := newModel()
	for n := range 200 {
		for i, key := range kinds(n) {
			for _, length := range []int{0, 1, 55, 56, 64, 65, 130} {
				b := kinds(length)[(i+n)%5]
				want := m.mac(key, b)
				same(t, "Mac", sha.Mac(key, b...), want)
				same(t, "Mac by the library", tagByLibrary(key, b), want)
			}
		}
	}
}

func TestI3BytesByTheLibrary(t *testing.T) {
	r := draws(8)
	for n := range 330 {
		for _, length := range []int{0, 1, 16, 32, 63, 64, 65, 100} {
			key, b := r.bytes(length), r.bytes(n)
			same(t, "Mac", sha.Mac(key, b...), tagByLibrary(key, b))
		}
	}
	key, b := r.bytes(1<<16), r.bytes(1<<16+1)
	same(t, "Mac of many bytes under a long key", sha.Mac(key, b...), tagByLibrary(key, b))
}

// Keys that are extended, or replaced, stand for the same block as what they become.
func TestI3WhatKeysBecome(t *testing.T) {
	r := draws(9)
	b := r.bytes(77)
	for n := range 65 {
		key := append(r.bytes(n), make([]byte, 64-n)...)
		same(t, "Mac under an extended key", sha.Mac(key, b...), sha.Mac(key[:n], b...))
		longer := append(slices.Clone(key), 0)
		if sha.Mac(longer, b...) == sha.Mac(key, b...) {
			t.Errorf("a key of 64 bytes and one with a zero byte more have the same code")
		}
	}
	for _, n := range []int{65, 66, 128, 200} {
		key := r.bytes(n)
		short := sha.Sum(key...)
		same(t, "Mac under a long key", sha.Mac(key, b...), sha.Mac(short[:], b...))
	}
	key := r.bytes(64)
	short := sha.Sum(key...)
	if sha.Mac(key, b...) == sha.Mac(short[:], b...) {
		t.Errorf("a key of 64 bytes is replaced by its digest")
	}
}

// The key and the bytes are told apart, wherever one ends and the other begins.
func TestI3KeyAndBytesAreApart(t *testing.T) {
	r := draws(10)
	b, seen := r.bytes(200), map[[32]byte]int{}
	for n := range 201 {
		got := sha.Mac(b[:n], b[n:]...)
		same(t, "Mac", got, tagByLibrary(b[:n], b[n:]))
		if k, ok := seen[got]; ok {
			t.Errorf("keys of %d and %d bytes have the same code", k, n)
		}
		seen[got] = n
	}
}

func TestI4AllDivisionsInTwo(t *testing.T) {
	r := draws(11)
	b := r.bytes(200)
	for n := range 201 {
		want := sha.Sum(b[:n]...)
		for k := range n + 1 {
			same(t, "two parts", inParts(b[:k], b[k:n]), want)
		}
	}
}

func TestI4DivisionsInThree(t *testing.T) {
	r := draws(12)
	for _, n := range []int{0, 1, 55, 56, 63, 64, 65, 119, 128, 129, 193} {
		b := r.bytes(n)
		want := library.Sum256(b)
		for i := range n + 1 {
			for k := i; k <= n; k++ {
				same(t, "three parts", inParts(b[:i], b[i:k], b[k:]), want)
			}
		}
	}
}

// Parts of equal lengths, of which some end where blocks do.
func TestI4EqualParts(t *testing.T) {
	r := draws(13)
	b := r.bytes(1000)
	want := library.Sum256(b)
	for n := 1; n <= 200; n++ {
		same(t, "equal parts", inParts(slices.Collect(slices.Chunk(b, n))...), want)
	}
}

// Parts of any lengths, empty ones before, between and behind them.
func TestI4DrawnDivisions(t *testing.T) {
	r := draws(14)
	for range 1500 {
		b := r.bytes(r.below(700))
		want := library.Sum256(b)
		parts, longest := [][]byte{nil}, 1+r.below(300)
		for rest := b; len(rest) > 0; {
			n := min(r.below(longest+1), len(rest))
			parts, rest = append(parts, rest[:n]), rest[n:]
			if r.below(4) == 0 {
				parts = append(parts, nil, []byte{})
			}
		}
		same(t, "drawn parts", inParts(parts...), want)
	}
}

// between returns bytes that lie in the middle of others, and a check that neither they nor their neighbors have changed.
func between(t *testing.T, b []byte) (given []byte, check func()) {
	t.Helper()
	all := bytes.Repeat([]byte{0xee}, len(b)+400)
	copy(all[200:], b)
	was := slices.Clone(all)
	return all[200 : 200+len(b)], func() {
		t.Helper()
		if !bytes.Equal(all, was) {
			t.Errorf("bytes that were handed in, or those around them, have changed")
		}
	}
}

func TestR5WhatIsHandedInIsAsItWas(t *testing.T) {
	r := draws(15)
	for n := range 150 {
		key, checkKey := between(t, r.bytes(r.below(150)))
		b, check := between(t, r.bytes(n))
		sha.Sum(b...)
		sha.Mac(key, b...)
		sha.Mac(b, key...)
		sha.Mac(b, b...)
		h := sha.New()
		for range 3 {
			h.Write(b...)
			h.Sum()
			h.Write(key...)
			h.Sum()
		}
		check()
		checkKey()
	}
}

// The bytes that were written may be changed by the caller at once.
func TestR5WrittenBytesAreNotKept(t *testing.T) {
	r := draws(16)
	for n := range 200 {
		h := sha.New()
		first, room := r.bytes(n), make([]byte, 200)
		copy(room, first)
		h.Write(room[:n]...)
		clear(room)
		same(t, "Sum after a change", h.Sum(), library.Sum256(first))
		second := r.bytes(n / 2)
		copy(room, second)
		h.Write(room[:n/2]...)
		clear(room)
		same(t, "Sum after another change", h.Sum(), library.Sum256(append(first, second...)))
	}
}

func TestR5ResultsAreNew(t *testing.T) {
	h := sha.New()
	h.Write(1, 2, 3)
	a := h.Sum()
	want := a
	for i := range a {
		a[i]++
	}
	same(t, "Sum after its result was changed", h.Sum(), want)
	h.Write(4)
	same(t, "Sum after another byte", h.Sum(), library.Sum256([]byte{1, 2, 3, 4}))
}

// The key and the bytes may be the same ones, or lie in each other.
func TestR5OneSliceForAll(t *testing.T) {
	r := draws(17)
	for n := range 150 {
		b := r.bytes(n)
		same(t, "Mac of the key", sha.Mac(b, b...), tagByLibrary(slices.Clone(b), slices.Clone(b)))
		same(t, "Mac of a piece of the key", sha.Mac(b, b[n/2:]...), tagByLibrary(slices.Clone(b), slices.Clone(b[n/2:])))
	}
}

func TestR6CallsDoNotDependOnEachOther(t *testing.T) {
	r := draws(18)
	key, b := r.bytes(70), r.bytes(100)
	d, tag := library.Sum256(b), tagByLibrary(key, b)
	h := sha.New()
	h.Write(b...)
	for range 100 {
		sha.Sum(r.bytes(r.below(150))...)
		sha.Mac(r.bytes(r.below(150)), r.bytes(r.below(150))...)
		inParts(r.bytes(r.below(150)), r.bytes(r.below(150)))
		same(t, "Sum again", sha.Sum(b...), d)
		same(t, "Mac again", sha.Mac(key, b...), tag)
		same(t, "Sum of a hash again", h.Sum(), d)
	}
}

// Calls that run at one time don't disturb each other either.
func TestR6CallsAtOneTime(t *testing.T) {
	var all sync.WaitGroup
	var faults [8]int
	for n := range faults {
		all.Go(func() {
			r := draws(100 + n)
			for range 200 {
				key, b := r.bytes(r.below(100)), r.bytes(r.below(200))
				if sha.Sum(b...) != library.Sum256(b) || sha.Mac(key, b...) != tagByLibrary(key, b) || inParts(key, b) != library.Sum256(append(key, b...)) {
					faults[n]++
				}
			}
		})
	}
	all.Wait()
	for _, n := range faults {
		if n > 0 {
			t.Errorf("%d calls were disturbed by others", n)
		}
	}
}

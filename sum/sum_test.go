package sum_test

import (
	"bytes"
	"hash/crc32"
	"strings"
	"testing"

	"palatine/sum"
)

// draws is a fixed sequence of numbers, the same in every run.
type draws uint64

func (r *draws) next() uint32 {
	*r = *r*6364136223846793005 + 1442695040888963407
	return uint32(*r >> 32)
}

func (r *draws) below(n int) int { return int(r.next() % uint32(n)) }

func (r *draws) bytes(n int) []byte {
	b := make([]byte, n)
	for i := range b {
		b[i] = byte(r.below(256))
	}
	return b
}

// model is S1 word by word, bit for bit.
func model(s uint32, b []byte) uint32 {
	r := s ^ 0xffffffff
	for _, x := range b {
		for bit := 0; bit < 8; bit++ {
			t := r % 2
			if x>>bit%2 == 1 {
				t = 1 - t
			}
			r /= 2
			if t == 1 {
				r ^= 0xedb88320
			}
		}
	}
	return r ^ 0xffffffff
}

func want(t *testing.T, call string, got, want uint32) {
	t.Helper()
	if got != want {
		t.Errorf("%s: got %08x, want %08x", call, got, want)
	}
}

// starts are checksums to go on from: the edges, single bits, and a few drawn ones.
func starts() []uint32 {
	r := draws(1)
	list := []uint32{0, 1, 0xffffffff, 0xfffffffe, 0x7fffffff, 0x80000000, 0xedb88320, ^uint32(0xedb88320), 0xcbf43926}
	for i := range 32 {
		list = append(list, 1<<i)
	}
	for range 50 {
		list = append(list, r.next())
	}
	return list
}

func TestS1NoByte(t *testing.T) {
	for _, s := range starts() {
		want(t, "Add of nothing", sum.Add(s), s)
		want(t, "Add of a nil slice", sum.Add(s, nil...), s)
		want(t, "Add of an empty slice", sum.Add(s, []byte{}...), s)
	}
}

func TestS1OneByte(t *testing.T) {
	for _, s := range starts() {
		for x := range 256 {
			want(t, "Add of a byte", sum.Add(s, byte(x)), model(s, []byte{byte(x)}))
		}
	}
}

func TestS1ManyBytes(t *testing.T) {
	r := draws(2)
	for n := range 200 {
		b, s := r.bytes(n), r.next()
		want(t, "Add", sum.Add(s, b...), model(s, b))
		want(t, "Add to 0", sum.Add(0, b...), model(0, b))
	}
	for _, n := range []int{4095, 4096, 4097, 1 << 20} {
		b, s := r.bytes(n), r.next()
		want(t, "Add of a long slice", sum.Add(s, b...), model(s, b))
	}
}

// Zero bytes count: a checksum tells how many there are, at both ends.
func TestS1ZeroBytes(t *testing.T) {
	seen := map[uint32]int{}
	for n := range 1000 {
		b := make([]byte, n)
		want(t, "Add of zero bytes", sum.Add(0, b...), model(0, b))
		want(t, "Add of a byte and zero bytes", sum.Add(0, append([]byte{1}, b...)...), model(0, append([]byte{1}, b...)))
		if m, ok := seen[sum.Add(0, b...)]; ok {
			t.Errorf("%d and %d zero bytes have the same checksum", m, n)
		}
		seen[sum.Add(0, b...)] = n
	}
}

func TestS1Order(t *testing.T) {
	for _, x := range [][2]string{{"ab", "ba"}, {"\x00\x01", "\x01\x00"}, {"\x80\x00", "\x00\x80"}, {"\x01", "\x80"}} {
		a, b := sum.Sum([]byte(x[0])...), sum.Sum([]byte(x[1])...)
		if a == b {
			t.Errorf("%q and %q have the same checksum", x[0], x[1])
		}
		want(t, "Sum", a, model(0, []byte(x[0])))
		want(t, "Sum", b, model(0, []byte(x[1])))
	}
}

// Values that are published for this checksum, and the library's own: it is the one that Ethernet uses.
func TestS1IsTheCommonChecksum(t *testing.T) {
	known := map[string]uint32{
		"":  0,
		"a": 0xe8b7be43, "abc": 0x352441c2, "123456789": 0xcbf43926,
		"\x00": 0xd202ef8d, "\xff": 0xff000000, "\x00\x00\x00\x00": 0x2144df1c, "\xff\xff\xff\xff": 0xffffffff,
		"The quick brown fox jumps over the lazy dog": 0x414fa339,
	}
	for s, w := range known {
		want(t, "Add to 0", sum.Add(0, []byte(s)...), w)
		want(t, "Sum", sum.Sum([]byte(s)...), w)
		want(t, "Text", sum.Text(s), w)
	}
	r := draws(3)
	for n := range 300 {
		b, s := r.bytes(n), r.next()
		want(t, "Add", sum.Add(s, b...), crc32.Update(s, crc32.IEEETable, b))
	}
}

func TestS2SumIsAddToZero(t *testing.T) {
	want(t, "Sum of nothing", sum.Sum(), 0)
	want(t, "Sum of a nil slice", sum.Sum(nil...), 0)
	want(t, "Sum of an empty slice", sum.Sum([]byte{}...), 0)
	for x := range 256 {
		want(t, "Sum of a byte", sum.Sum(byte(x)), model(0, []byte{byte(x)}))
	}
	r := draws(4)
	for n := range 200 {
		b := r.bytes(n)
		want(t, "Sum", sum.Sum(b...), sum.Add(0, b...))
		want(t, "Sum by the words", sum.Sum(b...), model(0, b))
	}
}

func TestS2TextGoesByBytes(t *testing.T) {
	list := []string{
		"", "\x00", "\x00\x00\x00", "a\x00", "a\x00b", "\x7f", "\x80", "\xc3", "\xff\xfe", "\xed\xa0\x80",
		"é", "€uro", "\U0001f600", "\ufffd", "\ufeffx", "e\u0301", "line\r\nline\n", "Ulm, Baden-Württemberg", "\xc3\x28 é \xff",
		strings.Repeat("x", 4096), strings.Repeat("ü", 1000), strings.Repeat("\xff", 65),
	}
	for x := range 256 {
		list = append(list, string([]byte{byte(x)}), string([]byte{byte(x), 'b', byte(x)}))
	}
	r := draws(5)
	for n := range 200 {
		list = append(list, string(r.bytes(n)))
	}
	for _, s := range list {
		want(t, "Text", sum.Text(s), sum.Sum([]byte(s)...))
		want(t, "Text by the words", sum.Text(s), model(0, []byte(s)))
	}
	if sum.Text("\xff") == sum.Text("\ufffd") || sum.Text("\xff") == sum.Text("\xfe") {
		t.Error("bytes that are no UTF-8 are taken for others")
	}
}

func TestS2TextOfAMegabyte(t *testing.T) {
	r := draws(6)
	b := r.bytes(1 << 20)
	want(t, "Text", sum.Text(string(b)), model(0, b))
}

func TestS3AddGoesOn(t *testing.T) {
	r := draws(7)
	for n := range 40 {
		b, s := r.bytes(n), r.next()
		for k := range n + 1 {
			want(t, "Add of the rest", sum.Add(sum.Add(s, b[:k]...), b[k:]...), sum.Add(s, b...))
			want(t, "Add of the rest to a Sum", sum.Add(sum.Sum(b[:k]...), b[k:]...), sum.Sum(b...))
			want(t, "Add of the rest to a Text", sum.Add(sum.Text(string(b[:k])), b[k:]...), sum.Text(string(b)))
		}
	}
}

func TestS3AddByteByByte(t *testing.T) {
	r := draws(8)
	b := r.bytes(2000)
	s := uint32(0)
	for i, x := range b {
		s = sum.Add(s, x)
		want(t, "Add", s, sum.Sum(b[:i+1]...))
	}
}

// changed is s with the bits of pattern flipped from bit first on, counted from the least significant bit of each byte.
func changed(s string, first int, pattern uint32) string {
	b := []byte(s)
	for i := range 32 {
		if pattern>>i&1 == 1 {
			b[(first+i)/8] ^= 1 << ((first + i) % 8)
		}
	}
	return string(b)
}

// Every two strings of two bytes lie within 32 bits, so that no two of them have the same checksum.
func TestS3AllTextsOfTwoBytes(t *testing.T) {
	seen := map[uint32]int{}
	for i := range 1 << 16 {
		s := sum.Text(string([]byte{byte(i), byte(i >> 8)}))
		if j, ok := seen[s]; ok {
			t.Fatalf("%04x and %04x have the same checksum", i, j)
		}
		seen[s] = i
	}
}

func TestS3Bursts(t *testing.T) {
	r := draws(9)
	for n := 4; n <= 40; n++ {
		s := string(r.bytes(n))
		for first := range 8*n - 31 {
			patterns := []uint32{1, 1 << 31, 1<<31 | 1, 0xffffffff, 0xedb88320, 0xdb710641, 0x04c11db7, 0x82608edb}
			for range 20 {
				patterns = append(patterns, r.next()|1)
			}
			for _, p := range patterns {
				if c := changed(s, first, p); sum.Text(c) == sum.Text(s) {
					t.Errorf("%q and %q have the same checksum", s, c)
				}
			}
		}
	}
}

// The effect of a change doesn't depend on what else the string has, and the effects of changes add up. So it is enough that the effects of 32 consecutive single bits are independent: then no sum of some of them is 0.
func TestS3AllBursts(t *testing.T) {
	r := draws(10)
	s, other := string(r.bytes(24)), string(r.bytes(24))
	effect := func(s string, first int, pattern uint32) uint32 {
		return sum.Text(changed(s, first, pattern)) ^ sum.Text(s)
	}
	for first := range 8*len(s) - 31 {
		p, q := r.next(), r.next()
		want(t, "the effect of two changes", effect(s, first, p^q), effect(s, first, p)^effect(s, first, q))
		want(t, "the effect in another string", effect(other, first, p), effect(s, first, p))
		var effects []uint32
		for i := range 32 {
			effects = append(effects, effect(s, first, 1<<i))
		}
		if n := rank(effects); n != 32 {
			t.Errorf("of the 32 bits from %d on only %d are independent", first, n)
		}
	}
}

// rank is the number of independent rows, by elimination from the highest bit down.
func rank(rows []uint32) int {
	n := 0
	for bit := 31; bit >= 0; bit-- {
		for i := n; i < len(rows); i++ {
			if rows[i]>>bit&1 == 0 {
				continue
			}
			rows[n], rows[i] = rows[i], rows[n]
			for j := n + 1; j < len(rows); j++ {
				if rows[j]>>bit&1 == 1 {
					rows[j] ^= rows[n]
				}
			}
			n++
			break
		}
	}
	return n
}

func TestR5ArgumentsAreNotModified(t *testing.T) {
	r := draws(11)
	b := r.bytes(100)
	given := bytes.Clone(b)
	for n := range len(b) + 1 {
		sum.Sum(b[:n]...)
		sum.Add(5, b[:n]...)
		if !bytes.Equal(b, given) {
			t.Fatalf("a call with %d bytes changed them or those behind them", n)
		}
	}
}

func TestR6CallsDoNotDependOnEachOther(t *testing.T) {
	r := draws(12)
	b := r.bytes(50)
	first := sum.Sum(b...)
	for range 100 {
		sum.Add(r.next(), r.bytes(r.below(20))...)
		sum.Text("another one")
		want(t, "Sum again", sum.Sum(b...), first)
	}
	b[0]++
	want(t, "Sum of changed bytes", sum.Sum(b...), model(0, b))
}

// The chapter's examples, line by line.
func TestExamples(t *testing.T) {
	want(t, "Sum()", sum.Sum(), 0)
	want(t, `Text("")`, sum.Text(""), 0)
	want(t, `Text("123456789")`, sum.Text("123456789"), 0xcbf43926)
	want(t, `Add(Text("1234"), "56789"..)`, sum.Add(sum.Text("1234"), []byte("56789")...), 0xcbf43926)
	want(t, "Sum(0)", sum.Sum(0), 0xd202ef8d)
}

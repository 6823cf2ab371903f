package sha_test

import (
	"encoding/hex"
	"math/big"
	"slices"
	"testing"

	"palatine/sha"
)

// draws is a fixed sequence of numbers, the same in every run.
type draws uint64

func (r *draws) next() uint32 {
	*r = *r*6364136223846793005 + 1442695040888963407
	return uint32(*r >> 32)
}

func (r *draws) below(n int) int { return int(r.next() % uint32(n)) }

func (r *draws) bytes(n int) []byte {
	b := make([]byte, n)
	for i := range b {
		b[i] = byte(r.next())
	}
	return b
}

// model is I1 by the chapter's words, over numbers that are reduced modulo 2^32 by hand.
type model struct {
	initial   [8]uint64
	constants [64]uint64
}

// newModel takes the words from where they come from, the roots of the first 64 primes.
func newModel() *model {
	m := &model{}
	for i, p := range primes(64) {
		m.constants[i] = behindThePoint(p, 3)
		if i < 8 {
			m.initial[i] = behindThePoint(p, 2)
		}
	}
	return m
}

func primes(n int) []int {
	var list []int
	for p := 2; len(list) < n; p++ {
		if !slices.ContainsFunc(list, func(q int) bool { return p%q == 0 }) {
			list = append(list, p)
		}
	}
	return list
}

// behindThePoint returns the first 32 bits behind the point of a number's root, which are the last ones of the greatest r with r^power <= p 2^(32 power).
func behindThePoint(p, power int) uint64 {
	limit := new(big.Int).Lsh(big.NewInt(int64(p)), uint(32*power))
	r := new(big.Int)
	for bit := 40; bit >= 0; bit-- {
		more := new(big.Int).SetBit(r, bit, 1)
		if new(big.Int).Exp(more, big.NewInt(int64(power)), nil).Cmp(limit) <= 0 {
			r = more
		}
	}
	return r.Uint64() % (1 << 32)
}

// padded tries one number of zero bytes after the other.
func padded(b []byte) []byte {
	p := append(slices.Clone(b), 0x80)
	for (len(p)+8)%64 != 0 {
		p = append(p, 0)
	}
	return append(p, new(big.Int).Mul(big.NewInt(8), big.NewInt(int64(len(b)))).FillBytes(make([]byte, 8))...)
}

func rotated(w uint64, n int) uint64 { return w>>n | w<<(32-n)%(1<<32) }

func (m *model) sum(b []byte) [32]byte {
	state := m.initial
	for p := padded(b); len(p) > 0; p = p[64:] {
		state = m.after(state, p[:64])
	}
	var digest [32]byte
	for i, word := range state {
		copy(digest[4*i:], new(big.Int).SetUint64(word).FillBytes(make([]byte, 4)))
	}
	return digest
}

func (m *model) after(state [8]uint64, block []byte) [8]uint64 {
	const modulus = 1 << 32
	var w [64]uint64
	for i := range w {
		if i < 16 {
			w[i] = new(big.Int).SetBytes(block[4*i : 4*i+4]).Uint64()
			continue
		}
		p := rotated(w[i-15], 7) ^ rotated(w[i-15], 18) ^ w[i-15]>>3
		q := rotated(w[i-2], 17) ^ rotated(w[i-2], 19) ^ w[i-2]>>10
		w[i] = (w[i-16] + w[i-7] + p + q) % modulus
	}
	s := state
	for i := range w {
		a, b, c, e, f, g := s[0], s[1], s[2], s[4], s[5], s[6]
		choice := e&f ^ (modulus-1-e)&g
		most := a&b ^ a&c ^ b&c
		x := s[7] + (rotated(e, 6) ^ rotated(e, 11) ^ rotated(e, 25)) + choice + m.constants[i] + w[i]
		y := (rotated(a, 2) ^ rotated(a, 13) ^ rotated(a, 22)) + most
		s = [8]uint64{(x + y) % modulus, a, b, c, (s[3] + x) % modulus, e, f, g}
	}
	for i := range state {
		state[i] = (state[i] + s[i]) % modulus
	}
	return state
}

// mac is I3 by the chapter's words.
func (m *model) mac(key, b []byte) [32]byte {
	if len(key) > 64 {
		short := m.sum(key)
		key = short[:]
	}
	var outer, inner []byte
	for i := range 64 {
		k := byte(0)
		if i < len(key) {
			k = key[i]
		}
		outer, inner = append(outer, k^0x5c), append(inner, k^0x36)
	}
	first := m.sum(append(inner, b...))
	return m.sum(append(outer, first[:]...))
}

func same(t *testing.T, call string, got, want [32]byte) {
	t.Helper()
	if got != want {
		t.Errorf("%s: got %x, want %x", call, got, want)
	}
}

// digits reads the 64 hexadecimal digits of a digest.
func digits(t *testing.T, text string) [32]byte {
	t.Helper()
	return [32]byte(bytesOf(t, text, 32))
}

// bytesOf reads so many bytes.
func bytesOf(t *testing.T, text string, n int) []byte {
	t.Helper()
	b, err := hex.DecodeString(text)
	if err != nil || len(b) != n {
		t.Fatalf("%q is not %d bytes", text, n)
	}
	return b
}

// inParts is the digest of bytes that are written in these parts.
func inParts(parts ...[]byte) [32]byte {
	h := sha.New()
	for _, part := range parts {
		h.Write(part...)
	}
	return h.Sum()
}

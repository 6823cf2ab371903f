package aes_test

import "testing"

// draws is a fixed sequence of numbers, the same in every run.
type draws uint64

func (r *draws) next() uint32 {
	*r = *r*6364136223846793005 + 1442695040888963407
	return uint32(*r >> 32)
}

func (r *draws) byte() byte { return byte(r.next()) }

func (r *draws) block() [16]byte {
	var b [16]byte
	for i := range b {
		b[i] = r.byte()
	}
	return b
}

// remainder is the remainder of a polynomial modulo x^8 + x^4 + x^3 + x + 1, by division from the highest term down.
func remainder(p int) int {
	for k := 15; k >= 8; k-- {
		if p>>k&1 == 1 {
			p ^= 0x11b << (k - 8)
		}
	}
	return p
}

// product multiplies two polynomials term by term, and takes the remainder when all terms are there.
func product(a, b int) int {
	var terms [15]int
	for i := range 8 {
		for j := range 8 {
			terms[i+j] += (a >> i & 1) * (b >> j & 1)
		}
	}
	p := 0
	for k, n := range terms {
		p |= n % 2 << k
	}
	return remainder(p)
}

// model has the values of bytes that the rest of A1 to A4 is made of, found by the chapter's words.
type model struct {
	products [256][256]byte
	boxes    [256]byte
}

func newModel() *model {
	m := &model{}
	for a := range 256 {
		for b := range 256 {
			m.products[a][b] = byte(product(a, b))
		}
	}
	for b := range 256 {
		r := m.inverse(b)
		for k := range 8 {
			bit := r>>k ^ r>>((k+4)%8) ^ r>>((k+5)%8) ^ r>>((k+6)%8) ^ r>>((k+7)%8) ^ 0x63>>k
			m.boxes[b] |= byte(bit & 1 << k)
		}
	}
	return m
}

// inverse looks for the byte whose product with b is 1.
func (m *model) inverse(b int) int {
	for r := range 256 {
		if m.products[b][r] == 1 {
			return r
		}
	}
	return 0
}

// expand is A2 with its columns numbered from 0 to 43.
func (m *model) expand(key [16]byte) [11][16]byte {
	var columns [44][4]byte
	c := byte(1)
	for i := range columns {
		if i < 4 {
			copy(columns[i][:], key[4*i:])
			continue
		}
		t := columns[i-1]
		if i%4 == 0 {
			old := t
			for k := range 4 {
				t[k] = m.boxes[old[(k+1)%4]]
			}
			t[0] ^= c
			c = m.products[c][2]
		}
		for k := range 4 {
			columns[i][k] = columns[i-4][k] ^ t[k]
		}
	}
	var keys [11][16]byte
	for i, column := range columns {
		copy(keys[i/4][4*(i%4):], column[:])
	}
	return keys
}

// encrypt is A3 with bytes that are numbered by their columns and rows.
func (m *model) encrypt(key, block [16]byte) [16]byte {
	keys := m.expand(key)
	var at [4][4]byte
	for i, b := range block {
		at[i/4][i%4] = b ^ keys[0][i]
	}
	for r := 1; r <= 10; r++ {
		var next [4][4]byte
		for j := range 4 {
			for k := range 4 {
				next[j][k] = m.boxes[at[(j+k)%4][k]]
			}
			if r != 10 {
				next[j] = m.mixed(next[j])
			}
			for k := range 4 {
				next[j][k] ^= keys[r][4*j+k]
			}
		}
		at = next
	}
	for i := range block {
		block[i] = at[i/4][i%4]
	}
	return block
}

func (m *model) mixed(a [4]byte) [4]byte {
	two, three := &m.products[2], &m.products[3]
	return [4]byte{
		two[a[0]] ^ three[a[1]] ^ a[2] ^ a[3],
		a[0] ^ two[a[1]] ^ three[a[2]] ^ a[3],
		a[0] ^ a[1] ^ two[a[2]] ^ three[a[3]],
		three[a[0]] ^ a[1] ^ a[2] ^ two[a[3]],
	}
}

func same[V comparable](t *testing.T, call string, got, want V) {
	t.Helper()
	if got != want {
		t.Errorf("%s: got %02x, want %02x", call, any(got), any(want))
	}
}

// filled is a block of equal bytes.
func filled(x byte) [16]byte {
	var b [16]byte
	for i := range b {
		b[i] = x
	}
	return b
}

// edges are blocks of zeros, of 0xff, of equal bytes, of one bit, of all bits but one, of one byte that isn't 0, and drawn ones.
func edges() [][16]byte {
	var list [][16]byte
	for _, x := range []byte{0, 0xff, 1, 0x80, 0x52, 0x53, 0x63, 0xaa} {
		list = append(list, filled(x))
	}
	for bit := range 128 {
		one, rest := filled(0), filled(0xff)
		one[bit/8] ^= 1 << (bit % 8)
		rest[bit/8] ^= 1 << (bit % 8)
		list = append(list, one, rest)
	}
	r := draws(1)
	for i := range 16 {
		b := filled(0)
		b[i] = 0x0f ^ byte(i)<<4
		list = append(list, b, r.block(), r.block())
	}
	return list
}

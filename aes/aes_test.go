package aes_test

import (
	library "crypto/aes"
	"encoding/hex"
	"math/bits"
	"strings"
	"testing"

	"palatine/aes"
)

// block reads 32 hexadecimal digits, with or without spaces.
func block(t *testing.T, digits string) [16]byte {
	t.Helper()
	b, err := hex.DecodeString(strings.ReplaceAll(digits, " ", ""))
	if err != nil || len(b) != 16 {
		t.Fatalf("%q is no block", digits)
	}
	return [16]byte(b)
}

// encryptedByLibrary is another program's answer.
func encryptedByLibrary(t *testing.T, key, plain [16]byte) [16]byte {
	t.Helper()
	c, err := library.NewCipher(key[:])
	if err != nil {
		t.Fatal(err)
	}
	var b [16]byte
	c.Encrypt(b[:], plain[:])
	return b
}

func TestA1AllProducts(t *testing.T) {
	for a := range 256 {
		for b := range 256 {
			if got, want := aes.Times(byte(a), byte(b)), byte(product(a, b)); got != want {
				t.Errorf("Times(%02x, %02x): got %02x, want %02x", a, b, got, want)
			}
		}
	}
}

// Powers of 3 are all bytes but 0, so that the product of two of them is known from a sum of exponents alone.
func TestA1ProductsBySumsOfExponents(t *testing.T) {
	var powers [255]byte
	exponents := map[byte]int{}
	p := byte(1)
	for n := range powers {
		powers[n], exponents[p] = p, n
		double := p << 1
		if p >= 0x80 {
			double ^= 0x1b
		}
		p ^= double
	}
	if len(exponents) != 255 || p != 1 {
		t.Fatal("the powers of 3 are not all bytes but 0")
	}
	for a := range 256 {
		same(t, "a product with 0", aes.Times(byte(a), 0), 0)
		same(t, "a product with 0", aes.Times(0, byte(a)), 0)
		for b := 1; b < 256 && a > 0; b++ {
			want := powers[(exponents[byte(a)]+exponents[byte(b)])%255]
			same(t, "a product", aes.Times(byte(a), byte(b)), want)
		}
	}
}

func TestA1EdgesOfProducts(t *testing.T) {
	known := []struct{ a, b, want byte }{
		{0, 0, 0}, {0, 9, 0}, {9, 0, 0}, {1, 0xff, 0xff}, {0xff, 1, 0xff}, {0x40, 2, 0x80}, {0x80, 2, 0x1b}, {2, 0x80, 0x1b},
		{0x80, 0x80, 0x9a}, {0xff, 0xff, 0x13}, {0x57, 0x83, 0xc1}, {0x57, 0x13, 0xfe}, {0x53, 0xca, 1}, {0x57, 0x10, 0x07},
	}
	for _, x := range known {
		same(t, "Times", aes.Times(x.a, x.b), x.want)
	}
}

// reversed takes the rotations and 0x63 back from an S-box value: bit k of the inverse is the exclusive or of the bits k + 2, k + 5 and k + 7 (modulo 8).
func reversed(box byte) byte {
	b := box ^ 0x63
	return bits.RotateLeft8(b, -2) ^ bits.RotateLeft8(b, -5) ^ bits.RotateLeft8(b, -7)
}

func TestA1AllInverses(t *testing.T) {
	same(t, "the inverse of 0", reversed(aes.Box(0)), 0)
	for b := 1; b < 256; b++ {
		r := reversed(aes.Box(byte(b)))
		if product(b, int(r)) != 1 || aes.Times(byte(b), r) != 1 {
			t.Errorf("Box(%02x) is that of the inverse %02x, but their product is not 1", b, r)
		}
	}
}

func TestA1AllBoxes(t *testing.T) {
	m := newModel()
	seen := map[byte]int{}
	for b := range 256 {
		got := aes.Box(byte(b))
		if got != m.boxes[b] {
			t.Errorf("Box(%02x): got %02x, want %02x", b, got, m.boxes[b])
		}
		if c, ok := seen[got]; ok {
			t.Errorf("%02x and %02x have the same S-box value", b, c)
		}
		seen[got] = b
	}
}

// Rows of the table that is published for the S-box: the first, the last, and those of some bytes between.
func TestA1PublishedBoxes(t *testing.T) {
	rows := map[int]string{
		0x00: "63 7c 77 7b f2 6b 6f c5 30 01 67 2b fe d7 ab 76",
		0x10: "ca 82 c9 7d fa 59 47 f0 ad d4 a2 af 9c a4 72 c0",
		0x50: "53 d1 00 ed 20 fc b1 5b 6a cb be 39 4a 4c 58 cf",
		0xf0: "8c a1 89 0d bf e6 42 68 41 99 2d 0f b0 54 bb 16",
	}
	for first, row := range rows {
		for i, want := range block(t, row) {
			same(t, "Box", aes.Box(byte(first+i)), want)
		}
	}
}

// Round keys that are published: those of the standard's two keys, of zeros and of 0xff. The last two of each key need a c beyond 0x80.
func TestA2PublishedRoundKeys(t *testing.T) {
	known := [][11]string{
		{
			"2b7e1516 28aed2a6 abf71588 09cf4f3c", "a0fafe17 88542cb1 23a33939 2a6c7605", "f2c295f2 7a96b943 5935807a 7359f67f",
			"3d80477d 4716fe3e 1e237e44 6d7a883b", "ef44a541 a8525b7f b671253b db0bad00", "d4d1c6f8 7c839d87 caf2b8bc 11f915bc",
			"6d88a37a 110b3efd dbf98641 ca0093fd", "4e54f70e 5f5fc9f3 84a64fb2 4ea6dc4f", "ead27321 b58dbad2 312bf560 7f8d292f",
			"ac7766f3 19fadc21 28d12941 575c006e", "d014f9a8 c9ee2589 e13f0cc8 b6630ca6",
		},
		{
			"00010203 04050607 08090a0b 0c0d0e0f", "d6aa74fd d2af72fa daa678f1 d6ab76fe", "b692cf0b 643dbdf1 be9bc500 6830b3fe",
			"b6ff744e d2c2c9bf 6c590cbf 0469bf41", "47f7f7bc 95353e03 f96c32bc fd058dfd", "3caaa3e8 a99f9deb 50f3af57 adf622aa",
			"5e390f7d f7a69296 a7553dc1 0aa31f6b", "14f9701a e35fe28c 440adf4d 4ea9c026", "47438735 a41c65b9 e016baf4 aebf7ad2",
			"549932d1 f0855768 1093ed9c be2c974e", "13111d7f e3944a17 f307a78b 4d2b30c5",
		},
		{
			"00000000 00000000 00000000 00000000", "62636363 62636363 62636363 62636363", "9b9898c9 f9fbfbaa 9b9898c9 f9fbfbaa",
			"90973450 696ccffa f2f45733 0b0fac99", "ee06da7b 876a1581 759e42b2 7e91ee2b", "7f2e2b88 f8443e09 8dda7cbb f34b9290",
			"ec614b85 1425758c 99ff0937 6ab49ba7", "21751787 3550620b acaf6b3c c61bf09b", "0ef90333 3ba96138 97060a04 511dfa9f",
			"b1d4d8e2 8a7db9da 1d7bb3de 4c664941", "b4ef5bcb 3e92e211 23e951cf 6f8f188e",
		},
		{
			"ffffffff ffffffff ffffffff ffffffff", "e8e9e9e9 17161616 e8e9e9e9 17161616", "adaeae19 bab8b80f 525151e6 454747f0",
			"090e2277 b3b69a78 e1e7cb9e a4a08c6e", "e16abd3e 52dc2746 b33becd8 179b60b6", "e5baf3ce b766d488 045d3850 13c658e6",
			"71d07db3 c6b6a93b c2eb916b d12dc98d", "e90d208d 2fbb89b6 ed5018dd 3c7dd150", "96337366 b988fad0 54d8e20d 68a5335d",
			"8bf03f23 3278c5f3 66a027fe 0e0514a3", "d60a3588 e472f07b 82d2d785 8cd7c326",
		},
	}
	for _, rows := range known {
		got := aes.Expand(block(t, rows[0]))
		for r, row := range rows {
			same(t, "a round key of "+rows[0], got[r], block(t, row))
		}
	}
}

func TestA2AllRoundKeysByTheWords(t *testing.T) {
	m := newModel()
	for _, key := range edges() {
		same(t, "Expand", aes.Expand(key), m.expand(key))
	}
}

// column is one of the 44 columns of the round keys.
func column(keys [11][16]byte, i int) [4]byte { return [4]byte(keys[i/4][4*(i%4):]) }

func TestA2ColumnsBetweenMultiplesOf4(t *testing.T) {
	for _, key := range edges() {
		keys := aes.Expand(key)
		same(t, "round key 0", keys[0], key)
		for i := 4; i < 44; i++ {
			if i%4 == 0 {
				continue
			}
			a, b, c := column(keys, i-4), column(keys, i-1), column(keys, i)
			for k := range 4 {
				same(t, "a byte of a column", c[k], a[k]^b[k])
			}
		}
	}
}

func TestA2ColumnsAtMultiplesOf4(t *testing.T) {
	constants := [10]byte{1, 2, 4, 8, 0x10, 0x20, 0x40, 0x80, 0x1b, 0x36}
	for _, key := range edges() {
		keys := aes.Expand(key)
		for i := 4; i < 44; i += 4 {
			a, b, c := column(keys, i-4), column(keys, i-1), column(keys, i)
			same(t, "c", c[0]^a[0]^aes.Box(b[1]), constants[i/4-1])
			for k := 1; k < 4; k++ {
				same(t, "a byte of a column", c[k], a[k]^aes.Box(b[(k+1)%4]))
			}
		}
	}
}

// published are keys, blocks and what they are encrypted to, as published for this cipher.
func published(t *testing.T) [][3][16]byte {
	zeros, ones := strings.Repeat("00", 16), strings.Repeat("ff", 16)
	var list [][3][16]byte
	for _, x := range [][3]string{
		{"000102030405060708090a0b0c0d0e0f", "00112233445566778899aabbccddeeff", "69c4e0d86a7b0430d8cdb78070b4c55a"},
		{"2b7e151628aed2a6abf7158809cf4f3c", "3243f6a8885a308d313198a2e0370734", "3925841d02dc09fbdc118597196a0b32"},
		{"2b7e151628aed2a6abf7158809cf4f3c", "6bc1bee22e409f96e93d7e117393172a", "3ad77bb40d7a3660a89ecaf32466ef97"},
		{"2b7e151628aed2a6abf7158809cf4f3c", "ae2d8a571e03ac9c9eb76fac45af8e51", "f5d3d58503b9699de785895a96fdbaaf"},
		{zeros, zeros, "66e94bd4ef8a2c3b884cfa59ca342b2e"},
		{zeros, ones, "3f5b8cc9ea855a0afa7347d23e8d664e"},
		{ones, zeros, "a1f6258c877d5fcd8964484538bfc92c"},
		{ones, ones, "bcbf217cb280cf30b2517052193ab979"},
	} {
		list = append(list, [3][16]byte{block(t, x[0]), block(t, x[1]), block(t, x[2])})
	}
	return list
}

func TestA3PublishedBlocks(t *testing.T) {
	for _, x := range published(t) {
		same(t, "Encrypt", aes.Encrypt(x[0], x[1]), x[2])
	}
}

// Each block of edges is once the key and once what is encrypted.
func TestA3BlocksByTheWords(t *testing.T) {
	m, r := newModel(), draws(2)
	try := func(key, plain [16]byte) {
		want := m.encrypt(key, plain)
		same(t, "Encrypt", aes.Encrypt(key, plain), want)
		same(t, "Encrypt by the library", encryptedByLibrary(t, key, plain), want)
	}
	list := edges()
	for i, b := range list {
		try(b, filled(0))
		try(filled(0), b)
		try(b, filled(0xff))
		try(filled(0xff), b)
		try(b, b)
		try(b, list[(i+7)%len(list)])
	}
	for range 300 {
		try(r.block(), r.block())
	}
}

// What comes out goes in again, and changes the key: a fault anywhere is carried on to the end.
func TestA3Chain(t *testing.T) {
	key, got := filled(1), filled(2)
	want, wantKey := got, key
	for range 2000 {
		got, want = aes.Encrypt(key, got), encryptedByLibrary(t, wantKey, want)
		for i := range key {
			key[i] ^= got[i]
			wantKey[i] ^= want[i]
		}
	}
	same(t, "the end of the chain", got, want)
}

func TestA4PublishedBlocks(t *testing.T) {
	for _, x := range published(t) {
		same(t, "Decrypt", aes.Decrypt(x[0], x[2]), x[1])
	}
}

func TestA4BlocksByTheLibrary(t *testing.T) {
	list, r := edges(), draws(3)
	for range 300 {
		list = append(list, r.block())
	}
	for i, b := range list {
		for _, key := range [][16]byte{b, filled(0), filled(0xff), list[(i+5)%len(list)]} {
			c, err := library.NewCipher(key[:])
			if err != nil {
				t.Fatal(err)
			}
			var want [16]byte
			c.Decrypt(want[:], b[:])
			same(t, "Decrypt", aes.Decrypt(key, b), want)
		}
	}
}

func TestA5EachOthersInverse(t *testing.T) {
	list, r := edges(), draws(4)
	for range 300 {
		list = append(list, r.block())
	}
	for i, b := range list {
		for _, key := range [][16]byte{b, filled(0), filled(0xff), list[(i+3)%len(list)]} {
			same(t, "Decrypt of Encrypt", aes.Decrypt(key, aes.Encrypt(key, b)), b)
			same(t, "Encrypt of Decrypt", aes.Encrypt(key, aes.Decrypt(key, b)), b)
		}
	}
}

// unlike reports two blocks of a list that become the same one.
func unlike(t *testing.T, what string, list [][16]byte, become func([16]byte) [16]byte) {
	t.Helper()
	seen := map[[16]byte][16]byte{}
	for _, b := range list {
		c := become(b)
		if a, ok := seen[c]; ok && a != b {
			t.Errorf("%s: %x and %x both become %x", what, a, b, c)
		}
		seen[c] = b
	}
}

// Blocks that differ in one byte only, at each place, in one bit, or in many.
func TestA5UnlikeBlocks(t *testing.T) {
	r := draws(5)
	for _, key := range [][16]byte{filled(0), filled(0xff), r.block()} {
		list, first := edges(), r.block()
		for i := range 16 {
			for x := range 256 {
				b := first
				b[i] = byte(x)
				list = append(list, b)
			}
		}
		unlike(t, "Encrypt", list, func(b [16]byte) [16]byte { return aes.Encrypt(key, b) })
		unlike(t, "Decrypt", list, func(b [16]byte) [16]byte { return aes.Decrypt(key, b) })
	}
}

// The two places come into one column in the first round, so that their bytes are mixed with each other.
func TestA5AllBlocksOfTwoBytes(t *testing.T) {
	key := filled(0x5a)
	var list [][16]byte
	for i := range 1 << 16 {
		b := filled(0)
		b[0], b[5] = byte(i), byte(i>>8)
		list = append(list, b)
	}
	unlike(t, "Encrypt", list, func(b [16]byte) [16]byte { return aes.Encrypt(key, b) })
}

func TestR5WhatIsHandedInIsAsItWas(t *testing.T) {
	r := draws(6)
	for range 100 {
		key, plain := r.block(), r.block()
		givenKey, givenPlain := key, plain
		keys := aes.Expand(key)
		c := aes.Encrypt(key, plain)
		d := aes.Decrypt(key, plain)
		same(t, "the key", key, givenKey)
		same(t, "the block", plain, givenPlain)
		// Results that are changed by a caller don't show in later ones.
		for i := range 16 {
			keys[0][i]++
			keys[10][i]++
			c[i]++
			d[i]++
		}
		same(t, "Expand after a change", aes.Expand(key)[0], givenKey)
		same(t, "Encrypt after a change", aes.Encrypt(key, plain), encryptedByLibrary(t, key, plain))
		same(t, "the key", key, givenKey)
		same(t, "the block", plain, givenPlain)
	}
}

// A block may be its own key, and a result may stand where an argument stood.
func TestR5OneArrayForAll(t *testing.T) {
	b := filled(7)
	want := encryptedByLibrary(t, b, b)
	b = aes.Encrypt(b, b)
	same(t, "Encrypt", b, want)
	b = aes.Decrypt(filled(7), b)
	same(t, "Decrypt", b, filled(7))
}

func TestR6CallsDoNotDependOnEachOther(t *testing.T) {
	r := draws(7)
	key, plain := r.block(), r.block()
	keys, c, d := aes.Expand(key), aes.Encrypt(key, plain), aes.Decrypt(key, plain)
	for range 50 {
		aes.Times(r.byte(), r.byte())
		aes.Box(r.byte())
		aes.Expand(r.block())
		aes.Encrypt(r.block(), r.block())
		aes.Decrypt(r.block(), r.block())
		same(t, "Expand again", aes.Expand(key), keys)
		same(t, "Encrypt again", aes.Encrypt(key, plain), c)
		same(t, "Decrypt again", aes.Decrypt(key, plain), d)
	}
}

// Calls that run at one time don't disturb each other either.
func TestR6CallsAtOneTime(t *testing.T) {
	done := make(chan bool)
	for n := range 8 {
		go func() {
			r, ok := draws(100+n), true
			for range 100 {
				key, plain := r.block(), r.block()
				c := aes.Encrypt(key, plain)
				ok = ok && aes.Decrypt(key, c) == plain
			}
			done <- ok
		}()
	}
	for range 8 {
		if !<-done {
			t.Error("a block didn't come back")
		}
	}
}

// The chapter's examples, line by line.
func TestExamples(t *testing.T) {
	same(t, "Times(0x57, 0x83)", aes.Times(0x57, 0x83), 0xc1)
	same(t, "Box(0)", aes.Box(0), 0x63)
	same(t, "Box(0x53)", aes.Box(0x53), 0xed)
	var key, plain [16]byte
	for i := range key {
		key[i], plain[i] = byte(i), byte(0x11*i)
	}
	same(t, "Encrypt(00 01 .., 00 11 ..)", aes.Encrypt(key, plain), block(t, "69 c4 e0 d8 6a 7b 04 30 d8 cd b7 80 70 b4 c5 5a"))
	keys := aes.Expand(block(t, "2b 7e 15 16 28 ae d2 a6 ab f7 15 88 09 cf 4f 3c"))
	same(t, "Expand(2b 7e ..), round key 1", keys[1], block(t, "a0 fa fe 17 88 54 2c b1 23 a3 39 39 2a 6c 76 05"))
}

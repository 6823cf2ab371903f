package seal_test

import (
	"crypto/aes"
	"crypto/cipher"
	"crypto/hmac"
	"crypto/sha256"
	"encoding/binary"
	"math"
	"strings"
	"testing"

	"palatine/api"
	"palatine/seal"
)

// draws is a fixed sequence of numbers, the same in every run.
type draws uint64

func (r *draws) next() uint32 {
	*r = *r*6364136223846793005 + 1442695040888963407
	return uint32(*r >> 32)
}

func (r *draws) below(n int) int { return int(r.next() % uint32(n)) }

func (r *draws) number() uint64 { return uint64(r.next())<<32 | uint64(r.next()) }

func (r *draws) text(n int) string {
	b := make([]byte, n)
	for i := range b {
		b[i] = byte(r.next())
	}
	return string(b)
}

// keys returns so many drawn keys.
func (r *draws) keys(n int) []string {
	list := make([]string, n)
	for i := range list {
		list[i] = r.text(32)
	}
	return list
}

// nonces are the edges of a nonce's bytes.
func nonces() []uint64 {
	return []uint64{0, 1, 7, 255, 256, 1 << 31, 1 << 32, 0x0123456789abcdef, 0xfedcba9876543210, 1 << 63, math.MaxUint64 - 1, math.MaxUint64}
}

// lengths are the edges of a plain text's bytes: around blocks, and the longest.
func lengths() []int {
	return []int{0, 1, 2, 15, 16, 17, 31, 32, 33, 191, 192, 193, 199, 200}
}

// numbers are tenants that a sealer of n tenants does not have.
func numbers(n int) []int {
	return []int{n, n + 1, -1, -n, 16, 17, 256, 1 << 32, math.MaxInt, math.MinInt}
}

func zeros(n int) string { return strings.Repeat("\x00", n) }

// nonceByLibrary is the bytes of a nonce.
func nonceByLibrary(nonce uint64) string {
	return string(binary.BigEndian.AppendUint64(nil, nonce))
}

// combinedByLibrary is a text combined with the stream, which the library knows as the counter mode that begins at the nonce and eight zero bytes.
func combinedByLibrary(key string, nonce, text string) string {
	c, err := aes.NewCipher([]byte(key[:16]))
	if err != nil {
		panic(err)
	}
	b := []byte(text)
	cipher.NewCTR(c, []byte(nonce+zeros(8))).XORKeyStream(b, b)
	return string(b)
}

// tagged is any parts with the right tag behind them.
func tagged(key string, tenant int, parts string) string {
	h := hmac.New(sha256.New, []byte(key[16:]))
	h.Write([]byte{byte(tenant)})
	h.Write([]byte(parts))
	return parts + string(h.Sum(nil)[:16])
}

// sealedByLibrary is X2 by another program.
func sealedByLibrary(key string, tenant int, nonce uint64, plain string) string {
	n := nonceByLibrary(nonce)
	return tagged(key, tenant, n+combinedByLibrary(key, n, plain))
}

// idealByWords is X4's sealed text of a plain text with so many bytes.
func idealByWords(tenant int, nonce uint64, length int) string {
	return nonceByLibrary(nonce) + zeros(length) + string([]byte{byte(tenant)}) + zeros(15)
}

func newBox(t *testing.T, keys ...string) *seal.Box {
	t.Helper()
	b, e := seal.New(keys...)
	if b == nil || e != api.OK {
		t.Fatalf("New of %d keys: %v", len(keys), e)
	}
	return b
}

func newIdeal(t *testing.T, tenants int) *seal.Ideal {
	t.Helper()
	x, e := seal.NewIdeal(tenants)
	if x == nil || e != api.OK {
		t.Fatalf("NewIdeal of %d: %v", tenants, e)
	}
	return x
}

// checkSeal holds what a sealer seals against what is wanted; beside an error that is no text.
func checkSeal(t *testing.T, s seal.Sealer, tenant int, nonce uint64, plain, want string, wanted api.Errno) {
	t.Helper()
	if got, e := s.Seal(tenant, nonce, plain); got != want || e != wanted {
		t.Errorf("Seal(%d, %x, %d bytes): got %x, %v, want %x, %v", tenant, nonce, len(plain), got, e, want, wanted)
	}
}

// checkOpen does the same for what it opens.
func checkOpen(t *testing.T, s seal.Sealer, tenant int, sealed, want string, wanted api.Errno) {
	t.Helper()
	if got, e := s.Open(tenant, sealed); got != want || e != wanted {
		t.Errorf("Open(%d, %x): got %x, %v, want %x, %v", tenant, sealed, got, e, want, wanted)
	}
}

// sealedBy is what a sealer makes of a value that it must take.
func sealedBy(t *testing.T, s seal.Sealer, tenant int, nonce uint64, plain string) string {
	t.Helper()
	sealed, e := s.Seal(tenant, nonce, plain)
	if e != api.OK || len(sealed) != seal.Long(len(plain)) {
		t.Fatalf("Seal(%d, %x, %d bytes): %d bytes, %v", tenant, nonce, len(plain), len(sealed), e)
	}
	return sealed
}

// with is a text with another byte at one place.
func with(text string, i int, b byte) string { return text[:i] + string([]byte{b}) + text[i+1:] }

package seal_test

import (
	"encoding/hex"
	"testing"

	"palatine/api"
)

const (
	letters = "0123456789abcdefghijklmnopqrstuv"
	turned  = "vutsrqponmlkjihgfedcba9876543210"
)

func TestX2Examples(t *testing.T) {
	b := newBox(t, letters)
	sealed := sealedBy(t, b, 0, 7, "ab")
	if len(sealed) != 26 || sealed[:8] != zeros(7)+"\x07" {
		t.Errorf("Seal(0, 7, \"ab\"): %x", sealed)
	}
	checkOpen(t, b, 0, sealed, "ab", api.OK)
	checkOpen(t, b, 1, sealed, "", api.ErrTenant)
	checkOpen(t, b, 0, with(sealed, 9, sealed[9]^1), "", api.ErrSeal)
}

// Texts that the programs of OpenSSL made: its counter mode, and its authentication codes.
func TestX2TextsByAnotherProgram(t *testing.T) {
	keys := make([]string, 16)
	for i := range keys {
		keys[i] = letters
	}
	keys[15] = turned
	b := newBox(t, keys...)
	for _, x := range []struct {
		tenant       int
		nonce        uint64
		plain, wants string
	}{
		{0, 7, "ab", "0000000000000007ef2bd6e0cfb27278781d48f5474931829efe"},
		{0, 7, "", "000000000000000702a19638726a762fdd21232f7259c031"},
		{1, 7, "ab", "0000000000000007ef2bf402c1eae816ad6e60503844617c0ff8"},
		{15, 0xfedcba9876543210, "The quick brown fox jumps over the lazy dog", "fedcba9876543210a7eb569c0848a32c8843ebc836a4134d22260e9bb314d14e12634ee8d9e6c2de5c53ebb34fbbf751eea72aa90f92ca78f7678e12b7363075f4b184"},
		{15, 0xffffffffffffffff, "0123456789abcdef0", "ffffffffffffffffe2e966e4006fe88d97ad2b956aa925cb0caadcdfc7654598ee07b65580e494b5d6"},
	} {
		want, err := hex.DecodeString(x.wants)
		if err != nil {
			t.Fatal(err)
		}
		checkSeal(t, b, x.tenant, x.nonce, x.plain, string(want), api.OK)
		checkOpen(t, b, x.tenant, string(want), x.plain, api.OK)
	}
}

func TestX2AllLengthsByTheLibrary(t *testing.T) {
	r := draws(20)
	keys := r.keys(16)
	b := newBox(t, keys...)
	for n := range 201 {
		tenant, nonce, plain := n%16, r.number(), r.text(n)
		checkSeal(t, b, tenant, nonce, plain, sealedByLibrary(keys[tenant], tenant, nonce, plain), api.OK)
		checkSeal(t, b, tenant, nonce, zeros(n), sealedByLibrary(keys[tenant], tenant, nonce, zeros(n)), api.OK)
	}
}

func TestX2EdgesByTheLibrary(t *testing.T) {
	r := draws(21)
	keys := append(r.keys(13), zeros(32), letters, string([]byte{31: 0xff}))
	b := newBox(t, keys...)
	for tenant, key := range keys {
		for _, nonce := range nonces() {
			plain := r.text(lengths()[r.below(len(lengths()))])
			checkSeal(t, b, tenant, nonce, plain, sealedByLibrary(key, tenant, nonce, plain), api.OK)
		}
	}
	for _, nonce := range nonces() {
		for _, n := range lengths() {
			plain := r.text(n)
			checkSeal(t, b, 15, nonce, plain, sealedByLibrary(keys[15], 15, nonce, plain), api.OK)
		}
	}
}

// Unlike the ideal sealer, the real one does not look back.
func TestX2OneNonceManyTimes(t *testing.T) {
	b := newBox(t, letters)
	for _, plain := range []string{"ab", "ab", "c", "", "ab"} {
		want := sealedByLibrary(letters, 0, 7, plain)
		checkSeal(t, b, 0, 7, plain, want, api.OK)
		checkOpen(t, b, 0, want, plain, api.OK)
	}
}

// Tenants with one key differ in their tags, and in nothing else.
func TestX2TenantsWithOneKey(t *testing.T) {
	keys := make([]string, 16)
	for i := range keys {
		keys[i] = letters
	}
	b, seen := newBox(t, keys...), map[string]int{}
	for tenant := range keys {
		sealed := sealedBy(t, b, tenant, 7, "some plain text of two blocks")
		if sealed[:8+29] != sealedBy(t, b, 0, 7, "some plain text of two blocks")[:8+29] {
			t.Errorf("tenant %d has other first parts than tenant 0", tenant)
		}
		if other, ok := seen[sealed]; ok {
			t.Errorf("tenants %d and %d seal the same", tenant, other)
		}
		seen[sealed] = tenant
	}
}

func TestX2Errors(t *testing.T) {
	r := draws(22)
	b := newBox(t, r.keys(3)...)
	for _, n := range []int{201, 202, 224, 225, 256, 456, 1 << 16} {
		checkSeal(t, b, 2, 7, r.text(n), "", api.ErrLong)
		for _, tenant := range numbers(3) {
			checkSeal(t, b, tenant, 7, r.text(n), "", api.ErrTenant)
		}
	}
	for _, tenant := range numbers(3) {
		checkSeal(t, b, tenant, 7, "", "", api.ErrTenant)
		checkSeal(t, b, tenant, 7, r.text(200), "", api.ErrTenant)
	}
}

func TestX3NoSuchTenant(t *testing.T) {
	b := newBox(t, letters)
	for _, tenant := range numbers(1) {
		for _, n := range []int{0, 23, 24, 26, 224, 225} {
			checkOpen(t, b, tenant, zeros(n), "", api.ErrTenant)
		}
		checkOpen(t, b, tenant, sealedByLibrary(letters, tenant, 7, "ab"), "", api.ErrTenant)
		checkOpen(t, b, tenant, tagged(letters, tenant, zeros(300)), "", api.ErrTenant)
	}
}

// Texts of all lengths with the right tag: too short, as Seal makes them, and too long.
func TestX3LengthsWithTheRightTag(t *testing.T) {
	r := draws(23)
	keys := r.keys(2)
	b := newBox(t, keys...)
	for n := range 300 {
		parts := r.text(n)
		sealed := tagged(keys[1], 1, parts)
		switch {
		case len(sealed) < 24:
			checkOpen(t, b, 1, sealed, "", api.ErrSeal)
		case len(sealed) > 224:
			checkOpen(t, b, 1, sealed, "", api.ErrLong)
		default:
			plain := combinedByLibrary(keys[1], parts[:8], parts[8:])
			checkOpen(t, b, 1, sealed, plain, api.OK)
		}
	}
	checkOpen(t, b, 1, tagged(keys[1], 1, r.text(1<<16)), "", api.ErrLong)
}

func TestX3LengthsWithAWrongTag(t *testing.T) {
	r := draws(24)
	keys := r.keys(2)
	b := newBox(t, keys...)
	for n := range 300 {
		sealed := tagged(keys[1], 1, r.text(n))
		checkOpen(t, b, 0, sealed, "", api.ErrSeal)
		checkOpen(t, b, 1, zeros(n), "", api.ErrSeal)
		checkOpen(t, b, 1, r.text(n), "", api.ErrSeal)
		last := len(sealed) - 1
		checkOpen(t, b, 1, with(sealed, last, sealed[last]^0x80), "", api.ErrSeal)
	}
	checkOpen(t, b, 1, r.text(1<<16), "", api.ErrSeal)
}

func TestX3EachBitChanged(t *testing.T) {
	r := draws(25)
	b := newBox(t, r.keys(16)...)
	for i, n := range []int{0, 1, 15, 16, 17, 100, 200} {
		tenant := i % 16
		sealed := sealedBy(t, b, tenant, r.number(), r.text(n))
		for place := range len(sealed) {
			for bit := range 8 {
				checkOpen(t, b, tenant, with(sealed, place, sealed[place]^1<<bit), "", api.ErrSeal)
			}
		}
	}
}

func TestX3EachByteWithEachOther(t *testing.T) {
	b := newBox(t, letters)
	sealed := sealedBy(t, b, 0, 7, "ab")
	for place := range len(sealed) {
		for value := range 256 {
			if byte(value) == sealed[place] {
				checkOpen(t, b, 0, sealed, "ab", api.OK)
			} else {
				checkOpen(t, b, 0, with(sealed, place, byte(value)), "", api.ErrSeal)
			}
		}
	}
}

func TestX3PiecesAndAdditions(t *testing.T) {
	r := draws(26)
	b := newBox(t, letters)
	for _, n := range lengths() {
		plain := r.text(n)
		sealed := sealedBy(t, b, 0, 7, plain)
		for i := range len(sealed) {
			checkOpen(t, b, 0, sealed[:i], "", api.ErrSeal)
			checkOpen(t, b, 0, sealed[len(sealed)-i:], "", api.ErrSeal)
			checkOpen(t, b, 0, sealed[:i]+"\x00"+sealed[i:], "", api.ErrSeal)
			checkOpen(t, b, 0, sealed[:i]+sealed[i+1:], "", api.ErrSeal)
		}
		checkOpen(t, b, 0, sealed+"\x00", "", api.ErrSeal)
		checkOpen(t, b, 0, sealed+sealed, "", api.ErrSeal)
		checkOpen(t, b, 0, sealed, plain, api.OK)
	}
}

// Parts of several sealed texts don't make another one.
func TestX3PartsOfOthers(t *testing.T) {
	b := newBox(t, letters, turned)
	x, y := sealedBy(t, b, 0, 7, "one text"), sealedBy(t, b, 0, 8, "two text")
	checkOpen(t, b, 0, x[:8]+y[8:], "", api.ErrSeal)
	checkOpen(t, b, 0, x[:16]+y[16:], "", api.ErrSeal)
	checkOpen(t, b, 0, y[:8]+x[8:16]+y[16:], "", api.ErrSeal)
	checkOpen(t, b, 0, x[:8]+y[8:16]+x[16:], "", api.ErrSeal)
	checkOpen(t, b, 1, x, "", api.ErrSeal)
	checkOpen(t, b, 1, tagged(turned, 0, x[:16]), "", api.ErrSeal)
}

// What was sealed by another box is opened if tenant and key are the same ones; the tag alone decides that.
func TestX3OtherBoxes(t *testing.T) {
	sealed := sealedBy(t, newBox(t, letters), 0, 7, "ab")
	checkOpen(t, newBox(t, letters, turned), 0, sealed, "ab", api.OK)
	checkOpen(t, newBox(t, turned, letters), 1, sealed, "", api.ErrSeal)
	checkOpen(t, newBox(t, turned), 0, sealed, "", api.ErrSeal)
	checkOpen(t, newBox(t, letters[:31]+"w"), 0, sealed, "", api.ErrSeal)
	checkOpen(t, newBox(t, letters[:16]+"w"+letters[17:]), 0, sealed, "", api.ErrSeal)
	other := "w" + letters[1:]
	plain := combinedByLibrary(other, sealed[:8], sealed[8:10])
	checkOpen(t, newBox(t, other), 0, sealed, plain, api.OK)
	checkSeal(t, newBox(t, other), 0, 7, plain, sealed, api.OK)
}

package seal_test

import (
	"math"
	"slices"
	"testing"

	"palatine/api"
	"palatine/seal"
)

// checkTenants sees that a sealer has the tenants from 0 to n - 1 and no others.
func checkTenants(t *testing.T, s seal.Sealer, n int) {
	t.Helper()
	for tenant := range n {
		checkOpen(t, s, tenant, sealedBy(t, s, tenant, 1, "x"), "x", api.OK)
	}
	for _, tenant := range numbers(n) {
		if tenant >= 0 && tenant < n {
			continue
		}
		checkSeal(t, s, tenant, 1, "x", "", api.ErrTenant)
		checkOpen(t, s, tenant, idealByWords(tenant, 1, 1), "", api.ErrTenant)
	}
}

func TestX1AsManyTenantsAsKeys(t *testing.T) {
	r := draws(1)
	for n := range 17 {
		checkTenants(t, newBox(t, r.keys(n)...), n)
	}
	for _, none := range [][]string{nil, {}} {
		checkTenants(t, newBox(t, none...), 0)
	}
}

func TestX1TooManyKeys(t *testing.T) {
	r := draws(2)
	for _, n := range []int{17, 18, 32, 256, 300} {
		keys := r.keys(n)
		if b, e := seal.New(keys...); b != nil || e != api.ErrArg {
			t.Errorf("New of %d keys: %v, %v", n, b, e)
		}
		keys[3] = "short"
		if b, e := seal.New(keys...); b != nil || e != api.ErrArg {
			t.Errorf("New of %d keys of which one is short: %v, %v", n, b, e)
		}
	}
}

func TestX1KeysOfAllLengths(t *testing.T) {
	r := draws(3)
	for n := range 70 {
		b, e := seal.New(r.text(n))
		if want := n == 32; (b != nil) != want || (e == api.OK) != want || !want && e != api.ErrArg {
			t.Errorf("New of a key of %d bytes: %v, %v", n, b, e)
		}
	}
	for _, n := range []int{256 + 32, 1 << 16, 1<<16 + 32} {
		if b, e := seal.New(r.text(n)); b != nil || e != api.ErrArg {
			t.Errorf("New of a key of %d bytes: %v, %v", n, b, e)
		}
	}
}

// A wrong key is seen wherever it stands among right ones.
func TestX1AWrongKeyAmongOthers(t *testing.T) {
	r := draws(4)
	for n := 1; n <= 16; n++ {
		for place := range n {
			for _, length := range []int{0, 16, 31, 33, 64} {
				keys := r.keys(n)
				keys[place] = r.text(length)
				if b, e := seal.New(keys...); b != nil || e != api.ErrArg {
					t.Errorf("New of %d keys of which key %d has %d bytes: %v, %v", n, place, length, b, e)
				}
			}
		}
	}
}

func TestX1IdealTenants(t *testing.T) {
	for n := range 17 {
		checkTenants(t, newIdeal(t, n), n)
	}
	for _, n := range []int{-1, -2, -16, 17, 18, 256, 1 << 32, 1<<32 + 1, math.MaxInt, math.MinInt} {
		if x, e := seal.NewIdeal(n); x != nil || e != api.ErrArg {
			t.Errorf("NewIdeal(%d): %v, %v", n, x, e)
		}
	}
}

func TestX1ANewIdealHasSealedNothing(t *testing.T) {
	old := newIdeal(t, 16)
	for n := range 17 {
		x := newIdeal(t, n)
		for tenant := range n {
			for _, nonce := range nonces() {
				for _, length := range lengths() {
					checkOpen(t, x, tenant, idealByWords(tenant, nonce, length), "", api.ErrSeal)
				}
				old.Seal(tenant, nonce, "of another sealer")
				checkOpen(t, x, tenant, idealByWords(tenant, nonce, 17), "", api.ErrSeal)
				checkSeal(t, x, tenant, nonce, "", idealByWords(tenant, nonce, 0), api.OK)
			}
		}
	}
}

func TestX1Long(t *testing.T) {
	for _, n := range []int{0, 1, 2, 15, 16, 17, 200, 201, 1 << 40, -1, -24, -25, math.MaxInt - 24, math.MinInt} {
		if got := seal.Long(n); got != n+24 {
			t.Errorf("Long(%d): got %d", n, got)
		}
	}
}

func TestX1Examples(t *testing.T) {
	if b, e := seal.New("short"); b != nil || e != api.ErrArg {
		t.Errorf("New of a short key: %v, %v", b, e)
	}
	if x, e := seal.NewIdeal(17); x != nil || e != api.ErrArg {
		t.Errorf("NewIdeal(17): %v, %v", x, e)
	}
	if n := seal.Long(2); n != 26 {
		t.Errorf("Long(2): %d", n)
	}
}

// both are the two sealers, as the interface that they are.
func both(t *testing.T, r *draws, tenants int) []seal.Sealer {
	return []seal.Sealer{newBox(t, r.keys(tenants)...), newIdeal(t, tenants)}
}

func TestX5AllLengthsAndTenants(t *testing.T) {
	r := draws(5)
	for _, s := range both(t, &r, 16) {
		for n := range 201 {
			tenant, plain, nonce := n%16, r.text(n), r.number()
			sealed := sealedBy(t, s, tenant, nonce, plain)
			for range 2 {
				checkOpen(t, s, tenant, sealed, plain, api.OK)
			}
			for other := range 16 {
				if other != tenant {
					checkOpen(t, s, other, sealed, "", api.ErrSeal)
				}
			}
		}
	}
}

func TestX5PlainTextsThatLookLikeOthers(t *testing.T) {
	r := draws(6)
	for _, s := range both(t, &r, 2) {
		for i, plain := range []string{"", "\x00", zeros(24), zeros(200), "\x00a", "a\x00", "\xff\xfe", "\u00e9\u4e16", "\xc3\x28", idealByWords(0, 3, 9), idealByWords(1, 3, 176)} {
			sealed := sealedBy(t, s, 1, uint64(i), plain)
			checkOpen(t, s, 1, sealed, plain, api.OK)
			if len(sealed) <= 200 {
				checkOpen(t, s, 0, sealedBy(t, s, 0, uint64(i), sealed), sealed, api.OK)
			}
		}
	}
}

func TestX5TheIdealTellsOfALengthAlone(t *testing.T) {
	r := draws(7)
	for _, n := range lengths() {
		for _, nonce := range nonces() {
			for tenant := range 3 {
				first, second := newIdeal(t, 3), newIdeal(t, 3)
				second.Seal(tenant, nonce+1, "something else")
				second.Seal(tenant, nonce+1, "something else")
				a, b := sealedBy(t, first, tenant, nonce, r.text(n)), sealedBy(t, second, tenant, nonce, zeros(n))
				if a != b {
					t.Errorf("plain texts of %d bytes are sealed as %x and as %x", n, a, b)
				}
			}
		}
	}
}

// sealing is what one call of Seal was given, and what it made of it.
type sealing struct {
	tenant        int
	plain, sealed string
}

// Values that were sealed are opened later, in any order, with failing calls between.
func TestX5DrawnMixtures(t *testing.T) {
	r := draws(8)
	for _, s := range both(t, &r, 5) {
		var done []sealing
		for step := range 1500 {
			tenant, plain := r.below(5), r.text(r.below(201))
			switch r.below(3) {
			case 0:
				done = append(done, sealing{tenant, plain, sealedBy(t, s, tenant, uint64(step), plain)})
			case 1:
				checkSeal(t, s, 5+r.below(9), uint64(step), plain, "", api.ErrTenant)
				checkSeal(t, s, tenant, uint64(step), plain+zeros(201), "", api.ErrLong)
				checkOpen(t, s, tenant, plain, "", api.ErrSeal)
			case 2:
				if len(done) > 0 {
					x := done[r.below(len(done))]
					checkOpen(t, s, x.tenant, x.sealed, x.plain, api.OK)
				}
			}
		}
		for _, x := range done {
			checkOpen(t, s, x.tenant, x.sealed, x.plain, api.OK)
		}
	}
}

// The keys are a list of the caller's, who may change it at once.
func TestR5TheListOfKeysIsNotKept(t *testing.T) {
	r := draws(9)
	keys := r.keys(16)
	was := slices.Clone(keys)
	b := newBox(t, keys...)
	if !slices.Equal(keys, was) {
		t.Error("New has changed the keys")
	}
	clear(keys)
	for tenant, key := range was {
		sealed := sealedByLibrary(key, tenant, 7, "ab")
		checkSeal(t, b, tenant, 7, "ab", sealed, api.OK)
		checkOpen(t, b, tenant, sealed, "ab", api.OK)
	}
}

func TestR6SealersDoNotDependOnEachOther(t *testing.T) {
	r := draws(10)
	keys := r.keys(2)
	a, b, x, y := newBox(t, keys...), newBox(t, keys[1], keys[0]), newIdeal(t, 2), newIdeal(t, 2)
	for nonce := range uint64(30) {
		first, second := r.text(int(nonce)), r.text(int(nonce)+1)
		checkSeal(t, a, 0, nonce, first, sealedByLibrary(keys[0], 0, nonce, first), api.OK)
		checkSeal(t, b, 0, nonce, first, sealedByLibrary(keys[1], 0, nonce, first), api.OK)
		inX, inY := sealedBy(t, x, 0, nonce, first), sealedBy(t, y, 0, nonce, second)
		checkOpen(t, x, 0, inX, first, api.OK)
		checkOpen(t, y, 0, inY, second, api.OK)
		checkOpen(t, x, 0, inY, "", api.ErrSeal)
		checkOpen(t, y, 0, inX, "", api.ErrSeal)
	}
}

// Two sealers that were given the same calls answer the same.
func TestR6TheSameCallsHaveTheSameResults(t *testing.T) {
	var logs [2][]string
	for i := range logs {
		r := draws(11)
		for _, s := range both(t, &r, 3) {
			for range 300 {
				sealed, e := s.Seal(r.below(4), uint64(r.below(40)), r.text(r.below(210)))
				plain, f := s.Open(r.below(4), sealed)
				logs[i] = append(logs[i], sealed, e.Error(), plain, f.Error())
			}
		}
	}
	if !slices.Equal(logs[0], logs[1]) {
		t.Error("the same calls have other results")
	}
}

package seal_test

import (
	"testing"

	"palatine/api"
)

func TestX4Examples(t *testing.T) {
	x := newIdeal(t, 1)
	sealed := zeros(7) + "\x07" + zeros(2) + "\x00" + zeros(15)
	checkSeal(t, x, 0, 7, "ab", sealed, api.OK)
	checkSeal(t, x, 0, 7, "c", "", api.ErrSeal)
	checkOpen(t, x, 0, sealed, "ab", api.OK)
}

func TestX4AllLengths(t *testing.T) {
	r := draws(30)
	x := newIdeal(t, 16)
	for n := range 201 {
		tenant, nonce, plain := n%16, r.number(), r.text(n)
		checkSeal(t, x, tenant, nonce, plain, idealByWords(tenant, nonce, n), api.OK)
		checkOpen(t, x, tenant, idealByWords(tenant, nonce, n), plain, api.OK)
	}
}

func TestX4EdgesOfNonces(t *testing.T) {
	x := newIdeal(t, 16)
	for tenant := range 16 {
		for i, nonce := range nonces() {
			checkSeal(t, x, tenant, nonce, zeros(i), idealByWords(tenant, nonce, i), api.OK)
		}
		for i, nonce := range nonces() {
			checkOpen(t, x, tenant, idealByWords(tenant, nonce, i), zeros(i), api.OK)
			checkSeal(t, x, tenant, nonce, zeros(i), "", api.ErrSeal)
		}
	}
}

// A nonce is used up whatever was sealed with it, an empty text too, and for its tenant alone.
func TestX4OneNonceTwice(t *testing.T) {
	for _, first := range []string{"", "ab", zeros(200)} {
		x := newIdeal(t, 3)
		for tenant := range 3 {
			checkSeal(t, x, tenant, 7, first, idealByWords(tenant, 7, len(first)), api.OK)
			for _, second := range []string{"", "ab", "c", first, zeros(200)} {
				checkSeal(t, x, tenant, 7, second, "", api.ErrSeal)
				checkOpen(t, x, tenant, idealByWords(tenant, 7, len(first)), first, api.OK)
				if len(second) != len(first) {
					checkOpen(t, x, tenant, idealByWords(tenant, 7, len(second)), "", api.ErrSeal)
				}
			}
			checkSeal(t, x, tenant, 8, "c", idealByWords(tenant, 8, 1), api.OK)
		}
	}
}

// With an error nothing is remembered, so the nonce is free still.
func TestX4ErrorsRememberNothing(t *testing.T) {
	r := draws(31)
	for _, n := range []int{201, 202, 224, 225, 256, 1 << 16} {
		x := newIdeal(t, 2)
		checkSeal(t, x, 0, 7, r.text(n), "", api.ErrLong)
		checkOpen(t, x, 0, idealByWords(0, 7, n), "", api.ErrSeal)
		for _, tenant := range numbers(2) {
			checkSeal(t, x, tenant, 7, r.text(n), "", api.ErrTenant)
			checkSeal(t, x, tenant, 7, "ab", "", api.ErrTenant)
			checkOpen(t, x, tenant, idealByWords(tenant, 7, 2), "", api.ErrTenant)
		}
		checkSeal(t, x, 0, 7, "ab", idealByWords(0, 7, 2), api.OK)
		checkSeal(t, x, 1, 7, "ab", idealByWords(1, 7, 2), api.OK)
		checkSeal(t, x, 0, 7, r.text(n), "", api.ErrLong)
		checkOpen(t, x, 0, idealByWords(0, 7, 2), "ab", api.OK)
	}
}

// A text that is too long for the real sealer is no result of Seal, and nothing else.
func TestX4WhatWasNotSealed(t *testing.T) {
	r := draws(32)
	x := newIdeal(t, 2)
	sealedBy(t, x, 0, 7, "ab")
	sealedBy(t, x, 0, 0, "")
	for n := range 300 {
		checkOpen(t, x, 0, r.text(n), "", api.ErrSeal)
		checkOpen(t, x, 1, zeros(n), "", api.ErrSeal)
		checkOpen(t, x, 1, idealByWords(1, 7, n), "", api.ErrSeal)
		checkOpen(t, x, 0, idealByWords(0, 8, n), "", api.ErrSeal)
		checkOpen(t, x, 0, idealByWords(1, 7, n), "", api.ErrSeal)
		if n != 2 {
			checkOpen(t, x, 0, idealByWords(0, 7, n), "", api.ErrSeal)
		}
		if n != 24 {
			checkOpen(t, x, 0, zeros(n), "", api.ErrSeal)
		}
	}
	checkOpen(t, x, 0, zeros(24), "", api.OK)
	checkOpen(t, x, 0, idealByWords(0, 7, 1<<16), "", api.ErrSeal)
}

func TestX4EachByteChanged(t *testing.T) {
	r := draws(33)
	for tenant, n := range []int{0, 1, 15, 16, 17, 200} {
		x := newIdeal(t, 16)
		plain := r.text(n)
		sealed := sealedBy(t, x, tenant, 0x0102030405060708, plain)
		for place := range len(sealed) {
			for change := 1; change < 256; change++ {
				checkOpen(t, x, tenant, with(sealed, place, sealed[place]^byte(change)), "", api.ErrSeal)
			}
			checkOpen(t, x, tenant, sealed[:place], "", api.ErrSeal)
			checkOpen(t, x, tenant, sealed[place+1:], "", api.ErrSeal)
		}
		checkOpen(t, x, tenant, sealed+"\x00", "", api.ErrSeal)
		checkOpen(t, x, tenant, sealed, plain, api.OK)
	}
}

// The texts of tenants that sealed as many bytes with one nonce differ in one byte alone, and none opens another's.
func TestX4TenantsHaveTheirOwn(t *testing.T) {
	x := newIdeal(t, 16)
	for tenant := range 16 {
		plain := string([]byte{'a' + byte(tenant), 'x'})
		checkSeal(t, x, tenant, 7, plain, idealByWords(tenant, 7, 2), api.OK)
	}
	for tenant := range 16 {
		plain := string([]byte{'a' + byte(tenant), 'x'})
		for of := range 16 {
			if of == tenant {
				checkOpen(t, x, tenant, idealByWords(of, 7, 2), plain, api.OK)
			} else {
				checkOpen(t, x, tenant, idealByWords(of, 7, 2), "", api.ErrSeal)
			}
		}
	}
}

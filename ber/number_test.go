package ber_test

import (
	"encoding/asn1"
	"math"
	"testing"

	"palatine/ber"
)

// intByLibrary is the contents of a number's element as another program makes them.
func intByLibrary(n int) string {
	b, err := asn1.Marshal(n)
	if err != nil {
		panic(err)
	}
	return string(b[2:])
}

// around are the numbers about each power of two, and the outermost ones.
func around() []int {
	list := []int{math.MinInt, math.MinInt + 1, math.MaxInt - 1, math.MaxInt}
	for bit := range 63 {
		for i := -3; i <= 3; i++ {
			list = append(list, 1<<bit+i, -1<<bit+i)
		}
	}
	return list
}

// numberByWords is B4: what the bytes stand for, if there are as few of them as can be.
func numberByWords(body string) (int, bool) {
	if len(body) < 1 || len(body) > 4 {
		return 0, false
	}
	n, limit := 0, 1
	for i := range len(body) {
		n = 256*n + int(body[i])
		limit *= 256
	}
	if n >= limit/2 {
		n -= limit
	}
	if least := limit / 512; len(body) > 1 && n < least && n >= -least {
		return 0, false
	}
	return n, true
}

func checkInt(t *testing.T, n int) {
	t.Helper()
	s := ber.Int(n)
	if want := intByLibrary(n); s != want {
		t.Errorf("Int(%d): got %x, want %x", n, s, want)
	}
	want, wanted := n, len(s) <= 4
	if !wanted {
		want = 0
	}
	if got, ok := ber.Number(s); got != want || ok != wanted {
		t.Errorf("Number(%x): got %d, %v, want %d, %v", s, got, ok, want, wanted)
	}
}

func checkNumber(t *testing.T, body string) {
	t.Helper()
	want, wanted := numberByWords(body)
	if got, ok := ber.Number(body); got != want || ok != wanted {
		t.Errorf("Number(%x): got %d, %v, want %d, %v", body, got, ok, want, wanted)
	}
}

func TestB4Examples(t *testing.T) {
	for n, want := range map[int]string{0: "\x00", 127: "\x7f", 128: "\x00\x80", -1: "\xff", -129: "\xff\x7f"} {
		if s := ber.Int(n); s != want {
			t.Errorf("Int(%d): %x", n, s)
		}
	}
	if n, ok := ber.Number("\x00\x80"); n != 128 || !ok {
		t.Errorf("Number(00 80): %d, %v", n, ok)
	}
	for _, body := range []string{"\x00\x7f", ""} {
		if n, ok := ber.Number(body); n != 0 || ok {
			t.Errorf("Number(%x): %d, %v", body, n, ok)
		}
	}
}

func TestB4Int(t *testing.T) {
	for n := -70000; n <= 70000; n++ {
		checkInt(t, n)
	}
	for _, n := range around() {
		checkInt(t, n)
	}
	r := draws(20)
	for range 20000 {
		checkInt(t, int(uint64(r.next())<<32|uint64(r.next()))>>r.below(64))
	}
}

func TestB4NumberOfAllBytes(t *testing.T) {
	checkNumber(t, "")
	low := []byte{0, 1, 0x7f, 0x80, 0xff}
	for i := range 1 << 16 {
		a, b := byte(i>>8), byte(i)
		checkNumber(t, string([]byte{b}))
		checkNumber(t, string([]byte{a, b}))
		for _, c := range low {
			checkNumber(t, string([]byte{a, b, c}))
			for _, d := range low {
				checkNumber(t, string([]byte{a, b, c, d}))
			}
		}
	}
}

// More than four bytes are no number, whichever they are.
func TestB4NumberOfTooManyBytes(t *testing.T) {
	r := draws(21)
	for n := 5; n < 300; n++ {
		for _, body := range []string{r.text(n), zeros(n), zeros(n-1) + "\x01", "\x7f" + zeros(n-1), "\x80" + zeros(n-1), "\xff" + zeros(n-1)} {
			checkNumber(t, body)
		}
	}
	checkNumber(t, zeros(1<<16+1))
}

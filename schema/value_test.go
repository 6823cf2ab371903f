package schema_test

import (
	"math"
	"strconv"
	"strings"
	"testing"

	"palatine/api"
	"palatine/schema"
)

// bySyntax are the types of plenty that have the syntaxes 1 to 5.
func bySyntax() []string { return []string{"text", "exact", "NUM-1", "boss", "flag"} }

func TestJ2Examples(t *testing.T) {
	s := newSchema(t, example())
	for _, x := range []struct {
		name, value, norm string
		e                 api.Errno
	}{{"CN", " A  b", "a b", api.OK}, {"age", "007", "", api.ErrSyntax}, {"x", "1", "", api.ErrType}} {
		if norm, e := s.Norm(x.name, x.value); norm != x.norm || e != x.e {
			t.Errorf("Norm(%q, %q): %q, %v", x.name, x.value, norm, e)
		}
	}
	for _, x := range []struct {
		name, a, b string
		want       int
	}{{"age", "-5", "12", -1}, {"cn", "A", "a", 0}} {
		if n, e := s.Compare(x.name, x.a, x.b); n != x.want || e != api.OK {
			t.Errorf("Compare(%q, %q, %q): %v, %v", x.name, x.a, x.b, n, e)
		}
	}
}

// TestJ2Bytes: each byte alone, all pairs of bytes, and each byte within a value, for each syntax.
func TestJ2Bytes(t *testing.T) {
	words := plenty()
	s := newSchema(t, words)
	for _, name := range bySyntax() {
		eachText(2, allBytes(), func(value string) { checkNorm(t, s, words, name, value) })
		for c := range 256 {
			b := string([]byte{byte(c)})
			for _, value := range []string{"1" + b + "2", "a=1" + b + "b=2", "a=" + b, "TRU" + b, b + "TRUE", "TRUE" + b, " " + b + "  X ", "-1" + b} {
				checkNorm(t, s, words, name, value)
			}
		}
	}
}

// TestJ2Lengths: values of about 200 bytes, that are folded to shorter ones, too.
func TestJ2Lengths(t *testing.T) {
	words := plenty()
	s := newSchema(t, words)
	for _, name := range append(bySyntax(), "none", "OBJECTCLASS", "sys") {
		for n := 190; n < 210; n++ {
			for _, value := range []string{
				strings.Repeat("x", n), strings.Repeat(" ", n), strings.Repeat(" ", n-3) + "top", "A" + strings.Repeat(" ", n-1), strings.Repeat("é", n/2) + strings.Repeat("x", n%2),
				"a=" + strings.Repeat("x", n-2), "a=" + strings.Repeat("\x01", n-2), "a=" + strings.Repeat(`\`, n-2), "TRUE" + strings.Repeat(" ", n-4), strings.Repeat("1", n),
			} {
				checkNorm(t, s, words, name, value)
			}
		}
		for _, value := range []string{strings.Repeat("x", 1<<20), "a=" + strings.Repeat("x", 399), "a=" + strings.Repeat("x", 300)} {
			checkNorm(t, s, words, name, value)
			if _, e := s.Norm(name, value); e == api.OK {
				t.Errorf("%q takes %d bytes", name, len(value))
			}
		}
	}
	for _, name := range []string{"text", "exact", "boss"} {
		value := "a=" + strings.Repeat("x", 198)
		if _, e := s.Norm(name, value); e != api.OK {
			t.Errorf("%q: 200 bytes: %v", name, e)
		}
		if norm, e := s.Norm(name, value+"x"); norm != "" || e != api.ErrSyntax {
			t.Errorf("%q: 201 bytes: %q, %v", name, norm, e)
		}
	}
}

// norms are values of syntaxes with their norms.
type norms map[string]string

func checkNorms(t *testing.T, s *schema.Schema, name string, right norms, wrong ...string) {
	t.Helper()
	for value, want := range right {
		if norm, e := s.Norm(name, value); norm != want || e != api.OK {
			t.Errorf("Norm(%q, %q): %q, %v", name, value, norm, e)
		}
	}
	for _, value := range wrong {
		if norm, e := s.Norm(name, value); norm != "" || e != api.ErrSyntax {
			t.Errorf("Norm(%q, %q): %q, %v", name, value, norm, e)
		}
	}
	for value := range right {
		checkNorm(t, s, plenty(), name, value)
	}
	for _, value := range wrong {
		checkNorm(t, s, plenty(), name, value)
	}
}

func TestJ2Text(t *testing.T) {
	s := newSchema(t, plenty())
	checkNorms(t, s, "Text", norms{
		"A": "a", " Al  B ": "al b", "\x00": "\x00", "\t": "\t", "\u00a0": "\u00a0", "É\u212a": "É\u212a", "\xff A": "\xff a", "ABC xyz[`{@": "abc xyz[`{@", "007": "007",
	}, "", " ", "  ", strings.Repeat(" ", 200), strings.Repeat(" ", 200)+"a")
	eachText(6, " Ab", func(value string) { checkNorm(t, s, plenty(), "text", value) })
}

func TestJ2Exact(t *testing.T) {
	checkNorms(t, newSchema(t, plenty()), "eXACT", norms{"": "", " ": " ", " A  b ": " A  b ", "\x00\xff": "\x00\xff", "TRUE": "TRUE", allBytes()[:200]: allBytes()[:200], allBytes()[56:]: allBytes()[56:]}, allBytes()[:201], allBytes())
}

func TestJ2Number(t *testing.T) {
	s := newSchema(t, plenty())
	checkNorms(t, s, "num-1", norms{"0": "0", "7": "7", "-7": "-7", "10": "10", "-10": "-10", "999999999": "999999999", "-999999999": "-999999999", "100000000": "100000000", "123456789": "123456789"},
		"", "-", "+", "--1", "-0", "+0", "00", "01", "-01", "007", "+1", "1000000000", "-1000000000", "0000000001", "2147483648", "4294967296", "9223372036854775807", "9223372036854775808", "-9223372036854775808", "18446744073709551617",
		"99999999999999999999999", " 1", "1 ", "1.0", "1e3", "0x1", "1_0", "1,0", "１", "٣", "1\x00", "-\u00b2", "\u22121", "a", "1-", "0-0", strings.Repeat("1", 200), "-"+strings.Repeat("9", 199))
	eachText(5, "-+01 9", func(value string) { checkNorm(t, s, plenty(), "num-1", value) })
	for n := range 12 {
		for _, digits := range []string{strings.Repeat("9", n), "1" + strings.Repeat("0", n), strings.Repeat("0", n)} {
			checkNorm(t, s, plenty(), "num-1", digits)
			checkNorm(t, s, plenty(), "num-1", "-"+digits)
		}
	}
}

func TestJ2Name(t *testing.T) {
	s := newSchema(t, plenty())
	checkNorms(t, s, "BOSS", norms{
		"": "", "CN=A,dc=x": "dc=x\x00cn=a\x00", "B=2+a=1,C=3": "c=3\x00a=1+b=2\x00", "a=": "a=\x00", `a=\20\  x`: "a=x\x00", "a=" + strings.Repeat("\x01", 198): "a=" + strings.Repeat(`\01`, 198) + "\x00",
	}, "x", " ", "a", "=1", "a= 1", "a=1 ", "a=1,", ",a=1", "a=1+A=2", "1=a", `a=\0`, `a=\`, "a=;", "a=1,,b=2", strings.Repeat("a=1,", 16)+"a=1", "a=+b=+c=+d=+e=", strings.Repeat("a", 21)+"=1")
	checkNorm(t, s, plenty(), "boss", strings.Repeat("a=1,", 15)+"a=1")
	eachText(5, `a=,+\1`, func(value string) { checkNorm(t, s, plenty(), "boss", value) })
}

func TestJ2Truth(t *testing.T) {
	s := newSchema(t, plenty())
	right := norms{}
	for _, word := range []string{"TRUE", "FALSE"} {
		for cases := range 1 << len(word) {
			b := []byte(word)
			for i := range b {
				if cases>>i&1 > 0 {
					b[i] |= 32
				}
			}
			right[string(b)] = word
		}
	}
	checkNorms(t, s, "flag", right, "", " ", "T", "F", "1", "0", "yes", "tru", "truee", "falsee", "fals", " TRUE", "TRUE ", "FALSE ", " FALSE", "TRUE\x00", "TRUEFALSE", "FAL\u017fE", "fal\u017fe", "TR\u00daE", "\x14RUE", "ＴＲＵＥ")
}

// TestJ2NoType: there is no such type, whatever the value.
func TestJ2NoType(t *testing.T) {
	s := newSchema(t, plenty())
	for _, name := range append(wrongNames(), "none", "text ", " text", "top", "person", "o\u212a", "sy\u017f") {
		for _, value := range []string{"", "x", "TRUE", "0", "a=1", strings.Repeat("x", 201), strings.Repeat("x", 1<<16)} {
			if norm, e := s.Norm(name, value); norm != "" || e != api.ErrType {
				t.Errorf("Norm(%q, %d bytes): %q, %v", name, len(value), norm, e)
			}
			if n, e := s.Compare(name, value, "x"); n != 0 || e != api.ErrType {
				t.Errorf("Compare(%q): %v, %v", name, n, e)
			}
		}
	}
}

// TestJ2CompareNumbers: numbers of many lengths and both signs, by their values.
func TestJ2CompareNumbers(t *testing.T) {
	words := plenty()
	s := newSchema(t, words)
	numbers := []int{999999999, 999999998, 100000000, 99999999, 123456789, 1000, 999, 256, 255, 65536, math.MaxInt32 / 4}
	for n := range 31 {
		numbers = append(numbers, n)
	}
	for _, n := range numbers {
		numbers = append(numbers, -n)
	}
	for _, m := range numbers {
		for _, n := range numbers {
			want := 0
			if m < n {
				want = -1
			} else if m > n {
				want = 1
			}
			a, b := strconv.Itoa(m), strconv.Itoa(n)
			if got, e := s.Compare("Num-1", a, b); got != want || e != api.OK {
				t.Errorf("Compare(%q, %q): %v, %v", a, b, got, e)
			}
			checkCompare(t, s, words, "num-1", a, b)
			checkCompare(t, s, words, "text", a, b)
			checkCompare(t, s, words, "exact", a, b)
		}
	}
}

// TestJ2CompareOthers: all other values by the bytes of their norms.
func TestJ2CompareOthers(t *testing.T) {
	s := newSchema(t, plenty())
	for _, x := range []struct {
		name, a, b string
		want       int
	}{
		{"text", "a", "B", -1}, {"text", " B", "a", 1}, {"text", "a  b", " A b", 0}, {"text", "a", "ab", -1}, {"text", "a b", "ab", -1}, {"text", "\x80", "z", 1}, {"text", "É", "é", -1}, {"text", "9", "10", 1}, {"text", "-5", "12", -1}, {"text", "Z", "_", 1},
		{"exact", "", "", 0}, {"exact", "", "\x00", -1}, {"exact", "A", "a", -1}, {"exact", "a", "a ", -1}, {"exact", "\xff", "\xfe", 1}, {"exact", "9", "10", 1}, {"exact", "-1", "-2", -1},
		{"boss", "", "a=1", -1}, {"boss", "CN=A", "cn=a", 0}, {"boss", "a=2+b=1", "B=1+A=2", 0}, {"boss", "a=1,b=2", "b=1,a=2", 1}, {"boss", "z=1,a=1", "a=1,b=1", -1}, {"boss", "a=1", "b=0,a=1", -1}, {"boss", "a=10", "a=9", -1},
		{"flag", "true", "TRUE", 0}, {"flag", "true", "FALSE", 1}, {"flag", "False", "tRUE", -1}, {"flag", "FALSE", "false", 0},
	} {
		if got, e := s.Compare(x.name, x.a, x.b); got != x.want || e != api.OK {
			t.Errorf("Compare(%q, %q, %q): %v, %v", x.name, x.a, x.b, got, e)
		}
		if got, e := s.Compare(x.name, x.b, x.a); got != -x.want || e != api.OK {
			t.Errorf("Compare(%q, %q, %q): %v, %v", x.name, x.b, x.a, got, e)
		}
	}
}

// TestJ2CompareErrors: a wrong value on either side, or on both.
func TestJ2CompareErrors(t *testing.T) {
	words := plenty()
	s := newSchema(t, words)
	long := strings.Repeat("x", 201)
	for i, name := range bySyntax() {
		right := []string{"x", "x", "1", "a=1", "TRUE"}[i]
		wrong := []string{" ", long, "-0", "x", "1"}[i]
		for _, pair := range [][2]string{{right, wrong}, {wrong, right}, {wrong, wrong}, {right, long}, {long, right}} {
			if n, e := s.Compare(name, pair[0], pair[1]); n != 0 || e != api.ErrSyntax {
				t.Errorf("Compare(%q, %q): %v, %v", name, pair, n, e)
			}
			checkCompare(t, s, words, name, pair[0], pair[1])
		}
		if n, e := s.Compare(name, right, right); n != 0 || e != api.OK {
			t.Errorf("Compare(%q, %q, the same): %v, %v", name, right, n, e)
		}
	}
}

func TestJ2Drawn(t *testing.T) {
	r := draws(10)
	for range 300 {
		words := r.schema()
		s := newSchema(t, words)
		for range 50 {
			name := r.cased(r.of("objectClass", "cn", "sn", "a", "b", "a-1", "ab", "boss", "age", "flag", "x9"))
			kind, _ := typeByWords(words, name)
			a, b := r.value(kind.Syntax), r.value(kind.Syntax)
			if r.one(4) {
				a = r.text(5, " aA=,+1-0")
			}
			checkNorm(t, s, words, name, a)
			checkCompare(t, s, words, name, a, b)
			checkCompare(t, s, words, name, b, a)
		}
	}
}

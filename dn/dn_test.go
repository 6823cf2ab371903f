package dn_test

import (
	"strings"
	"testing"

	"palatine/api"
	"palatine/dn"
)

// one is a name of one type and value.
func one(kind, value string) api.Dn { return api.Dn{{{Type: kind, Value: value}}} }

func TestN1Types(t *testing.T) {
	check := func(s string) {
		t.Helper()
		if got := dn.Type(s); got != typeByWords(s) {
			t.Errorf("Type(%q): got %v", s, got)
		}
	}
	for _, s := range []string{"a", "Z", "cn", "a-", "a--b", "a1", "Z9-z", strings.Repeat("q", 20), "a" + strings.Repeat("-", 19)} {
		if !dn.Type(s) {
			t.Errorf("Type(%q): got false", s)
		}
	}
	for _, s := range []string{"", "1", "-", "1a", "-a", "a_", " a", "a ", "a=", "a.b", "é", "aé", "a\u212a", "ſ", "Ａ", "a٣", "a\xff", "a\x00", strings.Repeat("q", 21), strings.Repeat("q", 4000)} {
		if dn.Type(s) {
			t.Errorf("Type(%q): got true", s)
		}
	}
	eachText(2, allBytes(), check)
	eachText(4, "aZ0-_é", check)
	for n := range 24 {
		check(strings.Repeat("a", n))
		check(strings.Repeat("é", n))
		for c := range 256 {
			check("a" + strings.Repeat("b", n) + string([]byte{byte(c)}))
		}
	}
}

func TestN1RightSteps(t *testing.T) {
	for steps := range 20 {
		for avas := range 7 {
			var n api.Dn
			for range steps {
				var step api.Rdn
				for i := range avas {
					step = append(step, api.Ava{Type: string(rune('a' + i))})
				}
				n = append(n, step)
			}
			want := steps == 0 || steps <= 16 && 1 <= avas && avas <= 4
			if got := dn.Right(n); got != want {
				t.Errorf("%d steps of %d: got %v", steps, avas, got)
			}
			checkName(t, n)
		}
	}
}

// TestN1RightStep: one step, at any place among valid ones, that is none.
func TestN1RightStep(t *testing.T) {
	for _, wrong := range []api.Rdn{
		nil, {}, {{}}, {{Value: "x"}}, {{Type: "1"}}, {{Type: "a_"}}, {{Type: "é"}}, {{Type: strings.Repeat("a", 21)}},
		{{Type: "a", Value: "1"}, {}},
		{{Type: "a", Value: "1"}, {Type: "a", Value: "2"}},
		{{Type: "a", Value: "1"}, {Type: "A", Value: "1"}},
		{{Type: "aB"}, {Type: "b"}, {Type: "Ab"}},
		{{Type: "a"}, {Type: "b"}, {Type: "c"}, {Type: "C"}},
		{{Type: "a"}, {Type: "b"}, {Type: "c"}, {Type: "A"}},
		{{Type: "a"}, {Type: "b"}, {Type: "c"}, {Type: "d"}, {Type: "e"}},
	} {
		for at := range 16 {
			n := make(api.Dn, 16)
			for i := range n {
				n[i] = api.Rdn{{Type: "a", Value: "1"}, {Type: "b", Value: "1"}}
			}
			if !dn.Right(n) {
				t.Fatalf("Right(%q): got false", n)
			}
			n[at] = wrong
			if dn.Right(n) {
				t.Errorf("Right(%q): got true", n)
			}
			checkName(t, n)
		}
	}
}

func TestN1RightLength(t *testing.T) {
	for _, unit := range []string{"x", "é", ",", "\\", "\x00", "\x7f", " ", "#", "\xff", "a b"} {
		for n := range 410 {
			checkName(t, one("a", strings.Repeat(unit, n)))
		}
	}
	for n := 390; n < 410; n++ {
		checkName(t, api.Dn{{{Type: "a", Value: strings.Repeat("x", n-20)}, {Type: "b", Value: " "}}, {{Type: "cn", Value: "1"}}})
	}
	if long := strings.Repeat("x", 398); !dn.Right(one("a", long)) || dn.Right(one("a", long+"x")) {
		t.Error("texts of 400 and 401 bytes")
	}
	if dn.Right(one("a", strings.Repeat("x", 1<<20))) {
		t.Error("a text of a million bytes")
	}
}

// TestN1PrintBytes: each byte alone, as the first one, as the last one, and within a value.
func TestN1PrintBytes(t *testing.T) {
	eachText(2, allBytes(), func(value string) {
		checkName(t, one("a", value))
		checkName(t, one("a", "x"+value))
		checkName(t, one("a", value+"x"))
	})
	eachText(5, " #\\x", func(value string) { checkName(t, one("a", value)) })
	for value, want := range map[string]string{
		"": "", " ": `\ `, "  ": `\ \ `, "   ": `\  \ `, "#": `\#`, "##": `\##`, "# ": `\#\ `, " #": `\ #`, "a=b": "a=b", "=": "=",
		"\x00\x1f\x7f\x80": `\00\1f\7f` + "\x80", "\n": `\0a`, `"+,;<>\`: `\"\+\,\;\<\>\\`, "é": "é", "'": "'",
	} {
		if got := dn.Print(one("t", value)); got != "t="+want {
			t.Errorf("value %q: got %q", value, got)
		}
	}
}

// TestN1PrintWrong: names that aren't valid have texts too.
func TestN1PrintWrong(t *testing.T) {
	for want, n := range map[string]api.Dn{
		"":                  {{}},
		",":                 {{}, nil},
		"=":                 {{{}}},
		"=,=+=":             {{{}}, {{}, {}}},
		",a=1,":             {{}, {{Type: "a", Value: "1"}}, {}},
		"a=1+A=2":           {{{Type: "a", Value: "1"}, {Type: "A", Value: "2"}}},
		" ,+=#\x00=\\ ":     {{{Type: " ,+=#\x00", Value: " "}}},
		"a=+b=+c=+d=+e=":    {{{Type: "a"}, {Type: "b"}, {Type: "c"}, {Type: "d"}, {Type: "e"}}},
		"É\xff=1,\xc3=\xc3": {{{Type: "É\xff", Value: "1"}}, {{Type: "\xc3", Value: "\xc3"}}},
	} {
		if got := dn.Print(n); got != want || len(n) > 0 && dn.Right(n) {
			t.Errorf("Print(%q): got %q, want %q", n, got, want)
		}
		checkName(t, n)
	}
	long := one("a", strings.Repeat("\x00", 1000))
	if got := dn.Print(long); got != "a="+strings.Repeat(`\00`, 1000) {
		t.Errorf("a long value: got %q", got)
	}
}

func TestN2Examples(t *testing.T) {
	checkParse(t, `cn=Al\,Bo,dc=x`, api.Dn{{{Type: "cn", Value: "Al,Bo"}}, {{Type: "dc", Value: "x"}}}, api.OK)
	checkParse(t, "a=1+b=2", api.Dn{{{Type: "a", Value: "1"}, {Type: "b", Value: "2"}}}, api.OK)
	checkParse(t, "a=", one("a", ""), api.OK)
	checkParse(t, "", nil, api.OK)
	for _, s := range []string{"a= 1", "a=1 ", "a=1,", "=1", "a=1+A=2", `a=\0`} {
		checkParse(t, s, nil, api.ErrName)
	}
	checkParse(t, `a=\20\4a`, one("a", " J"), api.OK)
	if got := dn.Print(one("a", " J")); got != `a=\ J` {
		t.Errorf("got %q", got)
	}
}

func TestN2Separators(t *testing.T) {
	checkParse(t, "a=,b=", api.Dn{{{Type: "a"}}, {{Type: "b"}}}, api.OK)
	checkParse(t, "a=1=2,b==", api.Dn{{{Type: "a", Value: "1=2"}}, {{Type: "b", Value: "="}}}, api.OK)
	checkParse(t, `a=\+\,,b=1\\+c=2`, api.Dn{{{Type: "a", Value: "+,"}}, {{Type: "b", Value: `1\`}, {Type: "c", Value: "2"}}}, api.OK)
	for _, s := range []string{
		",", "+", "=", "a", " ", "a=1,,b=2", "a=1++b=2", ",a=1", "+a=1", "a=1+", "a=1,b", "a,b=1", "a+b=1", "a=1,=2",
		" a=1", "a =1", "a=1, b=2", "a=1 ,b=2", "a=1 +b=2", "1a=2", "a\\=1", "a_b=1", "é=1", "a=1;b=2", "a\x00=1",
		strings.Repeat("a", 21) + "=1", "a=1," + strings.Repeat("a", 21) + "=1",
	} {
		checkParse(t, s, nil, api.ErrName)
	}
	checkParse(t, `a=1\,`, one("a", "1,"), api.OK)
	checkParse(t, strings.Repeat("a", 20)+"=1", one(strings.Repeat("a", 20), "1"), api.OK)
}

// TestN2Values: each byte, unescaped, at each place of a value, in the last and in another value.
func TestN2Values(t *testing.T) {
	for c := range 256 {
		s := string([]byte{byte(c)})
		for _, value := range []string{s, s + "x", "x" + s, "x" + s + "y", s + s, "x" + s + s, s + s + "x", " " + s, s + " ", "#" + s} {
			checkText(t, "a="+value)
			checkText(t, "a="+value+",b=1")
			checkText(t, "b=1+a="+value+"+c=1")
		}
	}
	for _, value := range []string{" ", " x", "x ", "#", "#x", "\"", ";", "<", ">", "\x00", "x\"", "x;y", "<x", "x>y", "x\x00"} {
		checkParse(t, "a="+value, nil, api.ErrName)
		checkParse(t, "a=1,b="+value+"+c=2", nil, api.ErrName)
	}
	for _, value := range []string{"x y", "x  y", "x#", "x#y", "\x01", "\x7f", "\x80", "é", "\xff\xfe", "=", "\t", "\n", "'", "x\u00a0"} {
		checkParse(t, "a="+value, one("a", value), api.OK)
	}
}

// TestN2Escapes: each one and each two bytes behind a \, at each place of a value.
func TestN2Escapes(t *testing.T) {
	eachText(2, allBytes(), func(s string) {
		checkText(t, `a=\`+s)
		checkText(t, `a=x\`+s+"y")
	})
	for c := range 256 {
		s := `\` + string([]byte{byte(c)})
		for _, value := range []string{s, s + "x", "x" + s, s + s, s + " ", " " + s, s + "#", s + ",b=1", s + "+b=1", s + "0", s + "0g", s + `\ `, `\\` + s} {
			checkText(t, "a="+value)
		}
	}
	for _, value := range []string{`\`, `\0`, `\g`, `\0g`, `\g0`, `\a`, `\n`, `\x41`, `\-1`, `\ 1 `, `\_0`, `\0_`, `\0,b=1`, `\,b=1+`, `\é`, `\.5`} {
		checkParse(t, "a="+value, nil, api.ErrName)
	}
	for c := range 256 {
		for _, form := range []string{"0123456789abcdef", "0123456789ABCDEF"} {
			value := `\` + form[c>>4:c>>4+1] + form[c&15:c&15+1]
			checkParse(t, "a="+value, one("a", string([]byte{byte(c)})), api.OK)
		}
	}
	checkParse(t, `a=\#\ x\ `, one("a", "# x "), api.OK)
	checkParse(t, `a=\ `, one("a", " "), api.OK)
	checkParse(t, `a=\  \ `, one("a", "   "), api.OK)
	checkParse(t, `a=\  `, nil, api.ErrName)
	checkParse(t, `a=\\ `, nil, api.ErrName)
	checkParse(t, `a=\ #`, one("a", " #"), api.OK)
	checkParse(t, `a=\41\`, nil, api.ErrName)
}

// TestN2ShortTexts: all short texts of a small alphabet.
func TestN2ShortTexts(t *testing.T) {
	eachText(5, "aA1=,+\\ #\x00", func(s string) { checkText(t, s) })
	eachText(4, "a1=,+\\ #;\"", func(s string) { checkText(t, "b="+s) })
	eachText(5, "a=,+", func(s string) { checkText(t, "B=1+"+s+"=1") })
}

func TestN2Length(t *testing.T) {
	for _, s := range []string{"a=", "a=\\", "a", "=", ",", "a=\x00", "a=1,A=1+b="} {
		for n := 395; n < 406; n++ {
			checkText(t, s+strings.Repeat("x", n-len(s)))
			checkText(t, s+strings.Repeat(" ", n-len(s)))
		}
	}
	checkParse(t, "a="+strings.Repeat("x", 398), one("a", strings.Repeat("x", 398)), api.OK)
	checkParse(t, "a="+strings.Repeat("x", 399), nil, api.ErrLong)
	checkParse(t, strings.Repeat(",", 401), nil, api.ErrLong)
	checkParse(t, strings.Repeat(",", 400), nil, api.ErrName)
	checkParse(t, "a="+strings.Repeat("x", 1<<20), nil, api.ErrLong)
}

// TestN2LongText: a name whose own text is too long isn't valid, but is parsed.
func TestN2LongText(t *testing.T) {
	raw := strings.Repeat("\x01", 398)
	checkParse(t, "a="+raw, one("a", raw), api.OK)
	if dn.Right(one("a", raw)) {
		t.Error("a text of 1196 bytes")
	}
	checkParse(t, "a="+strings.Repeat("\x7f", 100)+",a="+strings.Repeat("\n", 150), append(one("a", strings.Repeat("\x7f", 100)), one("a", strings.Repeat("\n", 150))...), api.OK)
}

func TestN2Counts(t *testing.T) {
	for steps := 1; steps < 20; steps++ {
		for avas := 1; avas < 7; avas++ {
			step := strings.Join([]string{"a=", "b=", "c=", "d=", "e=", "f="}[:avas], "+")
			s := step + strings.Repeat(","+step, steps-1)
			checkText(t, s)
			if n, e := dn.Parse(s); (e == api.OK) != (steps <= 16 && avas <= 4) || e == api.OK && dn.Print(n) != s {
				t.Errorf("%d steps of %d: got %q %v", steps, avas, n, e)
			}
		}
	}
}

func TestN2TypesDiffer(t *testing.T) {
	for _, s := range []string{"a=1+a=1", "a=1+a=2", "a=1+A=2", "aB=+Ab=", "a=+b=+c=+A=", "a=+b=+B=", "x=,a=+b=+B=+c=", "a=+a=,b="} {
		checkParse(t, s, nil, api.ErrName)
	}
	for _, s := range []string{"a=,a=", "a=1,A=1", "a=+aa=", "a=+b=,b=+a="} {
		n, e := dn.Parse(s)
		if e != api.OK || dn.Print(n) != s {
			t.Errorf("Parse(%q): got %q %v", s, n, e)
		}
	}
}

// TestN2Drawn: texts of names with bytes put in, taken out and changed.
func TestN2Drawn(t *testing.T) {
	r := draws(12)
	letters := "ab12 #\\\"+,;<>=\x00\x01\x7f\x80"
	for range 20000 {
		s := textByWords(r.name(4, 3, []string{"a", "B", "cn", "d-1"}, 6, letters))
		for range r.below(4) {
			at := r.below(len(s) + 1)
			to := min(at+r.below(3), len(s))
			s = s[:at] + r.text(2, letters) + s[to:]
		}
		checkText(t, s)
	}
}

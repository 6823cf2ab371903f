package dn_test

import (
	"slices"
	"strings"
	"testing"

	"palatine/api"
	"palatine/dn"
)

func TestN3Fold(t *testing.T) {
	check := func(value string) {
		t.Helper()
		got := dn.Fold(value)
		if got != foldByWords(value) || dn.Fold(got) != got {
			t.Errorf("Fold(%q): got %q", value, got)
		}
	}
	for value, want := range map[string]string{
		"": "", " ": "", "   ": "", " Al  B ": "al b", "AZaz09[`{@": "azaz09[`{@", "x": "x", "a b": "a b", "a     b  c": "a b c",
		"É\u212aİ": "É\u212aİ", "\xc3\xff A\x80": "\xc3\xff a\x80", "\tA\t ": "\ta\t", "\u00a0A\u00a0": "\u00a0a\u00a0", "\u2003 X": "\u2003 x", "\x00 \n": "\x00 \n", `\20A`: `\20a`,
	} {
		if got := dn.Fold(value); got != want {
			t.Errorf("Fold(%q): got %q, want %q", value, got, want)
		}
	}
	eachText(2, allBytes(), check)
	eachText(6, " Ab\t\xc3", check)
	check(strings.Repeat(" X  \xe9", 1000))
}

func TestN3Norm(t *testing.T) {
	n := api.Dn{{{Type: "C", Value: " X "}, {Type: "aa", Value: "1"}, {Type: "A-1", Value: "Y  Z"}, {Type: "a", Value: ""}}, {{Type: "DC", Value: "É"}}}
	want := api.Dn{{{Type: "a"}, {Type: "a-1", Value: "y z"}, {Type: "aa", Value: "1"}, {Type: "c", Value: "x"}}, {{Type: "dc", Value: "É"}}}
	if got := dn.Norm(n); !equal(got, want) {
		t.Errorf("got %q", got)
	}
	if got := dn.Norm(nil); len(got) != 0 {
		t.Errorf("no steps: got %q", got)
	}
	for _, wrong := range []api.Dn{
		{{}}, {nil, {{}}, {}}, {{{Type: "É_A\xff", Value: " "}}}, make(api.Dn, 30),
		{{{Type: "b", Value: "2"}, {Type: "A", Value: "z"}, {Type: "a", Value: "Y"}, {Type: "A", Value: "x"}, {Type: "B", Value: "1"}}},
	} {
		checkName(t, wrong)
	}
}

// TestN3NormOrders: the types of a step in all orders and cases.
func TestN3NormOrders(t *testing.T) {
	types := []string{"a", "A-", "a0", "AA", "aB", "b"}
	for i := range 6 * 6 * 6 * 6 {
		var step api.Rdn
		for _, at := range []int{i % 6, i / 6 % 6, i / 36 % 6, i / 216} {
			step = append(step, api.Ava{Type: types[at], Value: string(rune('0' + len(step)))})
		}
		checkName(t, api.Dn{step})
	}
}

func TestN3Same(t *testing.T) {
	for _, pair := range [][2]string{
		{"a=1+b=2", "B=2+a=1"}, {"", ""}, {"cn=A  b", "CN=a B"}, {`a=\ x\ `, "a=X"}, {`a=\ `, "a="}, {"a=+b=+c=", "C=+B=+A="}, {"a=\\41", "a=a"},
	} {
		if !dn.Same(parsed(t, pair[0]), parsed(t, pair[1])) || !dn.Same(parsed(t, pair[1]), parsed(t, pair[0])) {
			t.Errorf("%q: not the same", pair)
		}
	}
	for _, pair := range [][2]string{
		{"", "a="}, {"a=1", "a=2"}, {"a=1", "b=1"}, {"a=1,b=2", "b=2,a=1"}, {"a=1+b=2", "a=2+b=1"}, {"a=1+b=2", "a=1"}, {"a=1,b=2", "a=1+b=2"},
		{"a=x y", "a=xy"}, {"a=É", "a=é"}, {"a=1,a=1", "a=1"}, {"a=1", `a=1\,a=1`}, {"aa=", "a=a"}, {"a=\u212a", "a=k"},
	} {
		if dn.Same(parsed(t, pair[0]), parsed(t, pair[1])) || dn.Same(parsed(t, pair[1]), parsed(t, pair[0])) {
			t.Errorf("%q: the same", pair)
		}
	}
}

func TestN3Under(t *testing.T) {
	for _, pair := range [][2]string{
		{"cn=a,dc=X", "DC=x"}, {"cn=a,dc=X", "CN=A,dc=x"}, {"cn=a,dc=x", ""}, {"", ""}, {"a=1,b=2+c=3,d=4", "C=3+B=2,d=4"}, {"a=1,a=1,a=1", "a=1,a=1"},
	} {
		if !dn.Under(parsed(t, pair[0]), parsed(t, pair[1])) {
			t.Errorf("%q: not under", pair)
		}
	}
	for _, pair := range [][2]string{
		{"dc=x", "cn=a,dc=x"}, {"", "dc=x"}, {"cn=a,dc=x", "cn=a"}, {"cn=a,adc=x", "dc=x"}, {"cn=a,dc=xy", "dc=x"}, {"cn=a,dc=xy", "dc=y"},
		{"a=1+b=2", "b=2"}, {"a=1,b=2+c=3", "b=2"}, {"a=1,b=2", "a=1,b=3"}, {"a=1,b=2,c=3", "a=1,c=3"}, {"a=1\\,b=2", "b=2"},
	} {
		if dn.Under(parsed(t, pair[0]), parsed(t, pair[1])) {
			t.Errorf("%q: under", pair)
		}
	}
}

func TestN3Key(t *testing.T) {
	for s, want := range map[string]string{
		"":                    "",
		"cn=A,dc=X":           "dc=x\x00cn=a\x00",
		"B=2+a=1,C=3":         "c=3\x00a=1+b=2\x00",
		`a=\20\  x\00\2c`:     "a=x\\00\\,\x00",
		`a=\#  Y`:             "a=\\# y\x00",
		"a=\x80":              "a=\x80\x00",
		`a=\ #`:               "a=\\#\x00",
		"a=,b=,c=":            "c=\x00b=\x00a=\x00",
		`a=1\7f\1F+A-=\+\=\=`: "a=1\\7f\\1f+a-=\\+==\x00",
	} {
		if got := dn.Key(parsed(t, s)); got != want {
			t.Errorf("Key(%q): got %q, want %q", s, got, want)
		}
	}
}

// TestN3Drawn: names, valid and not, and pairs of names that are often the same or under one another.
func TestN3Drawn(t *testing.T) {
	r := draws(3)
	types := []string{"a", "A", "b", "B-1", "", "1", "É", "a\x00"}
	for range 10000 {
		a := r.name(3, 3, types, 3, " aA#\\,\x00\x7f\xe9")
		b := r.name(3, 3, types[:3], 1, "aA ")
		c := append(r.name(1, 2, types[:3], 1, "aA "), b...)
		for _, n := range []api.Dn{a, b, c} {
			checkName(t, n)
			checkPair(t, n, a)
			checkPair(t, n, b)
			checkPair(t, n, c)
		}
	}
}

func TestN4ParsePrint(t *testing.T) {
	r := draws(4)
	valid := 0
	for range 20000 {
		n := r.name(r.below(18), 4, []string{"a", "B", "cn", "d-1", "e9"}, 1+r.below(40), allBytes())
		if r.below(2) == 0 {
			n = r.name(16, 4, []string{"a", "B", "cn", "d-1", "e9"}, 3, " #\\,+=\"\x00ab")
		}
		if !dn.Right(n) {
			continue
		}
		valid++
		checkParse(t, dn.Print(n), n, api.OK)
	}
	if valid < 5000 {
		t.Errorf("only %d valid names", valid)
	}
	for _, value := range []string{strings.Repeat("\x00", 132), strings.Repeat("\\", 199), strings.Repeat(" ", 396), "#" + strings.Repeat("=", 396)} {
		n := one("a", value)
		if !dn.Right(n) {
			t.Errorf("%q isn't valid", n)
		}
		checkParse(t, dn.Print(n), n, api.OK)
	}
	eachText(2, allBytes(), func(value string) {
		checkParse(t, dn.Print(one("a", value)), one("a", value), api.OK)
	})
}

// TestN4Keys: all pairs of a crowd of names that are near to one another.
func TestN4Keys(t *testing.T) {
	var names []api.Dn
	eachText(2, "aA #,\\\x00", func(value string) {
		names = append(names, one("a", value), one("aa", value), append(one("b", value), one("a", "")...))
	})
	r := draws(5)
	for range 300 {
		names = append(names, r.name(3, 2, []string{"a", "b", "A"}, 1, "aA ,"))
	}
	for _, a := range names {
		key := dn.Key(a)
		for _, b := range names {
			other := dn.Key(b)
			if strings.HasPrefix(key, other) != dn.Under(a, b) || (key == other) != dn.Same(a, b) {
				t.Errorf("%q and %q: keys %q and %q, under %v, same %v", a, b, key, other, dn.Under(a, b), dn.Same(a, b))
			}
		}
	}
}

// TestR5Arguments: what is done to a result reaches neither an argument nor another result.
func TestR5Arguments(t *testing.T) {
	s := "b=1+a=2,c=3"
	n := parsed(t, s)
	norm := dn.Norm(n)
	norm[0][0].Value, norm[1] = "x", nil
	if dn.Print(n) != s || dn.Print(dn.Norm(n)) != "a=2+b=1,c=3" {
		t.Errorf("got %q", n)
	}
	same := dn.Norm(dn.Norm(n))
	again := dn.Norm(same)
	again[0][0].Type = "z"
	if dn.Print(same) != "a=2+b=1,c=3" {
		t.Errorf("got %q", same)
	}
	other := parsed(t, s)
	n[0][1].Value, n[1] = "y", nil
	if dn.Print(other) != s {
		t.Errorf("got %q", other)
	}
	n = parsed(t, "a=1,b=2,c=3")
	for i := range n {
		n[i] = append(n[i], api.Ava{Type: "x"})
	}
	if dn.Print(n) != "a=1+x=,b=2+x=,c=3+x=" {
		t.Errorf("steps share memory: got %q", n)
	}
}

// TestR4Nil: a nil slice and an empty one are the same.
func TestR4Nil(t *testing.T) {
	for _, none := range []api.Dn{nil, {}} {
		if !dn.Right(none) || dn.Print(none) != "" || dn.Key(none) != "" || len(dn.Norm(none)) != 0 {
			t.Errorf("%#v", none)
		}
		for _, other := range []api.Dn{nil, {}} {
			if !dn.Same(none, other) || !dn.Under(none, other) {
				t.Errorf("%#v and %#v", none, other)
			}
		}
	}
	if !dn.Same(api.Dn{nil, {}}, api.Dn{{}, nil}) || !dn.Under(api.Dn{{}, nil}, api.Dn{{}}) || dn.Key(api.Dn{nil}) != "\x00" {
		t.Error("steps without types")
	}
}

// parsed is the name of a text that is right.
func parsed(t *testing.T, s string) api.Dn {
	t.Helper()
	n, e := dn.Parse(s)
	if e != api.OK {
		t.Fatalf("Parse(%q): %v", s, e)
	}
	if want, _ := parsedByWords(s); !slices.EqualFunc(n, want, slices.Equal) {
		t.Fatalf("Parse(%q): got %q", s, n)
	}
	return n
}

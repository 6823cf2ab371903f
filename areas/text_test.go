package areas_test

import (
	"math"
	"slices"
	"strings"
	"testing"

	"palatine/api"
	"palatine/areas"
)

// TestZ1Default: the default is written by no part.
func TestZ1Default(t *testing.T) {
	for text, x := range map[string]api.Spec{
		"base=":                      {Max: -1},
		"base=;max=0":                {},
		"base=;min=1":                {Min: 1, Max: -1},
		"base=cn=k;min=16;max=16":    {Base: named("cn=k"), Min: 16, Max: 16},
		"base=;before=a=1;before=b=": {Max: -1, Before: names("a=1", "b=")},
		"base=;after=a=1,b=2":        {Max: -1, After: names("a=1,b=2")},
		"base=;class=a;class=A":      {Max: -1, Classes: []string{"a", "A"}},
		"base=a=1,B=2+c=3;min=2;max=1;before=a=1;after=b=2;after=a=1;class=z-9;class=y": {Base: named("a=1,B=2+c=3"), Min: 2, Max: 1, Before: names("a=1"), After: names("b=2", "a=1"), Classes: []string{"z-9", "y"}},
	} {
		if !checkSpec(t, x) {
			t.Errorf("%+v isn't right", x)
		}
		if got := areas.Print(x); got != text {
			t.Errorf("Print(%+v): got %q, want %q", x, got, text)
		}
		if got, e := areas.Parse(text); e != api.OK || shown(got) != shown(x) {
			t.Errorf("Parse(%q): got %+v %v", text, got, e)
		}
	}
}

// numbers are around all bounds.
func numbers() []int {
	list := []int{math.MinInt, math.MinInt + 1, -1 << 32, -1<<32 + 1, 1<<32 - 1, 1 << 32, 1<<32 + 1, math.MaxInt}
	for n := -20; n <= 300; n++ {
		list = append(list, n)
	}
	return list
}

func TestZ1Numbers(t *testing.T) {
	for _, n := range numbers() {
		if got := checkSpec(t, api.Spec{Min: n, Max: -1}); got != (0 <= n && n <= 16) {
			t.Errorf("min %d: got %v", n, got)
		}
		if got := checkSpec(t, api.Spec{Max: n}); got != (-1 <= n && n <= 16) {
			t.Errorf("max %d: got %v", n, got)
		}
		for _, m := range []int{-2, -1, 0, 16, 17} {
			checkSpec(t, api.Spec{Min: n, Max: m})
			checkSpec(t, api.Spec{Min: m, Max: n})
		}
	}
}

// TestZ1WrongNumbers: a number has one form alone.
func TestZ1WrongNumbers(t *testing.T) {
	for _, n := range []string{
		"", "0", "-0", "00", "01", "016", "+1", "-1", "-2", "17", "100", "1.0", "1e1", "0x1", "1_0", " 1", "1 ", "1,", "\\1", "a", "1a", "1=", "=1", "1\x00", "\x001", "١", "99999999999999999999", "18446744073709551617", "4294967297",
	} {
		if n != "0" {
			if checkText(t, "base=;max="+n) || checkText(t, "base=;min=1;max="+n) {
				t.Errorf("max %q", n)
			}
		}
		if checkText(t, "base=;min="+n) || checkText(t, "base=;min="+n+";max=1") {
			t.Errorf("min %q", n)
		}
	}
	for _, s := range []string{"base=;min", "base=;max", "base=;min1", "base=;min:1", "base=;minimum=1", "base=;MIN=1", "base=;min =1", "base=;min=1;min=1", "base=;max=1;max=1", "base=;min=1;max=1;min=1", "base=;max=1;min=1"} {
		if checkText(t, s) {
			t.Errorf("text %q", s)
		}
	}
}

// TestZ1Order: parts have one order alone.
func TestZ1Order(t *testing.T) {
	all := []string{"base=a=1", "min=1", "max=2", "before=b=1", "before=b=0", "after=c=1", "after=c=0", "class=d", "class=c"}
	for i := range all {
		for j := range all {
			list := slices.Clone(all)
			list[i], list[j] = list[j], list[i]
			x, e := areas.Parse(strings.Join(list, ";"))
			swapped := i == j || i > 2 && j > 2 && (i+1)/2 == (j+1)/2
			if (e == api.OK) != swapped || swapped && areas.Print(x) != strings.Join(list, ";") {
				t.Errorf("%q: got %+v %v", list, x, e)
			}
			checkText(t, strings.Join(list, ";"))
			list = slices.Clone(all)
			list = slices.Insert(list, i, all[j])
			checkText(t, strings.Join(list, ";"))
			checkText(t, strings.Join(slices.Delete(list, j, j+1), ";"))
		}
		checkText(t, strings.Join(slices.Delete(slices.Clone(all), i, i+1), ";"))
		checkText(t, strings.Join(slices.Clone(all)[i:], ";"))
		checkText(t, strings.Join(slices.Clone(all)[:i], ";"))
	}
}

func TestZ1WrongTexts(t *testing.T) {
	for _, s := range []string{
		"", ";", "base", "=", "Base=", "base:", " base=", "base= ", "base=;", ";base=", "base=;;min=1", "base=;base=", "base=a=1;base=", "base=;base=a=1", "base=;x=1", "base=;x", "base=;=", "base=;min=1;", "base=\\", "base=;\\min=1", "base=\\;min=1", "basebase=", "base==", "base=a", "base=a=1,", "base=;class=",
		"base=;before=", "base=;after=", "base=;before", "base=;after", "base=;class", "base=;before=a", "base=;before=a=1;before=", "base=;before=;before=a=1", "base=;after=a=1,", "base=;before=a=\\", "base=;before=1=a", "base=;before=a=1+A=1", "base=;before=a= 1", "base=a=;", "base=;class=a;", "base=;class=a,b", "base=;class=a=b", "base=;class=é", "base=;class=1a", "base=;class= a", "base=;class=a\\;b",
		"base=;classes=a", "base=;class=a;min=1", "min=1", "max=1", "before=a=1", "class=a", "base=\x00", "base=;min=1\n", "base=\n",
	} {
		if checkText(t, s) {
			t.Errorf("text %q", s)
		}
		if x, e := areas.Parse(s); e != api.ErrSpec || shown(x) != shown(api.Spec{}) {
			t.Errorf("Parse(%q): got %+v %v", s, x, e)
		}
	}
}

// TestZ1OneForm: a name is only read if it is written as its text is.
func TestZ1OneForm(t *testing.T) {
	for _, pair := range [][2]string{
		{`a=\;`, `a=\3b`}, {`a=\\`, `a=\5c`}, {`a=\,`, `a=\2C`}, {`a=\+`, `a=\2b`}, {`a==`, `a=\=`}, {`a=x#`, `a=x\#`}, {`a=\#`, `a=\23`}, {`a=\ `, `a=\20`}, {`a=\ \ `, `a=\ \20`}, {`a=x y`, `a=x\ y`}, {`a=\00`, "a=\x00"}, {`a=\7f`, `a=\7F`}, {`a=\7f`, "a=\x7f"}, {`a=\0a`, "a=\n"}, {`a=\0a`, `a=\0A`}, {"a=\xff", `a=\ff`}, {"a=é", `a=\c3\a9`}, {`a=A`, `a=\41`}, {`a=\ x`, `a= x`},
		{`a=\;,b=\\\;`, `a=\;,b=\\;`}, {`a=\\+b=\;\;`, `a=\\+b=\;;`}, {`a=\;x\;`, `a=\;x;`}, {`a=\"`, `a="`},
	} {
		for _, form := range []string{"base=N", "base=N;min=1", "base=;before=N", "base=;before=N;before=N", "base=;after=N", "base=N;after=N;class=a", "base=b=1;max=1;before=c=1;after=N;after=d=1"} {
			good, bad := strings.ReplaceAll(form, "N", pair[0]), strings.ReplaceAll(form, "N", pair[1])
			if !checkText(t, good) || checkText(t, bad) {
				t.Errorf("texts %q and %q", good, bad)
			}
		}
	}
}

func TestZ1Counts(t *testing.T) {
	for n := range 8 {
		for m := range 8 {
			x := api.Spec{Max: -1}
			for range n {
				x.Before = append(x.Before, named("a=1"))
				x.After = append(x.After, named("b=1"))
				x.Classes = append(x.Classes, "c")
			}
			for _, y := range []api.Spec{
				{Before: x.Before[:n], After: x.After[:min(m, n)], Classes: x.Classes[:min(4, n)]}, {Max: 3, Before: x.Before[:min(m, n)], Classes: x.Classes}, {Min: 1, After: x.After, Classes: x.Classes[:min(m, n)]}, x,
			} {
				right := len(y.Before) <= 4 && len(y.After) <= 4 && len(y.Classes) <= 4
				if got := checkSpec(t, y); got != right {
					t.Errorf("Right(%+v): got %v", y, got)
				}
			}
		}
	}
}

// TestZ1Names: bases, chops and classes at the edges of what names and types are.
func TestZ1Names(t *testing.T) {
	steps := func(n int) api.Dn { return slices.Repeat(named("a=1"), n) }
	for n := range 20 {
		checkSpec(t, api.Spec{Base: steps(n)})
		checkSpec(t, api.Spec{Before: []api.Dn{steps(n)}})
		checkSpec(t, api.Spec{After: []api.Dn{steps(1), steps(n)}})
		checkSpec(t, api.Spec{Before: []api.Dn{steps(n), steps(1)}, After: []api.Dn{steps(2)}})
	}
	for _, wrong := range []api.Dn{
		{nil}, {{}, {{Type: "a"}}}, {{{}}}, {{{Type: "1", Value: "1"}}}, {{{Type: "a;b", Value: "1"}}}, {{{Type: "a"}, {Type: "A"}}}, {{{Type: "a"}, {Type: "b"}, {Type: "c"}, {Type: "d"}, {Type: "e"}}}, {{{Type: strings.Repeat("a", 21), Value: "1"}}}, steps(17),
	} {
		for _, x := range []api.Spec{{Base: wrong}, {Before: []api.Dn{wrong}}, {After: []api.Dn{wrong}}, {Before: append(names("a=1", "b=1", "c=1"), wrong)}, {After: append(names("a=1", "b=1", "c=1"), wrong)}, {Base: named("a=1"), After: append([]api.Dn{wrong}, named("a=1"))}} {
			if checkSpec(t, x) {
				t.Errorf("%+v is right", x)
			}
		}
	}
	for _, class := range []string{"", " ", "1", "-", "a_b", "a;b", "a=b", "é", "a ", strings.Repeat("a", 21), "a\x00"} {
		for _, list := range [][]string{{class}, {"a", class}, {class, "a"}, {"a", "b", "c", class}} {
			if checkSpec(t, api.Spec{Classes: list}) {
				t.Errorf("classes %q are right", list)
			}
		}
	}
	for _, class := range []string{"a", "Z", "none", "a-1", "all", strings.Repeat("a", 20), "a-------------------"} {
		if !checkSpec(t, api.Spec{Classes: []string{class, class}}) {
			t.Errorf("class %q isn't right", class)
		}
	}
	if !checkSpec(t, api.Spec{Base: nil, Before: []api.Dn{}, After: []api.Dn{}, Classes: []string{}}) {
		t.Error("empty lists")
	}
	if checkSpec(t, api.Spec{Before: []api.Dn{nil}}) || checkSpec(t, api.Spec{After: []api.Dn{{}}}) {
		t.Error("chops without steps")
	}
}

// TestZ1Length: texts of about 300 bytes, whatever makes them that long.
func TestZ1Length(t *testing.T) {
	edge := func(text string, of func(n int) api.Spec) {
		t.Helper()
		room := 300 - len(areas.Print(of(0)))
		for n := max(0, room/len(text)-3); n < room/len(text)+4; n++ {
			if got := checkSpec(t, of(n)); got != (n*len(text) <= room) {
				t.Errorf("%d times %q: got %v", n, text, got)
			}
		}
	}
	long := func(value string, n int) api.Dn {
		return api.Dn{{{Type: "a", Value: "x" + strings.Repeat(value, n) + "x"}}}
	}
	for _, s := range [][2]string{{"x", "x"}, {";", `\;`}, {"\x00", `\00`}, {"é", "é"}, {" ", " "}, {"\xff", "\xff"}} {
		edge(s[1], func(n int) api.Spec { return api.Spec{Base: long(s[0], n), Max: -1} })
		edge(s[1], func(n int) api.Spec { return api.Spec{Base: long(s[0], n), Min: 12, Classes: []string{"a"}} })
		edge(s[1], func(n int) api.Spec { return api.Spec{Before: []api.Dn{long(s[0], n)}} })
		edge(s[1], func(n int) api.Spec { return api.Spec{Before: names("a=1"), After: []api.Dn{long(s[0], n)}} })
	}
	full := api.Spec{Base: long("x", 281)}
	for _, x := range []api.Spec{full, {Base: long("x", 380)}, {Base: long("x", 1<<20)}, {Before: []api.Dn{long("x", 150), long("x", 150)}}} {
		checkSpec(t, x)
	}
	for _, n := range []int{299, 300, 301, 302, 1000, 1 << 20} {
		checkText(t, "base=a="+strings.Repeat("x", n-7))
		checkText(t, "base="+strings.Repeat(";", n-5))
		checkText(t, "base=a="+strings.Repeat(`\`, n-7))
	}
	if !checkText(t, "base=a="+strings.Repeat("x", 293)) || checkText(t, "base=a="+strings.Repeat("x", 294)) {
		t.Error("texts of 300 and 301 bytes")
	}
	huge := api.Spec{Base: slices.Repeat(named("a=1"), 1<<16), Before: make([]api.Dn, 1<<16), Classes: make([]string, 1<<16)}
	if areas.Right(huge) || len(areas.Print(huge)) < 1<<18 {
		t.Error("a huge specification")
	}
}

// TestZ1Bytes: each byte at each place of a text, instead of the one there and beside it.
func TestZ1Bytes(t *testing.T) {
	for _, s := range []string{`base=;min=1`, `base=a=\;1,b=2;max=3;class=a`, `base=;before=a=\\;after=b=1`} {
		for i := range len(s) + 1 {
			for c := range 256 {
				b := string([]byte{byte(c)})
				checkText(t, s[:i]+b+s[i:])
				if i < len(s) {
					checkText(t, s[:i]+b+s[i+1:])
				}
			}
			if i < len(s) {
				checkText(t, s[:i]+s[i+1:])
				checkText(t, s[:i])
				checkText(t, s[i:])
			}
		}
	}
}

// name draws one of few steps whose values need escapes.
func (r *draws) name(most int) api.Dn {
	var n api.Dn
	for range r.below(most + 1) {
		step := api.Rdn{{Type: r.of("a", "cn", "X-1"), Value: r.text(4, "aB1 ;\\,+=#\"<>\x00\x1f\x7f\x80é")}}
		if r.one(4) {
			step = append(step, api.Ava{Type: r.of("b", "ou"), Value: r.text(2, "x; ")})
		}
		n = append(n, step)
	}
	return n
}

func (r *draws) names(most int) []api.Dn {
	var all []api.Dn
	for range r.below(most + 1) {
		n := r.name(3)
		if len(n) > 0 || r.one(30) {
			all = append(all, n)
		}
	}
	return all
}

func (r *draws) spec() api.Spec {
	x := api.Spec{Base: r.name(3), Max: -1, Before: r.names(2), After: r.names(2), Classes: r.list(2, "person", "A", "b-2")}
	if r.one(2) {
		x.Min = r.below(18)
	}
	if r.one(2) {
		x.Max = r.below(18)
	}
	if r.one(20) {
		x.Before, x.Classes = r.names(6), r.list(6, "a", "", "c", "d;")
	}
	return x
}

// TestZ1Drawn: drawn specifications, and their texts with parts and bytes put in, taken out and changed.
func TestZ1Drawn(t *testing.T) {
	r := draws(16)
	right, texts := 0, 0
	for range 20000 {
		x := r.spec()
		if checkSpec(t, x) {
			right++
		}
		s := textByWords(x)
		for range r.below(3) {
			at := r.below(len(s) + 1)
			to := min(at+r.below(3), len(s))
			s = s[:at] + r.text(2, `;=\a1 ,b`) + s[to:]
		}
		if r.one(4) {
			list := strings.Split(s, ";")
			i, j := r.below(len(list)), r.below(len(list))
			list[i], list[j] = list[j], list[i]
			s = strings.Join(list, ";")
		}
		if checkText(t, s) {
			texts++
		}
	}
	if right < 5000 || right > 19500 || texts < 3000 || texts > 18000 {
		t.Errorf("%d right ones, %d texts", right, texts)
	}
}

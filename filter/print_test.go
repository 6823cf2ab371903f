package filter_test

import (
	"math"
	"strings"
	"testing"

	"palatine/api"
	"palatine/filter"
)

// TestE3Kinds: the text of each kind, with and without what it has.
func TestE3Kinds(t *testing.T) {
	a, b := about(api.Present, "a", "x"), about(api.Equal, "b", "1")
	for _, x := range []struct {
		text string
		f    api.Filter
	}{
		{"(&)", api.Filter{}}, {"(|)", of(api.Or)}, {"(!)", of(api.Not)}, {"(&(a=*))", of(api.And, a)}, {"(&(a=*)(b=1)(a=*))", of(api.And, a, b, a)}, {"(|(b=1)(a=*))", of(api.Or, b, a)}, {"(!(b=1))", of(api.Not, b, a)}, {"(!(!(a=*)))", not(not(a))},
		{"(b=1)", b}, {"(b>=1)", about(api.AtLeast, "b", "1")}, {"(b<=1)", about(api.AtMost, "b", "1")}, {"(=)", about(api.Equal, "", "")}, {"(>=)", about(api.AtLeast, "", "")}, {"(<=)", about(api.AtMost, "", "")}, {"(=*)", about(api.Present, "", "")},
		{"(a=*)", sub("a", "", "")}, {"(a=b*)", sub("a", "b", "")}, {"(a=*c)", sub("a", "", "c")}, {"(a=b*c)", sub("a", "b", "c")}, {"(a=*d*)", sub("a", "", "", "d")}, {"(a=b*d*e*c)", sub("a", "b", "c", "d", "e")}, {"(a=**)", sub("a", "", "", "")}, {"(a=***)", sub("a", "", "", "", "")},
		{"(a=B* D *c )", sub("a", "B", "c ", " D ")}, {`(A(*)\` + "\x00" + `=*)`, about(api.Present, "A(*)\\\x00", "")}, {"(a)=1)", about(api.Equal, "a)", "1")}, {"(*=*)", sub("*", "", "")},
	} {
		if got := filter.Print(x.f); got != x.text {
			t.Errorf("Print(%+v): got %q, want %q", x.f, got, x.text)
		}
		checkPrint(t, x.f)
	}
}

// TestE3Fields: a kind's text has nothing of fields that are not its own.
func TestE3Fields(t *testing.T) {
	full := api.Filter{Kids: []api.Filter{{Kind: api.Or}, {Kind: api.Not}}, Type: "t", Value: "v", First: "f", Any: []string{"x", "y"}, Last: "l"}
	for kind, want := range []string{"(&(|)(!))", "(|(|)(!))", "(!(|))", "(t=v)", "(t=f*x*y*l)", "(t>=v)", "(t<=v)", "(t=*)"} {
		full.Kind = kind
		if got := filter.Print(full); got != want {
			t.Errorf("Print(%+v): got %q, want %q", full, got, want)
		}
	}
	for _, kind := range []int{math.MinInt, -1 << 32, -2, -1, 8, 9, 10, 256, 1 << 32, math.MaxInt} {
		full.Kind = kind
		if got := filter.Print(of(api.And, full, not(full))); got != "(&(?)(!(?)))" {
			t.Errorf("Print(%+v): got %q", full, got)
		}
		checkPrint(t, full)
	}
}

// TestE3Escapes: each byte, in a value and in each part.
func TestE3Escapes(t *testing.T) {
	texts := map[byte]string{0: `\00`, '(': `\28`, ')': `\29`, '*': `\2a`, '\\': `\5c`}
	check := func(f api.Filter, want string) {
		t.Helper()
		if got := filter.Print(f); got != want {
			t.Errorf("Print(%+v): got %q, want %q", f, got, want)
		}
		checkPrint(t, f)
	}
	all := ""
	for i := range 256 {
		c := string([]byte{byte(i)})
		text, escaped := texts[byte(i)]
		if !escaped {
			text = c
		}
		all += text
		check(about(api.Equal, "a", c), "(a="+text+")")
		check(about(api.Equal, "a", c+"x"+c+c), "(a="+text+"x"+text+text+")")
		check(about(api.AtLeast, "a", c), "(a>="+text+")")
		check(about(api.AtMost, "a", c), "(a<="+text+")")
		check(sub("a", c, ""), "(a="+text+"*)")
		check(sub("a", "", c), "(a=*"+text+")")
		check(sub("a", "", "", c, c+c), "(a=*"+text+"*"+text+text+"*)")
		check(about(api.Present, c, c), "("+c+"=*)")
	}
	check(about(api.Equal, "a", allBytes()), "(a="+all+")")
	check(sub("a", allBytes(), allBytes(), allBytes()), "(a="+all+"*"+all+"*"+all+")")
	check(about(api.Equal, "a", "\u00e9\u212a\xff"), "(a=\u00e9\u212a\xff)")
}

// TestE3Levels: what is on the seventh level is not printed, whatever it is.
func TestE3Levels(t *testing.T) {
	open := []string{"(&", "(|", "(!"}
	for around := range 12 {
		for kind := range 3 {
			for kid, text := range map[int]string{api.And: "(&)", api.Not: "(!)", api.Present: "(=*)", api.Equal: "(=)", api.Sub: "(=*)", 8: "(?)"} {
				levels := around
				if around > 5 {
					levels, text = 6, "(?)"
				}
				want := strings.Repeat(open[kind], levels) + text + strings.Repeat(")", levels)
				if got := filter.Print(nest(kind, around, of(kid))); got != want {
					t.Errorf("%v levels of %v: got %q, want %q", around, kind, got, want)
				}
			}
		}
	}
	deep, a := nest(api.And, 5, of(api.And, of(api.Or), of(api.Equal))), about(api.Present, "a", "")
	if got := filter.Print(of(api.Or, a, deep, a)); got != "(|(a=*)(&(&(&(&(&(?))))))(a=*))" {
		t.Errorf("got %q", got)
	}
	if got := filter.Print(deep); got != "(&(&(&(&(&(&(?)(?)))))))" {
		t.Errorf("got %q", got)
	}
}

// TestE3Many: a filter of many kids, which all share their lists.
func TestE3Many(t *testing.T) {
	kids := make([]api.Filter, 1000)
	for i := range kids {
		kids[i] = sub("a", "(", "", make([]string, 10)...)
	}
	f := of(api.Or, of(api.And, kids...), not(of(api.And, kids...)))
	want := strings.Repeat(`(a=\28***********)`, 1000)
	if got := filter.Print(f); got != "(|(&"+want+")(!(&"+want+")))" {
		t.Errorf("%v bytes", len(got))
	}
}

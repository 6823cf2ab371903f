package filter_test

import (
	"math"
	"slices"
	"strings"
	"testing"

	"palatine/api"
	"palatine/filter"
)

// leaves are filters that evaluate to False, True and Unknown on the entry.
func leaves() ([3]api.Filter, []api.Attr) {
	return [3]api.Filter{about(api.Equal, "dc", "x"), about(api.Present, "cn", ""), about(api.Equal, "none", "x")}, []api.Attr{attr("cn", "a")}
}

func checkEval(t *testing.T, m model, entry []api.Attr, f api.Filter, want int) {
	t.Helper()
	if got := filter.Eval(m.made, entry, f); got != want {
		t.Errorf("Eval(%q, %+v): got %v, want %v", entry, f, got, want)
	}
	m.check(t, entry, f)
}

// TestExamples are the chapter's.
func TestExamples(t *testing.T) {
	m := newModel(t, example())
	entry := []api.Attr{attr("objectClass", "person"), attr("cn", "Al Bo"), attr("age", "7")}
	isHere, isX, none := about(api.Present, "cn", ""), about(api.Equal, "dc", "x"), about(api.Equal, "none", "x")
	for _, x := range []struct {
		text string
		f    api.Filter
		want int
	}{
		{"(cn=al bo)", about(api.Equal, "cn", "al bo"), api.True}, {"(cn=*)", isHere, api.True}, {"(dc=x)", isX, api.False}, {"(none=x)", none, api.Unknown}, {"(age=x)", about(api.Equal, "age", "x"), api.Unknown},
		{"(age>=5)", about(api.AtLeast, "age", "5"), api.True}, {"(age<=-1)", about(api.AtMost, "age", "-1"), api.False}, {"(cn>=am)", about(api.AtLeast, "cn", "am"), api.False},
		{"(cn=a*o)", sub("cn", "a", "o"), api.True}, {"(cn=al *o)", sub("cn", "al ", "o"), api.True}, {"(cn=*l*l*)", sub("cn", "", "", "l", "l"), api.False}, {"(cn=*O)", sub("cn", "", "O"), api.True},
		{"(&(cn=*)(none=x))", of(api.And, isHere, none), api.Unknown}, {"(&(dc=x)(none=x))", of(api.And, isX, none), api.False},
		{"(!(none=x))", not(none), api.Unknown}, {"(|(cn=*)(none=x))", of(api.Or, isHere, none), api.True},
	} {
		checkEval(t, m, entry, x.f, x.want)
		if got := filter.Print(x.f); got != x.text {
			t.Errorf("Print: got %q, want %q", got, x.text)
		}
	}
}

// TestE1Joined: all lists of kids that are false, true and unknown.
func TestE1Joined(t *testing.T) {
	m := newModel(t, example())
	kids, entry := leaves()
	for want, kid := range kids {
		checkEval(t, m, entry, kid, want)
	}
	for _, list := range allLists(5, 0, 1, 2) {
		var f api.Filter
		for _, result := range list {
			f.Kids = append(f.Kids, kids[result])
		}
		and, or, opposite := api.True, api.False, api.Unknown
		if slices.Contains(list, api.Unknown) {
			and, or = api.Unknown, api.Unknown
		}
		if slices.Contains(list, api.False) {
			and = api.False
		}
		if slices.Contains(list, api.True) {
			or = api.True
		}
		if len(list) > 0 {
			opposite = []int{api.True, api.False, api.Unknown}[list[0]]
		}
		checkEval(t, m, entry, of(api.And, f.Kids...), and)
		checkEval(t, m, entry, of(api.Or, f.Kids...), or)
		checkEval(t, m, entry, of(api.Not, f.Kids...), opposite)
	}
}

// TestE1Within: And, Or and Not of one another.
func TestE1Within(t *testing.T) {
	m := newModel(t, example())
	kids, entry := leaves()
	var inner []api.Filter
	for _, list := range allLists(2, kids[:]...) {
		inner = append(inner, of(api.And, list...), of(api.Or, list...), of(api.Not, list...))
	}
	for _, list := range allLists(2, append(inner, kids[:]...)...) {
		for kind := range 3 {
			m.check(t, entry, of(kind, list...))
			m.check(t, entry, not(of(kind, list...)))
		}
	}
}

// nest puts so many levels of a kind around a filter.
func nest(kind, levels int, f api.Filter) api.Filter {
	for range levels {
		f = of(kind, f)
	}
	return f
}

// TestE1Levels: what is on the seventh level is unknown, whatever it is.
func TestE1Levels(t *testing.T) {
	m := newModel(t, example())
	kids, entry := leaves()
	for around := range 12 {
		for kind := range 3 {
			for result, kid := range kids {
				want := result
				if kind == api.Not && result != api.Unknown {
					want = (result + around) % 2
				}
				if around > 5 {
					want = api.Unknown
				}
				checkEval(t, m, entry, nest(kind, around, kid), want)
			}
		}
	}
	for kind, want := range []int{api.True, api.False, api.Unknown} {
		checkEval(t, m, entry, nest(api.And, 5, of(kind)), want)
		checkEval(t, m, entry, nest(api.And, 6, of(kind)), api.Unknown)
		checkEval(t, m, entry, nest(api.Or, 5, of(kind)), want)
		checkEval(t, m, entry, nest(api.Or, 6, of(kind)), api.Unknown)
	}
}

// TestE1LevelsBeside: what is too deep takes nothing from what is beside it.
func TestE1LevelsBeside(t *testing.T) {
	m := newModel(t, example())
	kids, entry := leaves()
	for _, levels := range []int{4, 5, 6, 7} {
		for deep := range kids {
			for near := range kids {
				a, b := nest(api.And, levels, kids[deep]), kids[near]
				for kind := range 3 {
					m.check(t, entry, of(kind, a, b))
					m.check(t, entry, of(kind, b, a))
					m.check(t, entry, nest(api.Or, 4, of(kind, of(api.And, kids[deep]), b)))
					m.check(t, entry, nest(api.Or, 4, of(kind, b, of(api.And, kids[deep]))))
				}
			}
		}
	}
	checkEval(t, m, entry, of(api.And, nest(api.And, 6, kids[1]), kids[0]), api.False)
	checkEval(t, m, entry, of(api.And, nest(api.And, 6, kids[0]), kids[1]), api.Unknown)
	checkEval(t, m, entry, of(api.Or, nest(api.And, 6, kids[0]), kids[1]), api.True)
	checkEval(t, m, entry, of(api.Or, nest(api.And, 6, kids[1]), kids[0]), api.Unknown)
	checkEval(t, m, entry, of(api.And, nest(api.And, 4, kids[1]), nest(api.And, 4, kids[1])), api.True)
}

// TestE1Kinds: there are eight kinds of filters, and each looks at its own fields alone.
func TestE1Kinds(t *testing.T) {
	m := newModel(t, example())
	kids, _ := leaves()
	entry := []api.Attr{attr("cn", "ab")}
	full := api.Filter{Kids: []api.Filter{kids[1]}, Type: "cn", Value: "ab", First: "a", Last: "b"}
	for _, kind := range []int{math.MinInt, -1 << 32, -256, -3, -2, -1, 8, 9, 10, 256, 259, 1 << 32, math.MaxInt} {
		full.Kind = kind
		checkEval(t, m, entry, full, api.Unknown)
		checkEval(t, m, entry, not(full), api.Unknown)
	}
	full.Value, full.First, full.Last = "abc", "x", "y"
	for kind, want := range []int{api.True, api.True, api.False, api.False, api.False, api.False, api.True, api.True} {
		full.Kind = kind
		checkEval(t, m, entry, full, want)
	}
	checkEval(t, m, entry, api.Filter{}, api.True)
}

// TestE1Present: an attribute is there with and without values, but not because of a name that is only similar.
func TestE1Present(t *testing.T) {
	m := newModel(t, plenty())
	names := []string{"", " ", "none", "tex", "text ", " text", "text22", "nu", "num-", "\u212a", "\u017f", "objectclas", "text\x00", "b\x00ss"}
	for _, x := range m.words.Types {
		names = append(names, x.Name, strings.ToUpper(x.Name), strings.ToLower(x.Name), " "+x.Name)
	}
	for _, name := range names {
		for _, other := range names {
			for _, entry := range [][]api.Attr{{attr(other)}, {attr("boss", "x"), attr(other, "a", "")}} {
				m.check(t, entry, about(api.Present, name, "b"))
			}
		}
		m.check(t, nil, about(api.Present, name, ""))
	}
	checkEval(t, m, []api.Attr{attr("tExT")}, about(api.Present, "TeXt", ""), api.True)
	checkEval(t, m, []api.Attr{attr("text2", "a")}, about(api.Present, "text", ""), api.False)
	checkEval(t, m, []api.Attr{attr("none", "a")}, about(api.Present, "none", ""), api.Unknown)
	checkEval(t, m, []api.Attr{attr("\u212a", "a")}, about(api.Present, "k", ""), api.False)
	checkEval(t, m, []api.Attr{attr("k", "a")}, about(api.Present, "\u212a", ""), api.Unknown)
}

// TestE1Values: each value of each syntax against each other one, with all kinds of filters.
func TestE1Values(t *testing.T) {
	m := newModel(t, plenty())
	for _, x := range m.words.Types {
		for _, asked := range pool(x.Syntax) {
			for kind := api.Equal; kind <= api.Present; kind++ {
				f := about(kind, strings.ToUpper(x.Name), asked)
				f.First = asked
				m.check(t, nil, f)
				m.check(t, []api.Attr{attr(x.Name)}, f)
				for _, value := range pool(x.Syntax) {
					m.check(t, []api.Attr{attr(x.Name, value)}, f)
					m.check(t, []api.Attr{attr("none", asked), attr(x.Name, "\x01", "-77", value, "zz"), attr(x.Name, asked)}, f)
				}
			}
		}
	}
}

// TestE1Orders: values below, at and above that of the filter, of each syntax.
func TestE1Orders(t *testing.T) {
	m := newModel(t, plenty())
	for _, x := range []struct {
		name, value, asked string
		results            [3]int // Equal, AtLeast, AtMost
	}{
		{"text", "A  b", "a B", [3]int{1, 1, 1}}, {"text", "a", "B", [3]int{0, 0, 1}}, {"text", "B", "a", [3]int{0, 1, 0}}, {"text", "a", "ab", [3]int{0, 0, 1}}, {"text", "a\xff", "a", [3]int{0, 1, 0}},
		{"text", "a", " ", [3]int{2, 2, 2}}, {"text", " ", "a", [3]int{0, 0, 0}}, {"text", "", "", [3]int{2, 2, 2}},
		{"exact", "a", "A", [3]int{0, 1, 0}}, {"exact", "A", "a", [3]int{0, 0, 1}}, {"exact", " a", "a", [3]int{0, 0, 1}}, {"exact", "", "", [3]int{1, 1, 1}}, {"exact", "a", "", [3]int{0, 1, 0}}, {"exact", "10", "9", [3]int{0, 0, 1}},
		{"num-1", "10", "9", [3]int{0, 1, 0}}, {"num-1", "-10", "-9", [3]int{0, 0, 1}}, {"num-1", "0", "-1", [3]int{0, 1, 0}}, {"num-1", "5", "5", [3]int{1, 1, 1}}, {"num-1", "05", "5", [3]int{0, 0, 0}}, {"num-1", "5", "05", [3]int{2, 2, 2}}, {"num-1", "5", "", [3]int{2, 2, 2}},
		{"boss", "cn=a", "CN=A", [3]int{1, 2, 2}}, {"boss", "cn=a", "cn=b", [3]int{0, 2, 2}}, {"boss", "", "", [3]int{1, 2, 2}}, {"boss", "x", "", [3]int{0, 2, 2}}, {"boss", "", "x", [3]int{2, 2, 2}},
		{"flag", "true", "TRUE", [3]int{1, 2, 2}}, {"flag", "FALSE", "TRUE", [3]int{0, 2, 2}}, {"flag", "TRUE", "yes", [3]int{2, 2, 2}}, {"flag", "yes", "true", [3]int{0, 2, 2}},
		{"none", "a", "a", [3]int{2, 2, 2}}, {"", "", "", [3]int{2, 2, 2}},
	} {
		for i, kind := range []int{api.Equal, api.AtLeast, api.AtMost} {
			checkEval(t, m, []api.Attr{attr(x.name, x.value)}, about(kind, x.name, x.asked), x.results[i])
		}
	}
}

// TestE1Lengths: a value of the filter that is too long has no norm, and nor has one of the entry; Sub asks for no norms.
func TestE1Lengths(t *testing.T) {
	m := newModel(t, plenty())
	for _, name := range []string{"text", "exact"} {
		for _, n := range []int{199, 200, 201, 202, 300, 5000} {
			value, same, none, far := strings.Repeat("a", n), api.True, api.False, api.True
			if n > 200 {
				same, none, far = api.Unknown, api.Unknown, api.False
			}
			entry := []api.Attr{attr(name, value)}
			for _, kind := range []int{api.Equal, api.AtLeast, api.AtMost} {
				checkEval(t, m, entry, about(kind, name, value), same)
				checkEval(t, m, nil, about(kind, name, value), none)
			}
			checkEval(t, m, entry, about(api.AtLeast, name, "a"), far)
			checkEval(t, m, entry, about(api.AtMost, name, "b"), far)
			checkEval(t, m, entry, sub(name, "", value), api.True)
			checkEval(t, m, entry, sub(name, value, "a"), api.False)
			checkEval(t, m, entry, about(api.Present, name, value), api.True)
		}
	}
}

// TestE1First: of several attributes of a type the first one counts, even if it has no values.
func TestE1First(t *testing.T) {
	m := newModel(t, plenty())
	for _, name := range []string{"text", "exact"} {
		filters := []api.Filter{about(api.Equal, name, "ab"), about(api.AtLeast, name, "ab"), about(api.AtMost, name, "ab"), sub(name, "a", "b")}
		for i, f := range filters {
			checkEval(t, m, []api.Attr{attr(strings.ToUpper(name), "ab"), attr(name, "c")}, f, api.True)
			checkEval(t, m, []api.Attr{attr(name, "ab"), attr(name)}, f, api.True)
			checkEval(t, m, []api.Attr{attr(strings.ToUpper(name)), attr(name, "ab")}, f, api.False)
			checkEval(t, m, []api.Attr{attr(name, "zz", "a", "ab"), attr(name, "c")}, f, api.True)
			first := []string{"ac", "aa", "ac", "ac"}[i]
			checkEval(t, m, []api.Attr{attr(name, first), attr(name, "ab"), attr(name+"x", "ab")}, f, api.False)
		}
	}
}

// TestE1Drawn: drawn filters of up to eight levels on drawn entries.
func TestE1Drawn(t *testing.T) {
	r, counts := draws(1), [3]int{}
	for _, words := range []api.Schema{plenty(), example()} {
		m := newModel(t, words)
		for i := range 8000 {
			f := r.filter(m, 1+i%8)
			entry := r.entry(m)
			counts[m.check(t, entry, f)]++
			checkPrint(t, f)
		}
	}
	for result, n := range counts {
		if n < 1500 {
			t.Errorf("%v results %v", n, result)
		}
	}
}

package filter_test

import (
	"reflect"
	"slices"
	"testing"

	"palatine/api"
	"palatine/filter"
)

// TestE4Not: twice denied is the filter itself, as long as it is not too deep.
func TestE4Not(t *testing.T) {
	m, r, counts := newModel(t, plenty()), draws(2), [3]int{}
	for range 10000 {
		f, entry := r.filter(m, 4), r.entry(m)
		once, twice := filter.Eval(m.made, entry, not(f)), filter.Eval(m.made, entry, not(not(f)))
		got := filter.Eval(m.made, entry, f)
		if twice != got || once != []int{1, 0, 2}[got] {
			t.Errorf("Eval(%q, %+v): %v, denied %v, twice %v", entry, f, got, once, twice)
		}
		counts[got]++
	}
	if slices.Min(counts[:]) < 500 {
		t.Error("results", counts)
	}
}

// TestE4Join: a denied And is the Or of what is denied, and the other way round.
func TestE4Join(t *testing.T) {
	m, r, counts := newModel(t, plenty()), draws(3), [3]int{}
	for range 10000 {
		entry := r.entry(m)
		var kids, denied []api.Filter
		for range r.below(4) {
			f := r.filter(m, 4)
			kids, denied = append(kids, f), append(denied, not(f))
		}
		for _, kinds := range [][2]int{{api.And, api.Or}, {api.Or, api.And}} {
			a := filter.Eval(m.made, entry, not(of(kinds[0], kids...)))
			b := filter.Eval(m.made, entry, of(kinds[1], denied...))
			if a != b {
				t.Errorf("on %q, %+v: %v and %v", entry, kids, a, b)
			}
			counts[a]++
		}
	}
	if slices.Min(counts[:]) < 500 {
		t.Error("results", counts)
	}
}

// TestE4Unknown: whether a filter of one level is unknown is the same on all entries.
func TestE4Unknown(t *testing.T) {
	m, r, counts := newModel(t, plenty()), draws(4), [2]int{}
	for range 5000 {
		f := r.filter(m, 1)
		on := filter.Eval(m.made, nil, f) == api.Unknown
		for range 4 {
			entry := r.entry(m)
			if unknown := filter.Eval(m.made, entry, f) == api.Unknown; unknown != on {
				t.Errorf("Eval(%q, %+v): unknown %v, but %v of an empty entry", entry, f, unknown, on)
			}
		}
		if on {
			counts[0]++
		} else {
			counts[1]++
		}
	}
	if slices.Min(counts[:]) < 500 {
		t.Error("results", counts)
	}
}

// TestE4Constant: a filter that asks for no type has one result, whatever the entry and the schema.
func TestE4Constant(t *testing.T) {
	m, other, r := newModel(t, plenty()), newModel(t, example()), draws(5)
	var constant func(levels int) api.Filter
	constant = func(levels int) api.Filter {
		f := of(r.below(3))
		if levels > 1 {
			for range r.below(4) {
				f.Kids = append(f.Kids, constant(levels-1))
			}
		}
		return f
	}
	for range 3000 {
		f := constant(7)
		want := m.check(t, nil, f)
		checkEval(t, m, r.entry(m), f, want)
		checkEval(t, other, r.entry(other), f, want)
	}
}

func cloneFilter(f api.Filter) api.Filter {
	f.Any = slices.Clone(f.Any)
	kids := slices.Clone(f.Kids)
	for i := range kids {
		kids[i] = cloneFilter(kids[i])
	}
	f.Kids = kids
	return f
}

func cloneEntry(entry []api.Attr) []api.Attr {
	entry = slices.Clone(entry)
	for i := range entry {
		entry[i].Values = slices.Clone(entry[i].Values)
	}
	return entry
}

// TestR5Arguments: neither the entry nor the filter is changed, and nothing of them is kept.
func TestR5Arguments(t *testing.T) {
	m, r := newModel(t, plenty()), draws(6)
	for range 3000 {
		entry, f := r.entry(m), r.filter(m, 5)
		e, g := cloneEntry(entry), cloneFilter(f)
		m.check(t, entry, f)
		text := filter.Print(f)
		if !reflect.DeepEqual(entry, e) || !reflect.DeepEqual(f, g) {
			t.Errorf("changed: %q to %q, %+v to %+v", e, entry, g, f)
		}
		for i := range entry {
			clear(entry[i].Values)
		}
		clear(entry)
		clear(f.Kids)
		clear(f.Any)
		m.check(t, e, g)
		if filter.Print(g) != text {
			t.Errorf("Print(%+v) is %q, and was %q", g, filter.Print(g), text)
		}
	}
}

// TestR5Beyond: what is behind the ends of the lists in their arrays stays.
func TestR5Beyond(t *testing.T) {
	m := newModel(t, plenty())
	middle, kids := []string{" A", "B ", "C"}, []api.Filter{sub("text", "", ""), {}, about(api.Equal, "text", "x")}
	kids[0].Any = middle[:2]
	values := []string{"x a b y", "y", "z"}
	entry := []api.Attr{attr("text", values[:2]...), attr("flag", "TRUE")}
	checkEval(t, m, entry[:1], of(api.And, kids[:2]...), api.True)
	if got := filter.Print(of(api.And, kids[:2]...)); got != "(&(text=* A*B *)(&))" {
		t.Errorf("Print: %q", got)
	}
	if !slices.Equal(middle, []string{" A", "B ", "C"}) || !slices.Equal(values, []string{"x a b y", "y", "z"}) || kids[2].Value != "x" || entry[1].Values[0] != "TRUE" {
		t.Error("changed:", middle, values, kids, entry)
	}
}

// TestR4Nil: a nil list is as good as an empty one.
func TestR4Nil(t *testing.T) {
	m := newModel(t, plenty())
	for kind := range 9 {
		for _, name := range []string{"text", "exact", "num", "flag", "none"} {
			f := api.Filter{Kind: kind, Type: name, Value: "TRUE", First: "T"}
			g := api.Filter{Kind: kind, Type: name, Value: "TRUE", First: "T", Kids: []api.Filter{}, Any: []string{}}
			for _, entry := range [][]api.Attr{nil, {}, {{Type: name}}, {{Type: name, Values: []string{}}}, {attr(name, "TRUE")}} {
				if a, b := m.check(t, entry, f), m.check(t, entry, g); a != b {
					t.Errorf("on %q: %v and %v", entry, a, b)
				}
			}
			if a, b := filter.Print(f), filter.Print(g); a != b {
				t.Errorf("printed: %q and %q", a, b)
			}
			if a, b := filter.Eval(m.made, nil, f), filter.Eval(m.made, []api.Attr{}, f); a != b {
				t.Errorf("of entries without attributes: %v and %v", a, b)
			}
		}
	}
}

// TestR1Within: a filter that is within itself ends with the sixth level.
func TestR1Within(t *testing.T) {
	m := newModel(t, plenty())
	for kind, want := range []string{"(&(&(&(&(&(&(?)))))))", "(|(|(|(|(|(|(?)))))))", "(!(!(!(!(!(!(?)))))))"} {
		kids := []api.Filter{{Kind: kind}}
		kids[0].Kids = kids
		if got := filter.Print(kids[0]); got != want {
			t.Errorf("Print: got %q, want %q", got, want)
		}
		if got := filter.Eval(m.made, nil, kids[0]); got != api.Unknown {
			t.Errorf("Eval: %v", got)
		}
	}
}

// TestR6Again: a call leaves nothing behind: each filter evaluates the same after all others, and with a schema of its own.
func TestR6Again(t *testing.T) {
	m, r := newModel(t, plenty()), draws(7)
	var filters []api.Filter
	var results []int
	entry := []api.Attr{attr("text", "a", " A  B"), attr("exact", "a", " "), attr("num", "1"), attr("flag", "TRUE"), attr("boss", "cn=a")}
	for range 500 {
		f := r.filter(m, 5)
		filters, results = append(filters, f), append(results, filter.Eval(m.made, entry, f))
	}
	for i, f := range slices.Backward(filters) {
		if got := filter.Eval(m.made, entry, f); got != results[i] {
			t.Errorf("Eval(%+v): %v, and was %v", f, got, results[i])
		}
		if got := filter.Eval(newModel(t, plenty()).made, entry, f); got != results[i] {
			t.Errorf("Eval(%+v): %v with a new schema, and was %v", f, got, results[i])
		}
	}
}

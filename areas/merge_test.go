package areas_test

import (
	"fmt"
	"slices"
	"strings"
	"testing"

	"palatine/api"
	"palatine/areas"
)

// everywhere is a subentry of the point dc=x that selects all entries below it.
func everywhere(attrs ...api.Attr) api.Subentry {
	return api.Subentry{Point: named("dc=x"), Spec: api.Spec{Max: -1}, Attrs: attrs}
}

// checkMerged holds the result for cn=a,dc=x against the words and against a list.
func checkMerged(t *testing.T, entry []api.Attr, subs []api.Subentry, want ...api.Attr) {
	t.Helper()
	got := checkMerge(t, made(t, plenty()), named("cn=a,dc=x"), entry, subs...)
	if shown(got) != shown(want) {
		t.Errorf("Merge(%q, %+v): got %q, want %q", entry, subs, got, want)
	}
}

// TestZ3Own: of the entry's own attributes only those go whose types are Shared.
func TestZ3Own(t *testing.T) {
	checkMerged(t, nil, nil)
	checkMerged(t, []api.Attr{attr("city", "Ulm")}, nil)
	own := []api.Attr{attr("none", "x", "x"), attr(""), attr("CN", "b", "a", "B", "", strings.Repeat("x", 300)), attr("cn", "b"), attr("note"), attr("objectClass", "person"), attr("cit", "x"), attr("city ", "x"), attr("\u212a", "x"), attr("sharedExclusions", "x")}
	checkMerged(t, own, nil, own...)
	checkMerged(t, own, []api.Subentry{everywhere(attr("CN", "c"), attr("none", "y"), attr("", "y"), attr("city ", "y"), attr("\u212a", "z"))}, own...)
	for i := range len(own) + 1 {
		for _, kind := range []string{"City", "CITY", "code", "FLOOR", "boss", "open", "k"} {
			checkMerged(t, slices.Insert(slices.Clone(own), i, attr(kind, "1"), attr(kind), attr(kind, "cn=a")), nil, own...)
		}
	}
	checkMerged(t, append(slices.Clone(own), attr("CITY", "own")), []api.Subentry{everywhere(attr("city", "OWN"))}, append(slices.Clone(own), attr("city", "OWN"))...)
}

// TestZ3Selected: only subentries that select the entry share anything with it.
func TestZ3Selected(t *testing.T) {
	person := attr("objectClass", "person")
	city := []api.Attr{attr("city", "Ulm")}
	for _, z := range []struct {
		sub  api.Subentry
		want bool
	}{
		{api.Subentry{Point: named("DC=X"), Spec: api.Spec{Max: -1}}, true}, {api.Subentry{Point: named("dc=y"), Spec: api.Spec{Max: -1}}, false}, {api.Subentry{Spec: api.Spec{Max: -1}}, true}, {api.Subentry{Point: named("dc=x")}, false}, {api.Subentry{Point: named("cn=a,dc=x")}, true}, {api.Subentry{Point: named("cn=b,cn=a,dc=x"), Spec: api.Spec{Max: -1}}, false},
		{api.Subentry{Point: named("dc=x"), Spec: api.Spec{Min: 2, Max: -1}}, false}, {api.Subentry{Point: named("dc=x"), Spec: api.Spec{Max: -1, Classes: []string{"top"}}}, true}, {api.Subentry{Point: named("dc=x"), Spec: api.Spec{Max: -1, Classes: []string{"place"}}}, false}, {api.Subentry{Point: named("dc=x"), Spec: api.Spec{Base: named("cn=A"), Max: 0}}, true},
		{api.Subentry{Point: named("dc=x"), Spec: api.Spec{Max: 1, Before: names("cn=a")}}, false}, {api.Subentry{Point: named("dc=x"), Spec: api.Spec{Max: 1, After: names("cn=a")}}, true},
	} {
		z.sub.Attrs = city
		want := []api.Attr{person}
		if z.want {
			want = append(want, city...)
		}
		checkMerged(t, []api.Attr{person}, []api.Subentry{z.sub}, want...)
		other := everywhere(attr("code", "1"))
		checkMerged(t, []api.Attr{person}, []api.Subentry{z.sub, other}, append(slices.Clone(want), other.Attrs...)...)
		checkMerged(t, []api.Attr{person}, []api.Subentry{other, z.sub}, slices.Insert(slices.Clone(want), 1, other.Attrs...)...)
	}
}

// TestZ3OwnClasses: what a subentry selects depends on the entry's own attributes alone.
func TestZ3OwnClasses(t *testing.T) {
	byClass := everywhere(attr("city", "Ulm"))
	byClass.Spec.Classes = []string{"person"}
	checkMerged(t, nil, []api.Subentry{everywhere(attr("objectClass", "person")), byClass})
	checkMerged(t, nil, []api.Subentry{everywhere(attr("sharedExclusions", "all")), everywhere(attr("city", "Ulm"))}, attr("city", "Ulm"))
}

// TestZ3Order: attributes are in the order in which they were first shared, and so are values.
func TestZ3Order(t *testing.T) {
	city, code := attr("city", "Ulm"), attr("code", "1")
	checkMerged(t, nil, []api.Subentry{everywhere(city, code)}, city, code)
	checkMerged(t, nil, []api.Subentry{everywhere(code, city)}, code, city)
	checkMerged(t, nil, []api.Subentry{everywhere(code), everywhere(city, attr("CODE", "0", "2"))}, attr("code", "1", "0", "2"), city)
	checkMerged(t, []api.Attr{attr("code", "7"), attr("cn", "x"), attr("city", "y"), attr("note", "z")}, []api.Subentry{everywhere(city), everywhere(code)}, attr("cn", "x"), attr("note", "z"), city, code)
	checkMerged(t, nil, []api.Subentry{everywhere(attr("floor", "2"), attr("floor", "1"), attr("FLOOR", "3"))}, attr("floor", "2", "1", "3"))
	checkMerged(t, nil, []api.Subentry{everywhere(attr("cITY", "a"), attr("CITY", "b")), everywhere(attr("city", "c"))}, attr("cITY", "a", "b", "c"))
}

// TestZ3Omitted: values without norms or with norms that are there already, and attributes that have no others.
func TestZ3Omitted(t *testing.T) {
	checkMerged(t, nil, []api.Subentry{everywhere(attr("city"), attr("code"), attr("boss", "x"))})
	checkMerged(t, nil, []api.Subentry{everywhere(attr("city", " ", "", "A  b", "a B", " ab", "c", "A b "))}, attr("city", "A  b", " ab", "c"))
	checkMerged(t, nil, []api.Subentry{everywhere(attr("city", "a", "b")), everywhere(attr("CITY", " A", "c", "B ", "C"))}, attr("city", "a", "b", "c"))
	checkMerged(t, nil, []api.Subentry{everywhere(attr("CITY", " "), attr("code", "x"), attr("city", "Ulm"))}, attr("code", "x"), attr("city", "Ulm"))
	checkMerged(t, nil, []api.Subentry{everywhere(attr("CITY")), everywhere(attr("city", "Ulm"))}, attr("city", "Ulm"))
	checkMerged(t, nil, []api.Subentry{everywhere(attr("code", "a", "A", "a ", "", "a", ""))}, attr("code", "a", "A", "a ", ""))
	checkMerged(t, nil, []api.Subentry{everywhere(attr("floor", "07", "7", "-7", "+7", "", "7", "x", "1234567890"))}, attr("floor", "7", "-7"))
	checkMerged(t, nil, []api.Subentry{everywhere(attr("boss", "CN=a", "cn=A", "x", "", "cn=\\ a", "cn=b"))}, attr("boss", "CN=a", "", "cn=b"))
	checkMerged(t, nil, []api.Subentry{everywhere(attr("open", "true", "TRUE", "no", "False", "FALSE"))}, attr("open", "true", "False"))
	long := strings.Repeat("x", 200)
	checkMerged(t, nil, []api.Subentry{everywhere(attr("code", long+"x", long), attr("city", " "+long, long))}, attr("code", long), attr("city", long))
	checkMerged(t, nil, []api.Subentry{everywhere(attr("code", "x"), attr("k", "x"), attr("city", "x"))}, attr("code", "x"), attr("k", "x"), attr("city", "x"))
}

// TestZ3Excluded: an entry excludes types by its first attribute sharedExclusions.
func TestZ3Excluded(t *testing.T) {
	city, code := attr("City", "Ulm"), attr("code", "1")
	subs := []api.Subentry{everywhere(city), everywhere(code)}
	for _, z := range []struct {
		entry      []api.Attr
		city, code bool
	}{
		{[]api.Attr{attr("sharedExclusions")}, true, true}, {[]api.Attr{attr("sharedExclusions", "city")}, false, true}, {[]api.Attr{attr("SHAREDexclusions", "CITY")}, false, true}, {[]api.Attr{attr("sharedExclusions", "none", "CODE", "cn")}, true, false}, {[]api.Attr{attr("sharedExclusions", "code", "city")}, false, false},
		{[]api.Attr{attr("sharedExclusions", "all")}, false, false}, {[]api.Attr{attr("sharedExclusions", "x", "aLL")}, false, false}, {[]api.Attr{attr("sharedExclusions", "", "al", "all ", " all", "alle", "a", "*")}, true, true}, {[]api.Attr{attr("sharedExclusions", "city ", " city", "cit", "cityy", "")}, true, true},
		{[]api.Attr{attr("sharedExclusions", "code"), attr("sharedExclusions", "city")}, true, false}, {[]api.Attr{attr("sharedExclusions"), attr("sharedExclusions", "all")}, true, true}, {[]api.Attr{attr("sharedExclusions", "x"), attr("SHAREDEXCLUSIONS", "all")}, true, true}, {[]api.Attr{attr("cn", "all"), attr("sharedExclusions", "city")}, false, true},
		{[]api.Attr{attr("cn", "all", "city")}, true, true}, {[]api.Attr{attr("sharedExclusion", "all")}, true, true}, {[]api.Attr{attr("sharedExclusionss", "all")}, true, true}, {[]api.Attr{attr("\u017fharedExclusions", "all")}, true, true}, {[]api.Attr{attr("sharedExclusions", "a\u017f\u017f", "c\u0130ty")}, true, true}, {[]api.Attr{attr("sharedExclusions ", "all")}, true, true}, {[]api.Attr{attr("sharedExclusions", "c\xcfty", "[ity", "c\x09ty")}, true, true},
	} {
		want := slices.Clone(z.entry)
		if z.city {
			want = append(want, city)
		}
		if z.code {
			want = append(want, code)
		}
		checkMerged(t, z.entry, subs, want...)
	}
	checkMerged(t, []api.Attr{attr("city", "x"), attr("sharedExclusions", "cITY"), attr("City", "y")}, subs, attr("sharedExclusions", "cITY"), code)
	checkMerged(t, []api.Attr{attr("sharedExclusions", "\u212a")}, []api.Subentry{everywhere(attr("k", "1"))}, attr("sharedExclusions", "\u212a"), attr("k", "1"))
	checkMerged(t, []api.Attr{attr("sharedExclusions", "k")}, []api.Subentry{everywhere(attr("K", "1"))}, attr("sharedExclusions", "k"))
	checkMerged(t, []api.Attr{attr("sharedExclusions", "ZIP")}, []api.Subentry{everywhere(attr("zip", "1"))}, attr("sharedExclusions", "ZIP"))
	checkMerged(t, nil, []api.Subentry{everywhere(attr("zip", "1"), attr("ZiP", "2"))}, attr("zip", "1", "2"))
}

// TestZ3SharedExclusions: if sharedExclusions is Shared, or of no type, it still excludes, though it may not stay.
func TestZ3SharedExclusions(t *testing.T) {
	words := api.Schema{Types: []api.AttrType{{Name: "objectClass", Syntax: 1}, {Name: "city", Syntax: 1, Shared: true}}}
	entry := []api.Attr{attr("sharedExclusions", "city")}
	if got := checkMerge(t, made(t, words), named("dc=x"), entry, everywhere(attr("city", "Ulm"))); shown(got) != shown(entry) {
		t.Errorf("without such a type: got %q", got)
	}
	words.Types = append(words.Types, api.AttrType{Name: "SharedExclusions", Syntax: 1, Shared: true})
	s := made(t, words)
	if got := checkMerge(t, s, named("dc=x"), entry, everywhere(attr("city", "Ulm"))); len(got) != 0 {
		t.Errorf("once: got %q", got)
	}
	once := checkMerge(t, s, named("dc=x"), nil, everywhere(attr("city", "Ulm")), everywhere(entry...))
	if want := []api.Attr{attr("city", "Ulm"), entry[0]}; shown(once) != shown(want) {
		t.Errorf("once: got %q", once)
	}
	twice := checkMerge(t, s, named("dc=x"), once, everywhere(attr("city", "Ulm")), everywhere(entry...))
	if shown(twice) != shown(entry) {
		t.Errorf("twice: got %q", twice)
	}
	if got := checkMerge(t, s, named("dc=x"), []api.Attr{attr("sharedExclusions", "sharedEXCLUSIONS")}, everywhere(attr("city", "Ulm"), attr("sharedExclusions", "x"))); shown(got) != shown([]api.Attr{attr("city", "Ulm")}) {
		t.Errorf("which excludes itself: got %q", got)
	}
}

// drawnMerge draws an entry and subentries, most of which select it.
func (r *draws) drawnMerge() (name api.Dn, entry []api.Attr, subs []api.Subentry) {
	kinds := plenty().Types
	attrs := func(most int) []api.Attr {
		var list []api.Attr
		for range r.below(most + 1) {
			list = append(list, attr(r.cased(kinds[r.below(len(kinds))].Name), r.list(4, "1", "a", "A", " a", "", "person", "cn=a", "CN=A", "TRUE", "true", "code", "-7")...))
		}
		return list
	}
	name = named(r.of("cn=a,ou=b,dc=x", "ou=b,dc=x", "cn=c,cn=a,OU=b,dc=x", "dc=x"))
	entry = attrs(6)
	if r.one(2) {
		at := r.below(len(entry) + 1)
		entry = slices.Insert(entry, at, attr(r.cased("sharedExclusions"), r.list(2, "CITY", "code", "k", "All", "floor", "all ", "boss")...))
	}
	for range r.below(5) {
		sub := api.Subentry{Point: named(r.of("dc=x", "DC=x", "ou=b,dc=x", "")), Spec: api.Spec{Min: r.below(2), Max: r.below(4) - 1}, Attrs: attrs(5)}
		if r.one(4) {
			sub.Spec.Classes = []string{r.of("person", "top")}
		}
		if r.one(4) {
			sub.Spec.Before, sub.Spec.After = names(r.of("cn=a", "cn=c", "ou=b")), names(r.of("cn=a", "cn=b"))
		}
		subs = append(subs, sub)
	}
	return name, entry, subs
}

// TestZ3Drawn: drawn entries and subentries, merged once and twice.
func TestZ3Drawn(t *testing.T) {
	s := made(t, plenty())
	r := draws(3)
	shared := 0
	for range 20000 {
		name, entry, subs := r.drawnMerge()
		once := checkMerge(t, s, name, entry, subs...)
		if slices.ContainsFunc(once, func(a api.Attr) bool { return isShared(s, a.Type) }) {
			shared++
		}
		if twice := checkMerge(t, s, name, once, subs...); shown(twice) != shown(once) {
			t.Errorf("Merge(%q, %q, %+v): once %q, twice %q", name, entry, subs, once, twice)
		}
	}
	if shared < 4000 || shared > 16000 {
		t.Errorf("%d with shared attributes", shared)
	}
}

// TestZ3Many: very many attributes, values and subentries.
func TestZ3Many(t *testing.T) {
	const most = 1 << 15
	var values []string
	var subs []api.Subentry
	for i := range most {
		values = append(values, fmt.Sprint(i))
	}
	for i := range most {
		subs = append(subs, everywhere(attr("code", values[i], "0"), attr("city", "a")))
	}
	s := made(t, plenty())
	for _, list := range [][]api.Subentry{{everywhere(attr("code", append(values, values...)...), attr("city", "A"))}, subs} {
		got := areas.Merge(s, named("dc=x"), slices.Repeat([]api.Attr{attr("cn", "a"), attr("city", "b")}, most), list...)
		if len(got) != most+2 || got[most-1].Type != "cn" || !slices.Equal(got[most].Values, values) || len(got[most+1].Values) != 1 {
			t.Errorf("%d subentries: got %d attributes", len(list), len(got))
		}
	}
}

package areas_test

import (
	"math"
	"slices"
	"testing"

	"palatine/api"
	"palatine/areas"
	"palatine/schema"
)

// TestExamples are the chapter's.
func TestExamples(t *testing.T) {
	s := made(t, plenty())
	point := named("ou=a,dc=x")
	person := []api.Attr{attr("objectClass", "person")}
	all := []string{"dc=x", "ou=a,dc=x", "cn=j,ou=a,dc=x", "cn=k,ou=a,dc=x", "cn=1,cn=k,ou=a,dc=x", "cn=2,cn=1,cn=k,ou=a,dc=x", "cn=3,cn=2,cn=1,cn=k,ou=a,dc=x", "cn=k,ou=b,dc=x"}
	for text, selected := range map[string][]string{
		"base=":                         all[1:7],
		"base=cn=k;min=1;max=2":         all[4:6],
		"base=;before=cn=k":             all[1:3],
		"base=;after=cn=k;class=person": all[1:4],
	} {
		x, e := areas.Parse(text)
		if e != api.OK || !areas.Right(x) || areas.Print(x) != text {
			t.Errorf("%q: got %+v %v", text, x, e)
		}
		for _, name := range all {
			if got := checkMeans(t, s, point, x, named(name), person); got != slices.Contains(selected, name) {
				t.Errorf("%q means %q: got %v", text, name, got)
			}
			if got := checkMeans(t, s, point, x, named(name), nil); got != (slices.Contains(selected, name) && len(x.Classes) == 0) {
				t.Errorf("%q means %q, which is no person: got %v", text, name, got)
			}
		}
	}
	for _, text := range []string{"max=1", "base=;min=0", "base=;min=01", "base=;min=1;min=2"} {
		if x, e := areas.Parse(text); e != api.ErrSpec || shown(x) != shown(api.Spec{}) {
			t.Errorf("%q: got %+v %v", text, x, e)
		}
	}
}

// fewNames are all names of at most so many steps out of two.
func fewNames(most int) []api.Dn {
	all, last := []api.Dn{nil}, []api.Dn{nil}
	for range most {
		var longer []api.Dn
		for _, n := range last {
			longer = append(longer, slices.Concat(named("a=1"), n), slices.Concat(named("b=2"), n))
		}
		all, last = append(all, longer...), longer
	}
	return all
}

// TestZ2Bases: all short points and bases with all names.
func TestZ2Bases(t *testing.T) {
	s := made(t, plenty())
	for _, point := range fewNames(2) {
		for _, base := range fewNames(2) {
			for _, name := range fewNames(5) {
				x := api.Spec{Base: base, Max: -1}
				got := checkMeans(t, s, point, x, name, nil)
				if want := len(name) >= len(base)+len(point) && shown(name[len(name)-len(base)-len(point):]) == shown(slices.Concat(base, point)); got != want {
					t.Errorf("base %q of %q means %q: got %v", base, point, name, got)
				}
			}
		}
	}
}

// TestZ2Depths: all depths with all bounds, also those of specifications that aren't valid.
func TestZ2Depths(t *testing.T) {
	s := made(t, plenty())
	bounds := []int{math.MinInt, math.MinInt + 1, -1 << 32, -3, -2, -1, 0, 1, 2, 3, 4, 5, 6, 15, 16, 17, 1<<32 - 1, 1 << 32, math.MaxInt - 1, math.MaxInt}
	point, base := named("ou=a,dc=x"), named("cn=k")
	for depth := -3; depth < 20; depth++ {
		full := slices.Concat(slices.Repeat(named("cn=1"), max(0, depth)), base, point)
		name := full[max(0, -depth):]
		for _, least := range bounds {
			for _, most := range bounds {
				x := api.Spec{Base: base, Min: least, Max: most}
				want := depth >= 0 && depth >= least && (most < 0 || depth <= most)
				if got := checkMeans(t, s, point, x, name, nil); got != want {
					t.Errorf("from %d to %d at %d: got %v", least, most, depth, got)
				}
			}
		}
	}
}

// TestZ2Chops: all short chops with all names below the base.
func TestZ2Chops(t *testing.T) {
	s := made(t, plenty())
	base, point := named("cn=k"), named("dc=x")
	for _, below := range fewNames(4) {
		name := slices.Concat(below, base, point)
		for _, chop := range fewNames(3) {
			under := len(below) >= len(chop) && shown(below[len(below)-len(chop):]) == shown(chop)
			for _, x := range []api.Spec{{Max: -1}, {Max: 2}, {Min: 2, Max: 3}} {
				x.Base = base
				means := checkMeans(t, s, point, x, name, nil)
				x.Before = []api.Dn{chop}
				if got := checkMeans(t, s, point, x, name, nil); got != (means && !under) {
					t.Errorf("%+v means %q: got %v", x, name, got)
				}
				x.Before, x.After = nil, []api.Dn{chop}
				if got := checkMeans(t, s, point, x, name, nil); got != (means && (!under || len(below) == len(chop))) {
					t.Errorf("%+v means %q: got %v", x, name, got)
				}
				for _, other := range fewNames(2) {
					x.Before, x.After = []api.Dn{other}, []api.Dn{chop}
					checkMeans(t, s, point, x, name, nil)
					x.Before, x.After = []api.Dn{chop, other}, nil
					checkMeans(t, s, point, x, name, nil)
					x.Before, x.After = nil, []api.Dn{other, chop}
					checkMeans(t, s, point, x, name, nil)
				}
			}
		}
	}
}

// TestZ2ChopsWithin: a name that is itself in After is still excluded by one above it.
func TestZ2ChopsWithin(t *testing.T) {
	s := made(t, plenty())
	for _, z := range []struct {
		before, after []api.Dn
		name          string
		want          bool
	}{
		{nil, names("a=1", "b=1,a=1"), "b=1,a=1", false}, {nil, names("b=1,a=1", "a=1"), "b=1,a=1", false}, {nil, names("b=1,a=1"), "b=1,a=1", true}, {nil, names("a=1", "a=1"), "a=1", true}, {nil, names("a=1"), "c=1,b=1", true},
		{names("b=1,a=1"), nil, "a=1", true}, {names("b=1,a=1"), names("a=1"), "a=1", true}, {names("a=1"), names("a=1"), "a=1", false}, {names("b=1"), nil, "b=1,a=1", true}, {names("a=1"), nil, "b=1,a=1", false}, {nil, names("a=1"), "", true}, {names("a=1"), nil, "", true},
		{names("c=1", "d=1", "e=1", "a=1"), nil, "a=1", false}, {nil, names("c=1", "d=1", "e=1", "a=1"), "b=1,a=1", false}, {nil, names("", "a=1"), "", true}, {nil, names(""), "a=1", false}, {names(""), nil, "", false}, {names(""), nil, "a=1", false},
	} {
		x := api.Spec{Base: named("cn=k"), Max: -1, Before: z.before, After: z.after}
		name := slices.Concat(named(z.name), named("CN=K,dc=X"))
		if got := checkMeans(t, s, named("DC=x"), x, name, nil); got != z.want {
			t.Errorf("%+v means %q: got %v", x, name, got)
		}
	}
}

// TestZ2Norms: names are compared as chapter 12 compares them, on all sides.
func TestZ2Norms(t *testing.T) {
	s := made(t, plenty())
	point := named("OU=A  b+cn=\\ 1,dc=x")
	x := api.Spec{Base: named("cn=K\\ "), Max: -1, Before: names("CN=1  2"), After: names("b=2+A=1")}
	for below, want := range map[string]bool{
		"": true, "cn=1 2": false, "cn=12": true, "cn=x,CN=1 2": false, "a=1+B=2": true, "cn=1,a=1+b=2": false, "cn=1,a=1+b=3": true, "cn=1,a=1": true, "cn=\\ 1 2\\ ": false, "a=1+b=2,cn=x": true,
	} {
		for _, above := range []string{"cn=k,CN=1+ou=a b,DC=X", "CN=\\ \\ k,ou=A B+cn=1\\ ,dc=x"} {
			if got := checkMeans(t, s, point, x, slices.Concat(named(below), named(above)), nil); got != want {
				t.Errorf("%q below %q: got %v", below, above, got)
			}
		}
		for _, above := range []string{"cn=k,CN=1+ou=ab,DC=X", "cn=k,cn=1,ou=a b,dc=x", "cn=k,ou=a b,dc=x", "cn=\u212a,CN=1+ou=a b,DC=X", "cn=k,cn=1+ou=a b", "cn=1+ou=a b,dc=x", "cn=k,cn=1+ou=a b,dc=x,dc=x", ""} {
			if got := checkMeans(t, s, point, x, slices.Concat(named(below), named(above)), nil); got {
				t.Errorf("%q below %q: got true", below, above)
			}
		}
	}
}

// TestZ2Classes: an entry belongs to its classes and their superclasses.
func TestZ2Classes(t *testing.T) {
	s := made(t, plenty())
	point := named("dc=x")
	for _, z := range []struct {
		classes []string
		entry   []api.Attr
		want    bool
	}{
		{nil, nil, true}, {[]string{}, nil, true}, {[]string{"person"}, nil, false}, {[]string{"top"}, nil, false}, {[]string{""}, nil, false}, {[]string{"none"}, []api.Attr{attr("objectClass", "none")}, false},
		{[]string{"PERSON"}, []api.Attr{attr("OBJECTCLASS", " Person ")}, true}, {[]string{"top"}, []api.Attr{attr("objectClass", "member")}, true}, {[]string{"member"}, []api.Attr{attr("objectClass", "person")}, false}, {[]string{"person"}, []api.Attr{attr("objectClass", "member")}, true},
		{[]string{"place", "known"}, []api.Attr{attr("objectClass", "person", "known")}, true}, {[]string{"place", "none"}, []api.Attr{attr("objectClass", "person", "known")}, false}, {[]string{"none", "", "place", "person"}, []api.Attr{attr("objectClass", "none", " ", "person")}, true},
		{[]string{"person"}, []api.Attr{attr("objectClass", "place"), attr("objectClass", "person")}, false}, {[]string{"person"}, []api.Attr{attr("cn", "person"), attr("objectClass", "person")}, true}, {[]string{"person"}, []api.Attr{attr("cn", "person")}, false}, {[]string{"person"}, []api.Attr{attr("objectClass")}, false},
		{[]string{"a", "b", "c", "d", "e", "person"}, []api.Attr{attr("objectClass", "person")}, true}, {[]string{"a", "b", "c", "d", "e", "place"}, []api.Attr{attr("objectClass", "person")}, false},
	} {
		x := api.Spec{Max: -1, Classes: z.classes}
		if got := checkMeans(t, s, point, x, named("cn=a,dc=x"), z.entry); got != z.want {
			t.Errorf("classes %q, entry %q: got %v", z.classes, z.entry, got)
		}
		if checkMeans(t, s, point, x, named("cn=a,dc=y"), z.entry) || checkMeans(t, s, point, api.Spec{Classes: z.classes}, named("cn=a,dc=x"), z.entry) {
			t.Errorf("classes %q, entry %q elsewhere: got true", z.classes, z.entry)
		}
	}
}

// TestZ2WrongNames: names that aren't valid are compared as well.
func TestZ2WrongNames(t *testing.T) {
	s := made(t, plenty())
	odd := []api.Dn{nil, {nil}, {{}}, {nil, nil}, {{{}}}, {{{Type: "a"}, {Type: "A"}}}, {{{Type: "A"}, {Type: "a", Value: " "}}}, {{{Type: "x\x00,", Value: "1"}}, nil}, named("a=1"), {{{Type: "a", Value: "1"}}, {}}}
	for _, point := range odd {
		for _, base := range odd {
			for _, chop := range odd {
				for _, below := range odd {
					name := slices.Concat(below, base, point)
					checkMeans(t, s, point, api.Spec{Base: base, Max: -1, Before: []api.Dn{chop}}, name, nil)
					checkMeans(t, s, point, api.Spec{Base: base, Max: -1, After: []api.Dn{chop}}, name, nil)
					checkMeans(t, s, base, api.Spec{Base: chop, Max: 1}, below, nil)
				}
			}
		}
	}
	deep := slices.Repeat(named("a=1"), 1<<14)
	for _, x := range []api.Spec{{Max: -1}, {Base: deep[:1<<13], Max: -1}, {Base: deep, Max: -1}, {Max: 1 << 14}, {Max: 1<<14 - 2}, {Max: -1, Before: []api.Dn{deep}}, {Max: -1, Before: []api.Dn{deep[1:]}}, {Max: -1, After: []api.Dn{deep[1:]}}, {Max: -1, After: []api.Dn{deep[2:]}}} {
		checkMeans(t, s, deep[:1], x, deep, nil)
	}
}

// drawnMeans draws a specification that means about half of what it is asked for.
func (r *draws) drawnMeans(s *schema.Schema) (point api.Dn, x api.Spec, name api.Dn, entry []api.Attr) {
	step := func(most int) api.Dn {
		var n api.Dn
		for range r.below(most + 1) {
			n = append(n, named(r.of("a=1", "A=1", "b=2", "a=1+b=2", "B=2+A=1", "a=\\ 1"))...)
		}
		return n
	}
	point, x = step(2), api.Spec{Base: step(2), Min: r.below(4) - 1, Max: r.below(5) - 2}
	if r.one(2) {
		x.Min, x.Max = 0, -1
	}
	for range r.below(3) {
		x.Before = append(x.Before, slices.Concat(step(2), named(r.of("a=1", "b=2"))))
	}
	for range r.below(3) {
		x.After = append(x.After, slices.Concat(step(2), named(r.of("a=1", "b=2"))))
	}
	if r.one(3) {
		x.Classes = r.list(2, "person", "TOP", "place", "none")
	}
	name = slices.Concat(step(4), x.Base, point)
	if r.one(10) {
		name = step(6)
	}
	if r.one(2) {
		entry = append(entry, attr(r.cased("objectClass"), r.list(2, "Person", "member", "place", "known", "", "none")...))
	}
	return point, x, name, entry
}

func TestZ2Drawn(t *testing.T) {
	s := made(t, plenty())
	r := draws(2)
	selected := 0
	for range 30000 {
		point, x, name, entry := r.drawnMeans(s)
		if checkMeans(t, s, point, x, name, entry) {
			selected++
		}
	}
	if selected < 5000 || selected > 20000 {
		t.Errorf("%d selected", selected)
	}
}

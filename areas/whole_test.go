package areas_test

import (
	"slices"
	"testing"

	"palatine/api"
	"palatine/areas"
	"palatine/dn"
)

// TestZ4Texts: valid specifications that aren't the same have different texts.
func TestZ4Texts(t *testing.T) {
	r := draws(4)
	found := map[string]string{}
	for range 20000 {
		x := r.spec()
		if !areas.Right(x) {
			continue
		}
		text := areas.Print(x)
		if again, e := areas.Parse(text); e != api.OK || shown(again) != shown(x) {
			t.Errorf("%q: got %+v %v, want %+v", text, again, e, x)
		}
		if other := found[text]; other != "" && other != shown(x) {
			t.Errorf("%q is the text of %s and of %+v", text, other, x)
		}
		found[text] = shown(x)
	}
	if len(found) < 5000 {
		t.Errorf("%d texts", len(found))
	}
}

// TestZ4Chops: what Before excludes, After excludes as well, or it is the name itself; and After excludes nothing else.
func TestZ4Chops(t *testing.T) {
	s := made(t, plenty())
	r := draws(5)
	counts := [4]int{}
	for range 30000 {
		point, x, name, entry := r.drawnMeans(s)
		x.Before, x.After = nil, nil
		chop := slices.Concat(x.Base, point)
		if below := len(name) - len(chop); below > 0 && r.one(2) {
			x.Before = []api.Dn{name[r.below(below+1):below]}
		} else {
			x.Before = []api.Dn{named(r.of("a=1", "b=2", "a=1,a=1"))}
		}
		y := x
		y.Before, y.After = nil, x.Before
		if !areas.Means(s, point, y, name, entry) && areas.Means(s, point, x, name, entry) {
			t.Errorf("After of %+v excludes %q, but Before doesn't", y, name)
		}
		all := y
		all.After = nil
		if !areas.Means(s, point, all, name, entry) {
			continue
		}
		itself := dn.Same(name, slices.Concat(x.Before[0], chop))
		before, after := !areas.Means(s, point, x, name, entry), !areas.Means(s, point, y, name, entry)
		if before && !after && !itself || after && (!before || itself) {
			t.Errorf("%q below %q: excluded %v by Before, %v by After %q", name, chop, before, after, x.Before)
		}
		switch {
		case itself:
			counts[0]++
		case after:
			counts[1]++
		case before:
			counts[2]++
		default:
			counts[3]++
		}
	}
	if counts[0] < 500 || counts[1] < 500 || counts[2] > 0 || counts[3] < 500 {
		t.Errorf("counts %v", counts)
	}
}

// TestZ4Own: Merge removes nothing of the entry's own attributes except those that are Shared, and puts nothing between them.
func TestZ4Own(t *testing.T) {
	s := made(t, plenty())
	r := draws(6)
	for range 10000 {
		name, entry, subs := r.drawnMerge()
		got := areas.Merge(s, name, entry, subs...)
		var own []api.Attr
		for _, a := range entry {
			if !isShared(s, a.Type) {
				own = append(own, a)
			}
		}
		if len(got) < len(own) || shown(got[:len(own)]) != shown(own) {
			t.Errorf("Merge(%q, %q, %+v): got %q", name, entry, subs, got)
		}
		for _, a := range got[min(len(own), len(got)):] {
			if !isShared(s, a.Type) || len(a.Values) == 0 {
				t.Errorf("Merge(%q, %q, %+v): got %q", name, entry, subs, a)
			}
		}
	}
}

// TestR5Arguments: nothing that is passed is changed, even where slices have spare room.
func TestR5Arguments(t *testing.T) {
	s := made(t, plenty())
	r := draws(7)
	for range 5000 {
		x := r.spec()
		before := shown(x)
		areas.Right(x)
		areas.Print(x)
		if shown(x) != before {
			t.Fatalf("a specification became %+v", x)
		}
		point, x, name, entry := r.drawnMeans(s)
		before = shown([]any{point, x, name, entry})
		x.Base, point = roomy(x.Base), roomy(point)
		areas.Means(s, point, x, name, entry)
		if after := shown([]any{point, x, name, entry}); after != before || shown(x.Base[:cap(x.Base)][len(x.Base)]) != shown(api.Rdn(nil)) || point[:cap(point)][len(point)] != nil {
			t.Fatalf("what Means was passed became %s", after)
		}
		name, entry, subs := r.drawnMerge()
		before = shown([]any{name, entry, subs})
		for i := range entry {
			entry[i].Values = roomy(entry[i].Values)
		}
		areas.Merge(s, name, entry, subs...)
		if after := shown([]any{name, entry, subs}); after != before {
			t.Fatalf("what Merge was passed became %s", after)
		}
	}
}

// roomy is a list with spare room behind it.
func roomy[Item any](items []Item) []Item {
	return append(make([]Item, 0, len(items)+3), items...)
}

// TestR5Results: no result shares memory with an argument, or with another list of a result.
func TestR5Results(t *testing.T) {
	s := made(t, plenty())
	r := draws(8)
	for range 3000 {
		name, entry, subs := r.drawnMerge()
		before := shown([]any{name, entry, subs})
		got := areas.Merge(s, name, entry, subs...)
		want := areas.Merge(s, name, entry, subs...)
		for i := range got {
			_ = append(got[i].Values, "spare", "spare")
		}
		if shown(got) != shown(want) {
			t.Fatalf("values share their room: %q", got)
		}
		_ = append(got, attr("spare"))
		for i := range got {
			got[i].Type = "changed"
			for j := range got[i].Values {
				got[i].Values[j] = "changed"
			}
		}
		if after := shown([]any{name, entry, subs}); after != before {
			t.Fatalf("what Merge was passed became %s", after)
		}
	}
	text := "base=a=1+b=2,c=3;before=a=1;before=b=1;after=a=1;after=b=1;class=a;class=b"
	x, _ := areas.Parse(text)
	for _, list := range [][]api.Dn{x.Before, x.After} {
		_ = append(list[0], nil)
		_ = append(list, nil)
	}
	_ = append(x.Base[0], api.Ava{Type: "spare"})
	_ = append(x.Base, nil)
	_ = append(x.Classes, "spare")
	if got := areas.Print(x); got != text {
		t.Errorf("lists share their room: %q", got)
	}
	x.Base[0][0].Type, x.Before[0], x.Classes[0] = "z", nil, "z"
	if again, e := areas.Parse(text); e != api.OK || areas.Print(again) != text {
		t.Errorf("got %+v %v", again, e)
	}
}

// TestR4Empty: an empty list is like none.
func TestR4Empty(t *testing.T) {
	s := made(t, plenty())
	x := api.Spec{Base: api.Dn{}, Max: -1, Before: []api.Dn{}, After: []api.Dn{}, Classes: []string{}}
	if !areas.Right(x) || areas.Print(x) != "base=" {
		t.Errorf("got %v %q", areas.Right(x), areas.Print(x))
	}
	if !areas.Means(s, api.Dn{}, x, api.Dn{}, []api.Attr{}) || !areas.Means(s, nil, api.Spec{}, nil, nil) {
		t.Error("all names are under the one without steps")
	}
	if got := areas.Merge(s, nil, []api.Attr{}, []api.Subentry{}...); len(got) != 0 {
		t.Errorf("got %q", got)
	}
	if got := areas.Merge(s, nil, nil, api.Subentry{Attrs: []api.Attr{attr("city", "x")}}); shown(got) != shown([]api.Attr{attr("city", "x")}) {
		t.Errorf("got %q", got)
	}
}

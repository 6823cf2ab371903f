package dit_test

import (
	"math"
	"slices"
	"testing"

	"palatine/api"
	"palatine/dit"
	"palatine/dn"
	"palatine/tree"
)

// world is a Dit with its tree, and the model that both are held against.
type world struct {
	*testing.T
	d *dit.Dit
	t *tree.Tree
	m *model
}

// begun is a world of these tenants, without entries.
func begun(t *testing.T, tenants ...api.Tenant) *world {
	t.Helper()
	s := schemaOf(t)
	d, e := dit.New(s, tenants...)
	if d == nil || e != api.OK {
		t.Fatal(e)
	}
	return &world{T: t, d: d, t: tree.New(), m: &model{s: s, limits: tenants}}
}

// tenant is one of a suffix.
func tenant(t *testing.T, suffix string, entries, bytes int) api.Tenant {
	t.Helper()
	return api.Tenant{Suffix: named(t, suffix), Entries: entries, Bytes: bytes}
}

// wide is a world of one tenant, dc=x, with its first entry, and with room for all.
func wide(t *testing.T) *world {
	t.Helper()
	w := begun(t, tenant(t, "dc=x", math.MaxInt, math.MaxInt))
	w.add("dc=x", api.OK)
	return w
}

// settle checks what a call has returned against the model's words, and makes the changes.
func (w *world) settle(call string, got []api.Change, e api.Errno, next *model, want []api.Change, wanted api.Errno) {
	w.Helper()
	if e != wanted || !slices.Equal(got, want) {
		w.Errorf("%s: got %+v, %v, want %+v, %v", call, got, e, want, wanted)
	}
	if pairs := w.t.All(); !slices.Equal(pairs, pairsOf(w.m.table())) {
		w.Fatalf("%s has changed the tree: %q", call, pairs)
	}
	w.m = next
	made(w.t, got)
	if pairs := w.t.All(); !slices.Equal(pairs, pairsOf(w.m.table())) {
		w.Fatalf("%s: the keys are %q, want %q", call, pairs, pairsOf(w.m.table()))
	}
}

func (w *world) addName(n api.Dn, attrs []api.Attr) api.Errno {
	w.Helper()
	next, want, wanted := w.m.add(n, attrs)
	got, e := w.d.Add(w.t, n, attrs)
	w.settle("Add "+dn.Print(n), got, e, next, want, wanted)
	return e
}

func (w *world) removeName(n api.Dn) api.Errno {
	w.Helper()
	next, want, wanted := w.m.remove(n)
	got, e := w.d.Delete(w.t, n)
	w.settle("Delete "+dn.Print(n), got, e, next, want, wanted)
	return e
}

func (w *world) replaceName(n api.Dn, attrs []api.Attr) api.Errno {
	w.Helper()
	next, want, wanted := w.m.replace(n, attrs)
	got, e := w.d.Replace(w.t, n, attrs)
	w.settle("Replace "+dn.Print(n), got, e, next, want, wanted)
	return e
}

func (w *world) moveName(n api.Dn, step api.Rdn, above api.Dn, attrs []api.Attr) api.Errno {
	w.Helper()
	next, want, wanted := w.m.move(n, step, above, attrs)
	got, e := w.d.Move(w.t, n, step, above, attrs)
	w.settle("Move "+dn.Print(n)+" to "+dn.Print(api.Dn{step})+" and "+dn.Print(above), got, e, next, want, wanted)
	return e
}

func (w *world) want(call string, got, want api.Errno) {
	w.Helper()
	if got != want {
		w.Errorf("%s: got %v, want %v", call, got, want)
	}
}

func (w *world) add(n string, want api.Errno, attrs ...api.Attr) {
	w.Helper()
	w.want("Add "+n, w.addName(named(w.T, n), attrs), want)
}

func (w *world) remove(n string, want api.Errno) {
	w.Helper()
	w.want("Delete "+n, w.removeName(named(w.T, n)), want)
}

func (w *world) replace(n string, want api.Errno, attrs ...api.Attr) {
	w.Helper()
	w.want("Replace "+n, w.replaceName(named(w.T, n), attrs), want)
}

func (w *world) move(n, step, above string, want api.Errno, attrs ...api.Attr) {
	w.Helper()
	w.want("Move "+n, w.moveName(named(w.T, n), named(w.T, step)[0], named(w.T, above), attrs), want)
}

// lookup checks what a name leads to.
func (w *world) lookup(n api.Dn) {
	w.Helper()
	want, wanted := w.m.lookup(n)
	if got, e := w.d.Lookup(w.t, n); e != wanted || !isSameEntry(got, want) {
		w.Errorf("Lookup %s: got %v, %v, want %v, %v", dn.Print(n), got, e, want, wanted)
	}
	tenant, ok := w.m.tenant(n)
	if got, is := w.d.Tenant(n); got != tenant || is != ok {
		w.Errorf("Tenant %s: got %d, %v, want %d, %v", dn.Print(n), got, is, tenant, ok)
	}
}

// number checks what there is about an entry's number.
func (w *world) number(id int) {
	w.Helper()
	want, wanted := w.m.get(id)
	if got, ok := w.d.Get(w.t, id); ok != wanted || !isSameEntry(got, want) {
		w.Errorf("Get %d: got %v, %v, want %v, %v", id, got, ok, want, wanted)
	}
	if got, want := w.d.Name(w.t, id), w.m.name(id); !isSameName(got, want) {
		w.Errorf("Name %d: got %v, want %v", id, got, want)
	}
	if got, want := w.d.Kids(w.t, id), w.m.kids(id); !areSameEntries(got, want) {
		w.Errorf("Kids %d: got %v, want %v", id, got, want)
	}
	if got, want := w.d.Below(w.t, id), w.m.below(id); !areSameEntries(got, want) {
		w.Errorf("Below %d: got %v, want %v", id, got, want)
	}
}

func (w *world) find(name, norm string) {
	w.Helper()
	if got, want := w.d.Find(w.t, name, norm), w.m.find(name, norm); !slices.Equal(got, want) {
		w.Errorf("Find %q %q: got %v, want %v", name, norm, got, want)
	}
}

// compare asks all questions about all entries.
func (w *world) compare() {
	w.Helper()
	for i := -1; i < 17; i++ {
		entries, bytes := w.m.usage(i)
		if e, b := w.d.Usage(w.t, i); e != entries || b != bytes {
			w.Errorf("Usage %d: got %d, %d, want %d, %d", i, e, b, entries, bytes)
		}
	}
	for id := -1; id <= w.m.next+1; id++ {
		w.number(id)
	}
	for _, x := range w.m.entries {
		w.lookup(w.m.name(x.Id))
		for _, a := range x.Attrs {
			for _, value := range a.Values {
				w.find(a.Type, value)
				norm, _ := w.m.s.Norm(a.Type, value)
				w.find(a.Type, norm)
			}
		}
	}
}

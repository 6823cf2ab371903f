package dit_test

import (
	"math"
	"slices"
	"strconv"
	"strings"
	"testing"

	"palatine/api"
	"palatine/dit"
	"palatine/dn"
	"palatine/tree"
)

// step draws a step, most often a valid one.
func (r *draws) step() api.Rdn {
	switch r.below(20) {
	case 0:
		return api.Rdn{{Type: "cn", Value: strings.Repeat("q", 48+r.below(5))}}
	case 1:
		return api.Rdn{{Type: r.of("1", "", "a=b"), Value: "x"}}
	case 2:
		return nil
	case 3:
		return api.Rdn{{Type: "a", Value: "1"}, {Type: r.of("b", "A"), Value: "2"}}
	case 4:
		return api.Rdn{{Type: "ou", Value: "b"}}
	}
	step := api.Rdn{{Type: r.of("cn", "CN"), Value: r.of("a", "A", " a ", "b", "c  d", "C d", "x, y")}}
	if r.one(3) {
		step = append(step, api.Ava{Type: r.of("sn", "Sn", "b"), Value: r.of("1", "2", "")})
	}
	if r.one(2) {
		slices.Reverse(step)
	}
	return step
}

// respelt is a name with other cases and orders, which is the same.
func (r *draws) respelt(n api.Dn) api.Dn {
	var other api.Dn
	for _, step := range n {
		step = slices.Clone(step)
		for i, a := range step {
			if r.one(2) {
				step[i] = api.Ava{Type: strings.ToUpper(a.Type), Value: " " + strings.ToUpper(a.Value)}
			}
		}
		if r.one(2) {
			slices.Reverse(step)
		}
		other = append(other, step)
	}
	return other
}

// known draws the name of an entry, if there are any.
func (w *world) known(r *draws) api.Dn {
	if len(w.m.entries) == 0 || r.one(12) {
		return w.m.limits[r.below(len(w.m.limits))].Suffix
	}
	n := w.m.name(w.m.entries[r.below(len(w.m.entries))].Id)
	if r.one(2) {
		n = r.respelt(n)
	}
	return n
}

// near draws a name that is at or around the entries.
func (w *world) near(r *draws) api.Dn {
	n := w.known(r)
	switch r.below(12) {
	case 0:
		return n[1:]
	case 1:
		return append(api.Dn{r.step(), r.step()}, n...)
	case 2:
		return slices.Concat(n, api.Dn{r.step()})
	case 3, 4, 5:
		return append(api.Dn{r.step()}, n...)
	}
	return n
}

// attrs draws what an entry may have, and what it may not have.
func (r *draws) attrs() []api.Attr {
	var list []api.Attr
	for range r.below(5) {
		a := attr(r.of("objectClass", "cn", "CN", "sn", "note", "Age", "boss", "flag", "secret", "pin", "none", ""))
		for range r.below(4) {
			a.Values = append(a.Values, r.of("a", "A", "", " ", "b  c", "7", "007", "-12", "TRUE", "false", "cn=A", "CN=a", "\x00\xff", "x"))
		}
		list = append(list, a)
	}
	if r.one(6) {
		many := attr(r.of("sn", "note", "age"))
		for i := range 15 + r.below(20) {
			many.Values = append(many.Values, strconv.Itoa(i+100*r.below(2)))
		}
		list = append(list, many)
	}
	if r.one(6) {
		list = append(list, attr("note", strings.Repeat("n", 150+r.below(250))))
	}
	return list
}

// act makes one drawn call, and returns what it was and its result.
func (w *world) act(r *draws) (string, api.Errno) {
	switch r.below(10) {
	case 0, 1, 2, 3:
		n := w.near(r)
		if r.one(2) {
			n = append(api.Dn{r.step()}, w.known(r)...)
		}
		return "Add", w.addName(n, r.attrs())
	case 4:
		return "Delete", w.removeName(w.near(r))
	case 5, 6:
		return "Replace", w.replaceName(w.near(r), r.attrs())
	}
	n, above, step := w.near(r), w.near(r), r.step()
	if r.one(4) && len(n) > 0 {
		above = n[1:]
	}
	if r.one(4) && len(n) > 0 {
		step = n[0]
	}
	attrs := r.attrs()
	if x, e := w.m.lookup(n); e == api.OK && r.one(4) {
		attrs = x.Attrs
	}
	return "Move", w.moveName(n, step, above, attrs)
}

// TestW7Mixtures: all calls in drawn order, held against the chapter's words: results, changes, keys, and all that can be asked.
func TestW7Mixtures(t *testing.T) {
	seen := map[string]map[api.Errno]int{"Add": {}, "Delete": {}, "Replace": {}, "Move": {}}
	for seed := range draws(120) {
		r := seed
		w := begun(t, tenant(t, "dc=x", 5+r.below(10), 300+r.below(2000)), tenant(t, "ou=b,dc=y", 1+r.below(4), 100+r.below(500)), tenant(t, "CN=A+b=C  c,dc=Z", r.below(3), r.below(200)))
		for i := range 150 {
			call, e := w.act(&r)
			seen[call][e]++
			w.lookup(w.near(&r))
			w.find(r.of("cn", "Note", "SN", "none", "pin", "secret", ""), r.of("a", "b c", "7", "x", ""))
			if i%15 == 0 {
				w.compare()
			}
		}
		w.compare()
		if t.Failed() {
			t.Fatalf("the mixture %d failed", seed)
		}
	}
	for call, errors := range map[string][]api.Errno{
		"Add":     {api.OK, api.ErrSuffix, api.ErrExists, api.ErrNoEntry, api.ErrLong, api.ErrQuota},
		"Delete":  {api.OK, api.ErrSuffix, api.ErrNoEntry, api.ErrLeaf},
		"Replace": {api.OK, api.ErrSuffix, api.ErrNoEntry, api.ErrLong, api.ErrQuota},
		"Move":    {api.OK, api.ErrSuffix, api.ErrName, api.ErrNoEntry, api.ErrLeaf, api.ErrExists, api.ErrLong, api.ErrQuota},
	} {
		for _, e := range errors {
			if seen[call][e] < 20 {
				t.Errorf("%s: %v came %d times only", call, e, seen[call][e])
			}
		}
	}
}

// TestW7Undone: what was added and deleted again leaves only the next number.
func TestW7Undone(t *testing.T) {
	for seed := range draws(60) {
		r := seed
		w := begun(t, tenant(t, "dc=x", 99, 9999), tenant(t, "dc=y", 99, 9999))
		for range 60 {
			w.act(&r)
		}
		for len(w.m.entries) > 0 {
			leaf := w.m.entries[r.below(len(w.m.entries))]
			for len(w.m.kids(leaf.Id)) > 0 {
				leaf = w.m.kids(leaf.Id)[0]
			}
			w.want("Delete", w.removeName(w.m.name(leaf.Id)), api.OK)
		}
		if l := w.t.All(); w.m.next > 0 && (len(l) != 1 || l[0] != (api.Pair{Key: "c", Value: strconv.Itoa(w.m.next)})) {
			t.Errorf("left: %q", l)
		}
	}
}

// TestW7Room: changes fit into keys and values of a store's.
func TestW7Room(t *testing.T) {
	w := wide(t)
	long := "cn=" + strings.Repeat("q", 50)
	w.add(long+",dc=x", api.OK, attr("note", strings.Repeat("n", 200), strings.Repeat("n", 79)))
	for _, p := range w.t.All() {
		if len(p.Key) > api.MaxKey || len(p.Value) > api.MaxValue {
			t.Errorf("%q is %q", p.Key, p.Value)
		}
	}
	many := attr("note")
	for i := range 24 {
		many.Values = append(many.Values, strconv.Itoa(i))
	}
	list, e := w.d.Add(w.t, named(t, "cn=b,dc=x"), []api.Attr{many})
	if e != api.OK || len(list) != 28 {
		t.Errorf("%d changes, %v", len(list), e)
	}
}

// TestW7Alone: the methods neither change their arguments nor keep them.
func TestW7Alone(t *testing.T) {
	suffix, attrs := named(t, "dc=x"), []api.Attr{attr("cn", "A")}
	tenants := []api.Tenant{{Suffix: suffix, Entries: 9, Bytes: 999}}
	d, _ := dit.New(schemaOf(t), tenants...)
	tenants[0], suffix[0][0].Value = api.Tenant{}, "q"
	x := tree.New()
	n := named(t, "dc=X")
	list, e := d.Add(x, n, attrs)
	if e != api.OK {
		t.Fatal(e)
	}
	n[0][0].Value, attrs[0].Values[0] = "q", "q"
	made(x, list)
	got, _ := d.Lookup(x, named(t, "dc=x"))
	if dn.Print(got.Name) != "dc=X" || got.Attrs[0].Values[0] != "A" {
		t.Errorf("%v", got)
	}
	got.Name[0][0].Value, got.Attrs[0].Values[0] = "q", "q"
	name := d.Name(x, 1)
	name[0][0].Value = "q"
	if again, _ := d.Get(x, 1); dn.Print(again.Name) != "dc=X" || again.Attrs[0].Values[0] != "A" {
		t.Errorf("%v", again)
	}
	list[0].Key = "q"
	if other, _ := d.Add(tree.New(), named(t, "dc=X"), nil); other[0].Key != "c" {
		t.Errorf("%v", other)
	}
	if d.Below(x, 1)[0].Attrs[0].Values[0] != "A" || len(d.Find(x, "cn", "a")) != 1 {
		t.Error("results share their lists")
	}
}

// TestW7Steps: names and steps that are arguments stay as they are, also if they are made of pieces of longer lists.
func TestW7Steps(t *testing.T) {
	w := wide(t)
	all := named(t, "cn=c,cn=b,cn=a,dc=x,dc=y,dc=z")
	kept := named(t, "cn=c,cn=b,cn=a,dc=x,dc=y,dc=z")
	for i := 2; i >= 0; i-- {
		w.want("Add", w.addName(all[i:4], nil), api.OK)
	}
	w.want("Replace", w.replaceName(all[1:4], []api.Attr{attr("cn", "B")}), api.OK)
	w.want("Move", w.moveName(all[1:4], all[0], all[3:4], nil), api.OK)
	w.want("Delete", w.removeName(named(t, "cn=c,cn=c,dc=x")), api.OK)
	if !isSameName(all, kept) {
		t.Errorf("%v", all)
	}
}

// oddTree draws a tree that no changes have made: entries in one another, keys that lead elsewhere, values that tell nothing.
func (r *draws) oddTree() *tree.Tree {
	id := func() string { return "0000000" + strconv.Itoa(r.below(5)) }
	any := func(values ...string) string {
		return r.of(append(values, "", " ", "-1", "x", "99999999999999999999", "1 2", id())...)
	}
	t := tree.New()
	for range 1 + r.below(40) {
		switch r.below(7) {
		case 0:
			t.Put("c", any("3", "2147483648"))
		case 1:
			t.Put("q0"+strconv.Itoa(r.below(3)), any("1 100", "-1 -1"))
		case 2:
			t.Put("s0"+strconv.Itoa(r.below(3)), any(id()))
		case 3:
			t.Put("k"+id()+r.of("cn=a\x00", "cn=b\x00", "", "x", "\x00"), any(id(), id(), id()))
		case 4, 5:
			x := api.Entry{Id: 1 + r.below(4), Tenant: r.below(16), Above: r.below(5), Attrs: []api.Attr{attr("cn", "a")}}
			if !r.one(4) {
				x.Name = api.Dn{r.step()}
			}
			bytes, _ := dit.Encode(x)
			t.Put("e"+id(), any(bytes, bytes, bytes, bytes, bytes, bytes))
		case 6:
			t.Put("i"+r.of(crcOf("cn\x00a"), crcOf("cn\x00a"), "", "x")+id(), any())
		}
	}
	return t
}

// TestW7OddTrees: in any tree the methods come to an end, do not panic, and change nothing.
func TestW7OddTrees(t *testing.T) {
	r := draws(5)
	d, _ := dit.New(schemaOf(t), tenant(t, "dc=x", 9, 999), tenant(t, "dc=y", 9, 999))
	cn := dn.Norm(named(t, "cn=a"))[0]
	for range 3000 {
		x := r.oddTree()
		kept := x.All()
		names := []api.Dn{nil, {nil}, {{}}, named(t, "dc=x"), named(t, "cn=a,dc=x"), named(t, "cn=b,cn=a,dc=y"), {r.step(), {{Type: "dc", Value: "x"}}}, make(api.Dn, 40)}
		for _, id := range []int{0, 1, 2, 3, 4, 5, -1, math.MinInt, math.MaxInt, 1 << 31, 1<<32 + 1} {
			d.Usage(x, id)
			d.Get(x, id)
			d.Name(x, id)
			d.Kids(x, id)
			d.Below(x, id)
		}
		for _, n := range names {
			d.Tenant(n)
			d.Lookup(x, n)
			d.Add(x, n, r.attrs())
			d.Delete(x, n)
			d.Replace(x, n, r.attrs())
			d.Move(x, n, r.step(), names[r.below(len(names))], r.attrs())
			d.Move(x, n, cn, names[r.below(5)], r.attrs())
		}
		d.Find(x, "cn", "a")
		d.Find(x, "\xff", "\x00")
		if !slices.Equal(x.All(), kept) {
			t.Fatalf("%q has become %q", kept, x.All())
		}
	}
}

// TestW7Knot: entries that are one another's children, each in many ways.
func TestW7Knot(t *testing.T) {
	d, _ := dit.New(schemaOf(t), tenant(t, "dc=x", 9, 999))
	x := tree.Of(api.Pair{Key: "s00", Value: "00000001"})
	for id := range 10 {
		bytes, _ := dit.Encode(api.Entry{Id: id + 1, Above: (id+1)%10 + 1, Name: api.Dn{{{Type: "cn", Value: "a"}}}})
		x.Put("e0000000"+strconv.FormatInt(int64(id+1), 16), bytes)
		for kid := range 10 {
			x.Put("k0000000"+strconv.FormatInt(int64(id+1), 16)+"cn="+strconv.Itoa(kid)+"\x00", "0000000"+strconv.FormatInt(int64(kid+1), 16))
		}
	}
	for id := range 12 {
		d.Below(x, id)
		d.Name(x, id)
	}
	d.Move(x, named(t, "cn=1,dc=x"), api.Rdn{{Type: "cn", Value: "z"}}, named(t, "cn=2,cn=3,dc=x"), nil)
}

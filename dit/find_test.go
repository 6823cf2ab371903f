package dit_test

import (
	"hash/crc32"
	"math"
	"slices"
	"strconv"
	"strings"
	"testing"

	"palatine/api"
	"palatine/dit"
	"palatine/dn"
	"palatine/schema"
	"palatine/tree"
)

func TestW3Usage(t *testing.T) {
	w := begun(t, many(t, 16)...)
	for i := range 16 {
		for j := range i % 4 {
			n := named(t, "cn=a,cn=a,cn=a,dc="+strconv.Itoa(i))
			w.want("Add", w.addName(n[3-j:], []api.Attr{attr("cn", strings.Repeat("v", i))}), api.OK)
		}
	}
	w.compare()
	for _, tenant := range []int{math.MinInt, -256, -16, -1, 16, 17, 255, 256, 258, 1 << 16, 1 << 32, 1<<32 + 2, math.MaxInt} {
		if e, b := w.d.Usage(w.t, tenant); e != 0 || b != 0 {
			t.Errorf("tenant %d: %d, %d", tenant, e, b)
		}
	}
	if e, b := w.d.Usage(w.t, 15); e != 3 || b < 100 {
		t.Errorf("the last tenant: %d, %d", e, b)
	}
}

func TestW3Get(t *testing.T) {
	w := wide(t)
	attrs := []api.Attr{attr("cn", "A", "", "a"), attr("none"), attr("secret", "\x00\xff")}
	w.add("CN=A,dc=X", api.OK, attrs...)
	if x, ok := w.d.Get(w.t, 2); !ok || x.Id != 2 || x.Above != 1 || x.Tenant != 0 || !isSameName(x.Name, named(t, "CN=A")) || len(x.Attrs) != 3 || len(x.Attrs[0].Values) != 3 {
		t.Errorf("%+v, %v", x, ok)
	}
	for _, id := range []int{math.MinInt, -1 << 32, -2, -1, 0, 3, 16, 1 << 31, 1 << 32, 1<<32 + 1, 1<<32 + 2, 1 << 36, math.MaxInt} {
		w.number(id)
	}
}

// TestW3Names: complete names consist of the steps as they were written, and suffixes of several steps are one entry's.
func TestW3Names(t *testing.T) {
	w := begun(t, tenant(t, "ou=b,dc=y", 99, 9999), tenant(t, "dc=x", 99, 9999))
	w.add("OU=B,dc=Y", api.OK)
	w.add("cn=B+SN=a,ou=b,dc=y", api.OK)
	w.add("cn=c,sn=A+cn=b,ou=b,dc=y", api.OK)
	w.add("dc=x", api.OK)
	w.add("cn=c,dc=x", api.OK)
	for id, want := range []string{"", "OU=B,dc=Y", "cn=B+SN=a,OU=B,dc=Y", "cn=c,cn=B+SN=a,OU=B,dc=Y", "dc=x", "cn=c,dc=x", ""} {
		if got := dn.Print(w.d.Name(w.t, id)); got != want {
			t.Errorf("%d: %q, want %q", id, got, want)
		}
	}
	w.compare()
	deep := named(t, "cn=p,cn=o,cn=n,cn=m,cn=l,cn=k,cn=j,cn=i,cn=h,cn=g,cn=f,cn=e,cn=d,cn=c,dc=x")
	for i := len(deep) - 3; i >= 0; i-- {
		w.want("Add", w.addName(deep[i:], nil), api.OK)
	}
	w.add("cn=q,cn=p,cn=o,cn=n,cn=m,cn=l,cn=k,cn=j,cn=i,cn=h,cn=g,cn=f,cn=e,cn=d,cn=c,dc=x", api.OK)
	w.add("cn=a,cn=q,cn=p,cn=o,cn=n,cn=m,cn=l,cn=k,cn=j,cn=i,cn=h,cn=g,cn=f,cn=e,cn=d,cn=c", api.ErrSuffix)
	w.compare()
	if got := w.d.Name(w.t, w.m.next-1); len(got) != 16 {
		t.Errorf("the deepest name has %d steps", len(got))
	}
}

func TestW3Lookup(t *testing.T) {
	w := begun(t, tenant(t, "dc=x", 99, 9999), tenant(t, "dc=y", 99, 9999))
	w.lookup(named(t, "dc=x"))
	w.lookup(named(t, "cn=a,dc=x"))
	w.add("dc=x", api.OK)
	w.add("cn=a,dc=x", api.OK)
	w.add("cn=b,cn=a,dc=x", api.OK)
	w.add(`cn=\ A\ ,cn=b,cn=a,dc=x`, api.OK)
	for _, name := range []string{
		"dc=x", "DC=X", "cn=a,dc=x", "CN=A,dc=X", "cn=b,cn=a,dc=x", "cn=a,cn=b,cn=a,dc=x", "cn=a,cn=b,cn=A,DC=x",
		"dc=y", "cn=a,dc=y", "cn=b,dc=x", "cn=b,cn=b,dc=x", "cn=c,cn=b,cn=a,dc=x", "cn=a,cn=a,dc=x", "sn=a,dc=x", "cn=aa,dc=x", "cn=,dc=x", "cn=a+sn=b,dc=x",
		"", "cn=a", "dc=x,cn=a", "dc=z", "cn=a,dc=z",
	} {
		w.lookup(named(t, name))
	}
	// A place is left by a deletion, and not by a failed one.
	w.remove("cn=a,dc=x", api.ErrLeaf)
	w.remove("cn=a,cn=b,cn=a,dc=x", api.OK)
	w.lookup(named(t, "cn=a,cn=b,cn=a,dc=x"))
	w.compare()
}

// TestW3Order: children are in the order of their keys, which isn't that of their numbers, their names as written, or their tenants.
func TestW3Order(t *testing.T) {
	w := wide(t)
	steps := []string{"cn=b", "CN=a", "sn=0", "a=9", "B=8", "cn=a b", "cn=aa", "cn=a+sn=b", "cn=a+b=c", "cn=", "cn=B1", "cn=\\,", "cn=\xff", "cn=a0", "Z=1"}
	for i, step := range steps {
		w.add(step+",dc=x", api.OK)
		w.add(steps[len(steps)-1-i]+","+step+",dc=x", api.OK)
		w.add(step+","+steps[len(steps)-1-i]+","+step+",dc=x", api.OK)
	}
	w.compare()
	if kids := w.d.Kids(w.t, 1); len(kids) != len(steps) || dn.Print(kids[0].Name) != "a=9" || dn.Print(kids[1].Name) != "B=8" || dn.Print(kids[2].Name) != "cn=a+b=c" {
		t.Errorf("%v", kids)
	}
	if all := w.d.Below(w.t, 1); len(all) != 1+3*len(steps) || all[0].Id != 1 || dn.Print(all[1].Name) != "a=9" || all[2].Above != all[1].Id || all[3].Above != all[2].Id {
		t.Errorf("%v", all)
	}
}

// TestW3LargeNumbers: numbers whose digits begin alike, and those with more digits than keys have.
func TestW3LargeNumbers(t *testing.T) {
	w := wide(t)
	for _, next := range []int{0x10, 0x100, 0x1000, 0xffffff, 0x10000000, 0x7ffffffe} {
		w.t.Put("c", strconv.Itoa(next))
		w.m.next = next
		w.add("cn="+strconv.Itoa(next)+",dc=x", api.OK)
		w.add("a=1,cn="+strconv.Itoa(next)+",dc=x", api.OK)
		for _, id := range []int{next, next + 1, next << 4, next<<4 + 0xa, next<<32 + next, next + 1<<32, next >> 4, -next} {
			w.number(id)
		}
	}
	w.number(1)
	if kids := w.d.Kids(w.t, 0x10000000a); len(kids) != 0 {
		t.Errorf("%v", kids)
	}
}

func TestW3Find(t *testing.T) {
	w := begun(t, tenant(t, "dc=x", 99, 9999), tenant(t, "dc=y", 99, 9999))
	w.add("dc=x", api.OK, attr("cn", " A  b"), attr("note", "A", ""), attr("age", "7", "07"), attr("none", "A"))
	w.add("dc=y", api.OK, attr("CN", "a B"), attr("note", "a"), attr("boss", "cn=A"), attr("secret", "A"), attr("pin", "7"))
	w.add("cn=a,dc=y", api.OK, attr("sn", "a b"), attr("cn", "x"), attr("cn", "a b", "A B"), attr("Boss", "CN=a"), attr("flag", "true", "TRUE"))
	w.add("cn=a,dc=x", api.OK, attr("Note", "", "A", "A"), attr("cn", "", "A"), attr("age", "07", "x"))
	for _, c := range []struct {
		name, norm string
		ids        []int
	}{
		{"cn", "a b", []int{1, 2, 3}}, {"CN", "a b", []int{1, 2, 3}}, {"cn", "x", []int{3}}, {"cn", "a", []int{4}}, {"cn", "A b", nil}, {"cn", " a  b", nil}, {"cn", "", nil}, {"cn", "b", nil},
		{"sn", "a b", []int{3}}, {"SN", "a b", []int{3}}, {"sn", "x", nil},
		{"note", "A", []int{1, 4}}, {"note", "a", []int{2}}, {"nOTE", "", []int{1, 4}},
		{"age", "7", []int{1}}, {"age", "07", nil}, {"age", "x", nil},
		{"boss", "cn=a\x00", []int{2, 3}}, {"boss", "cn=A", nil}, {"boss", "cn=a", nil},
		{"flag", "TRUE", []int{3}}, {"flag", "true", nil},
		{"secret", "A", nil}, {"SECRET", "A", nil}, {"pin", "7", nil}, {"PIN", "7", nil},
		{"none", "A", nil}, {"none", "a", nil}, {"", "", nil}, {"c\u212a", "x", nil}, {"cn\x00a b", "", nil}, {"cn ", "x", nil},
	} {
		if got := w.d.Find(w.t, c.name, c.norm); !slices.Equal(got, c.ids) {
			t.Errorf("%q %q: %v, want %v", c.name, c.norm, got, c.ids)
		}
		w.find(c.name, c.norm)
	}
	w.compare()
}

// TestW3FindOrder: numbers are in ascending order, also if their digits are more.
func TestW3FindOrder(t *testing.T) {
	w := begun(t, tenant(t, "dc=x", 999, 99999))
	w.add("dc=x", api.OK)
	for i := range 300 {
		w.add("cn="+strconv.Itoa(i)+",dc=x", api.OK, attr("sn", strconv.Itoa(i%3), strconv.Itoa(i%7)))
	}
	for i := range 8 {
		w.find("sn", strconv.Itoa(i))
	}
	w.find("sn", "")
	got := w.d.Find(w.t, "sn", "2")
	if len(got) != 128 || !slices.IsSorted(got) {
		t.Errorf("%v", got)
	}
}

// alike are values of a type whose terms have one checksum, though their norms differ.
func alike(t *testing.T, names ...string) [][2]string {
	t.Helper()
	var pairs [][2]string
	seen := map[uint32]string{}
	r := draws(3)
	for i := 0; i < 1<<22 && len(pairs) < 2; i++ {
		value := make([]byte, 7+r.below(2))
		for j := range value {
			value[j] = 'a' + byte(r.below(26))
		}
		name := names[i%len(names)]
		checksum := crc32.ChecksumIEEE([]byte(name + "\x00" + string(value)))
		if old, ok := seen[checksum]; !ok {
			seen[checksum] = name + " " + string(value)
		} else if kind, text, _ := strings.Cut(old, " "); text != string(value) && kind == names[0] && name == names[len(names)-1] {
			pairs = append(pairs, [2]string{text, string(value)})
		}
	}
	if len(pairs) < 2 {
		t.Fatal("no values have one checksum")
	}
	return pairs
}

// TestW3SameChecksums: values whose terms are the same are found each for itself, and share the term.
func TestW3SameChecksums(t *testing.T) {
	for _, pair := range alike(t, "cn") {
		w := wide(t)
		a, b := pair[0], pair[1]
		w.add("cn=1,dc=x", api.OK, attr("cn", a))
		w.add("cn=2,dc=x", api.OK, attr("cn", b))
		w.add("cn=3,dc=x", api.OK, attr("cn", a, b))
		w.add("cn=4,dc=x", api.OK, attr("cn", "x", b), attr("CN", a))
		for value, want := range map[string][]int{a: {2, 4, 5}, b: {3, 4, 5}} {
			if got := w.d.Find(w.t, "cn", value); !slices.Equal(got, want) {
				t.Errorf("%q: %v, want %v", value, got, want)
			}
		}
		w.compare()
		// The term goes with the last value that has it.
		w.replace("cn=3,dc=x", api.OK, attr("cn", b))
		w.replace("cn=1,dc=x", api.OK, attr("cn", b))
		w.replace("cn=2,dc=x", api.OK)
		w.compare()
		if list, _ := w.d.Replace(w.t, named(t, "cn=1,dc=x"), []api.Attr{attr("cn", a)}); len(list) != 2 {
			t.Errorf("%v", list)
		}
		w.remove("cn=3,dc=x", api.OK)
		w.find("cn", a)
		w.find("cn", b)
		// Such values count once among the terms.
		twins := attr("cn", a, b)
		for i := range 23 {
			twins.Values = append(twins.Values, strconv.Itoa(i))
		}
		w.add("cn=5,dc=x", api.OK, twins)
		twins.Values = append(twins.Values, "x")
		w.add("cn=6,dc=x", api.ErrLong, twins)
	}
}

// TestW3OtherTypesChecksums: the same for values of two types.
func TestW3OtherTypesChecksums(t *testing.T) {
	for _, pair := range alike(t, "cn", "note") {
		w := wide(t)
		a, b := attr("cn", pair[0]), attr("note", pair[1])
		w.add("cn=1,dc=x", api.OK, a)
		w.add("cn=2,dc=x", api.OK, b)
		w.add("cn=3,dc=x", api.OK, a, b)
		for _, c := range []struct {
			name, norm string
			ids        []int
		}{{"cn", pair[0], []int{2, 4}}, {"note", pair[1], []int{3, 4}}, {"cn", pair[1], nil}, {"note", pair[0], nil}} {
			if got := w.d.Find(w.t, c.name, c.norm); !slices.Equal(got, c.ids) {
				t.Errorf("%s %q: %v, want %v", c.name, c.norm, got, c.ids)
			}
		}
		w.compare()
	}
}

// TestW3AlikeTypes: types that have one checksum, so that all their values have the same terms.
func TestW3AlikeTypes(t *testing.T) {
	var a, b string
	seen := map[uint32]string{}
	for r := draws(4); b == ""; {
		name := make([]byte, 9)
		for i := range name {
			name[i] = 'a' + byte(r.below(26))
		}
		checksum := crc32.ChecksumIEEE(append(name, 0))
		if old, ok := seen[checksum]; ok && old != string(name) {
			a, b = old, string(name)
		}
		seen[checksum] = string(name)
	}
	list := words()
	list.Types = append(list.Types, api.AttrType{Name: a, Syntax: 1}, api.AttrType{Name: strings.ToUpper(b), Syntax: 2})
	s, e := schema.New(list)
	if e != api.OK {
		t.Fatal(a, b, e)
	}
	w := wide(t)
	w.d, _ = dit.New(s, w.m.limits...)
	w.m.s = s
	w.add("cn=1,dc=x", api.OK, attr(a, "x"))
	w.add("cn=2,dc=x", api.OK, attr(b, "x", "y"), attr(a, "z"))
	w.add("cn=3,dc=x", api.OK, attr(b, "x"), attr(a, "X"))
	if _, ok := w.t.Get("i" + crcOf(a+"\x00x") + "00000003"); !ok || crcOf(a+"\x00x") != crcOf(b+"\x00x") {
		t.Fatal("the terms differ")
	}
	for value, want := range map[string][2][]int{"x": {{2, 4}, {3, 4}}, "y": {nil, {3}}, "z": {{3}, nil}} {
		for i, name := range []string{a, b} {
			if got := w.d.Find(w.t, name, value); !slices.Equal(got, want[i]) {
				t.Errorf("%s %s: %v, want %v", name, value, got, want[i])
			}
		}
	}
	w.replace("cn=3,dc=x", api.OK, attr(b, "x"))
	w.replace("cn=2,dc=x", api.OK, attr(a, "y"))
	w.compare()
}

// TestW3Empty: nothing is in a tree without keys, and in one that has been cloned ahead of the first addition.
func TestW3Empty(t *testing.T) {
	w := begun(t, tenant(t, "dc=x", 9, 999))
	w.compare()
	w.find("cn", "a")
	before := w.t.Clone()
	w.add("dc=x", api.OK, attr("cn", "a"))
	for _, other := range []*tree.Tree{tree.New(), before} {
		if _, ok := w.d.Get(other, 1); ok || len(w.d.Below(other, 1)) > 0 || len(w.d.Find(other, "cn", "a")) > 0 || len(w.d.Name(other, 1)) > 0 {
			t.Error("an entry of another tree")
		}
	}
	// Another Dit of the same tenants finds the same.
	d, _ := dit.New(w.m.s, w.m.limits...)
	if x, e := d.Lookup(w.t, named(t, "dc=x")); e != api.OK || x.Id != 1 {
		t.Errorf("%v, %v", x, e)
	}
}

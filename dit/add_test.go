package dit_test

import (
	"math"
	"slices"
	"strconv"
	"strings"
	"testing"

	"palatine/api"
	"palatine/dit"
	"palatine/tree"
)

// numbered are values that all differ, from one number on and below another one.
func numbered(from, to int) []string {
	var values []string
	for i := from; i < to; i++ {
		values = append(values, strconv.Itoa(i))
	}
	return values
}

func keysOf(list []api.Change) []string {
	var keys []string
	for _, c := range list {
		keys = append(keys, c.Key)
	}
	return keys
}

func TestW4Example(t *testing.T) {
	w := begun(t, tenant(t, "dc=x", 3, 200))
	list, e := w.d.Add(w.t, named(t, "dc=x"), []api.Attr{attr("cn", "x")})
	if keys := keysOf(list); e != api.OK || len(keys) != 5 || !slices.Equal(keys[:4], []string{"c", "q00", "s00", "e00000001"}) || keys[4][0] != 'i' {
		t.Errorf("%q, %v", keys, e)
	}
	w.add("dc=x", api.OK, attr("dc", "x"))
	w.add("cn=A,dc=x", api.OK, attr("cn", "A"))
	if x, e := w.d.Lookup(w.t, named(t, "CN=a,DC=X")); e != api.OK || x.Id != 2 || x.Above != 1 || !isSameName(x.Name, named(t, "cn=A")) {
		t.Errorf("%+v, %v", x, e)
	}
	w.add("cn=a,dc=x", api.ErrExists)
	w.add("cn=b,cn=z,dc=x", api.ErrNoEntry)
	w.add("cn=b,dc=y", api.ErrSuffix)
	w.remove("dc=x", api.ErrLeaf)
	if ids := w.d.Find(w.t, "cn", "a"); !slices.Equal(ids, []int{2}) {
		t.Error(ids)
	}
	w.remove("cn=a,dc=x", api.OK)
}

// TestW4Changes: each change with its value, in the order of the table.
func TestW4Changes(t *testing.T) {
	w := begun(t, tenant(t, "dc=y", 9, 999), tenant(t, "dc=x", 9, 999))
	w.add("dc=y", api.OK)
	suffix, _ := dit.Encode(api.Entry{Id: 2, Tenant: 1, Name: named(t, "DC=x")})
	got, _ := w.d.Add(w.t, named(t, "DC=x"), nil)
	want := []api.Change{{Key: "c", Value: "3"}, {Key: "q01", Value: "1 " + strconv.Itoa(len(suffix))}, {Key: "s01", Value: "00000002"}, {Key: "e00000002", Value: suffix}}
	if !slices.Equal(got, want) {
		t.Errorf("got %+v, want %+v", got, want)
	}
	made(w.t, got)
	attrs := []api.Attr{attr("note", "2", "1", "1"), attr("Age", "1", "x"), attr("secret", "1"), attr("none", "1"), attr("cn"), attr("NOTE", "1")}
	kid, _ := dit.Encode(api.Entry{Id: 3, Tenant: 1, Above: 2, Name: named(t, "CN=A\\,  b+a=1"), Attrs: attrs})
	got, _ = w.d.Add(w.t, named(t, "CN=A\\,  b+a=1,dc=X"), attrs)
	// The checksums are those of "note\x001", "age\x001" and "note\x002".
	want = []api.Change{{Key: "c", Value: "4"}, {Key: "q01", Value: "2 " + strconv.Itoa(len(suffix)+len(kid))}, {Key: "k00000002a=1+cn=a\\, b\x00", Value: "00000003"}, {Key: "e00000003", Value: kid},
		{Key: "i63c1112f00000003"}, {Key: "idb436fab00000003"}, {Key: "ifac8409500000003"}}
	if !slices.Equal(got, want) {
		t.Errorf("got %+v, want %+v", got, want)
	}
}

// TestW4Order: with several errors at once, the first one of the list is returned.
func TestW4Order(t *testing.T) {
	w := begun(t, tenant(t, "dc=x", 2, 150), tenant(t, "dc=y", 0, 0))
	long := attr("cn", strings.Repeat("v", 400))
	key := "cn=" + strings.Repeat("q", 51)
	w.add("cn=a,dc=z", api.ErrSuffix, long)
	w.add("", api.ErrSuffix, long)
	w.add("cn=a,dc=x", api.ErrNoEntry, long)
	w.add("dc=y", api.ErrLong, long)
	w.add("dc=y", api.ErrQuota)
	w.add("dc=x", api.ErrLong, long)
	w.add("dc=x", api.OK)
	w.add("dc=x", api.ErrExists, long)
	w.add(key+",cn=a,dc=x", api.ErrNoEntry, long)
	w.add("cn=a,dc=x", api.OK)
	w.add("cn=a,dc=x", api.ErrExists, long)
	w.add("cn=b,dc=x", api.ErrLong, attr("note", numbered(0, 25)...))
	w.add(key+",dc=x", api.ErrLong)
	w.add("cn=b,dc=x", api.ErrLong, long)
	w.add("cn=b,dc=x", api.ErrQuota, attr("note", numbered(0, 24)...))
	w.add("cn=b,dc=x", api.ErrQuota)
	// Names that aren't valid.
	step := named(t, "dc=x")[0]
	for n, want := range map[string]api.Errno{"dc=x": api.ErrLong, "cn=z,dc=x": api.ErrNoEntry, "dc=z": api.ErrSuffix} {
		wrong := append(api.Dn{{{Type: "1"}}}, named(t, n)...)
		w.want(n, w.addName(wrong, nil), want)
		w.want(n, w.addName(append(api.Dn{nil}, named(t, n)...), nil), want)
	}
	w.want("no steps", w.addName(nil, nil), api.ErrSuffix)
	w.want("many steps", w.addName(slices.Repeat(api.Dn{step}, 30), nil), api.ErrNoEntry)
}

// TestW4Keys: the key of the own step is counted in normalized form, and that of a suffix isn't counted.
func TestW4Keys(t *testing.T) {
	w := begun(t, tenant(t, "dc="+strings.Repeat("x", 100), 999, 99999), tenant(t, "dc=y", 999, 99999))
	w.add("dc="+strings.Repeat("x", 100), api.OK)
	w.add("dc=y", api.OK)
	suffixes := []string{",dc=y", ",dc=" + strings.Repeat("x", 100)}
	for _, c := range []struct{ head, piece string }{
		{"cn=", "q"}, {"a=", "Q"}, {"abcdefghijklmnopqrst=", "1"}, {"cn=1+sn=", "q"}, {"sn=2+cn=", "q"}, {`cn=`, `\,`}, {`cn=`, `\00`}, {"cn=q", " \xff"}, {"cn=\\ \\ \\ ", "q"}, {"cn=", "\u00e9"}, {"cn=aaa=", "="},
	} {
		for count := range 70 {
			for _, suffix := range suffixes {
				n := named(t, c.head+strings.Repeat(c.piece, count)+suffix)
				before := len(w.m.entries)
				w.addName(n, nil)
				if len(w.m.entries) > before {
					w.want("Delete", w.removeName(n), api.OK)
				}
			}
		}
	}
	w.add("cn="+strings.Repeat("q", 50)+",dc=y", api.OK)
	w.add("cn="+strings.Repeat("q", 51)+",dc=y", api.ErrLong)
	w.add("cn="+strings.Repeat("r", 10)+strings.Repeat(" ", 60)+"r,dc=y", api.OK)
	w.add("cn=a,cn="+strings.Repeat("Q", 50)+",dc=y", api.OK)
	w.compare()
}

// TestW4Names: names as long and with as many steps as there may be, and longer ones.
func TestW4Names(t *testing.T) {
	w := wide(t)
	n := named(t, "dc=x")
	for i := range 15 {
		n = append(named(t, "cn="+strconv.Itoa(i)), n...)
		w.want("Add", w.addName(n, nil), api.OK)
	}
	w.want("17 steps", w.addName(append(named(t, "cn=a"), n...), nil), api.ErrLong)
	n = named(t, "dc=x")
	for range 7 {
		n = append(named(t, "cn="+strings.Repeat("q", 50)), n...)
		w.want("Add", w.addName(n, nil), api.OK)
	}
	// 4 bytes, 7 times 54, and the own step's with its comma.
	for size := range 30 {
		want := api.OK
		if size+4+382 > 400 {
			want = api.ErrLong
		}
		own := named(t, "cn="+strings.Repeat("a", size))
		w.want(strconv.Itoa(size), w.addName(append(own, n...), nil), want)
	}
	w.compare()
}

// TestW4Spelling: only the name that is given counts, though the names above it may be written longer in their entries.
func TestW4Spelling(t *testing.T) {
	w := wide(t)
	wide, narrow := "cn=a"+strings.Repeat(" ", 150)+"a", "cn=a a"
	w.add(wide+",dc=x", api.OK)
	w.add(wide+","+narrow+",dc=x", api.OK)
	w.add(wide+","+narrow+","+narrow+",dc=x", api.OK)
	w.compare()
}

// TestW4Bytes: an entry's bytes are at most 400, and all of them count for its tenant.
func TestW4Bytes(t *testing.T) {
	w := wide(t)
	for size := 340; size < 400; size++ {
		x := api.Entry{Id: w.m.next, Above: 1, Name: named(t, "cn="+strconv.Itoa(size)), Attrs: []api.Attr{attr("note", strings.Repeat("v", size))}}
		want := api.OK
		if len(entryByWords(x)) > 400 {
			want = api.ErrLong
		}
		w.want(strconv.Itoa(size), w.addName(append(x.Name, named(t, "dc=x")...), x.Attrs), want)
	}
	w.compare()
}

// TestW4Terms: 24 terms, of one attribute and of several, and what is no term.
func TestW4Terms(t *testing.T) {
	w := wide(t)
	for _, count := range []int{0, 1, 2, 12, 22, 23, 24, 25, 26, 27, 40} {
		want := api.OK
		if count > 24 {
			want = api.ErrLong
		}
		half := count / 2
		for i, attrs := range [][]api.Attr{
			{attr("note", numbered(0, count)...)}, {attr("NOTE", numbered(0, half)...), attr("cn", numbered(0, count-half)...)}, {attr("note", numbered(0, half)...), attr("Note", numbered(half, count)...)},
			{attr("cn", numbered(0, count)...), attr("secret", numbered(0, 20)...), attr("none", numbered(0, 9)...), attr("flag", numbered(0, 9)...), attr("cN", " ", "")},
		} {
			n := "cn=" + strconv.Itoa(count) + "+sn=" + strconv.Itoa(i) + ",dc=x"
			w.add(n, want, attrs...)
			if want == api.OK {
				w.remove(n, api.OK)
			}
		}
		for i, attrs := range [][]api.Attr{
			{attr("secret", numbered(0, count)...)}, {attr("none", numbered(0, count)...)}, {attr("age", slices.Repeat([]string{"01"}, count)...)}, {attr("cn", slices.Repeat([]string{"A", "a "}, count)...)},
			{attr("cn", append(numbered(0, 24), numbered(0, min(count, 24))...)...)},
		} {
			w.add("cn="+strconv.Itoa(count)+"+sn=1"+strconv.Itoa(i)+",dc=x", api.OK, attrs...)
		}
	}
	w.compare()
}

// TestW4Next: numbers are given once, up to the greatest one.
func TestW4Next(t *testing.T) {
	w := begun(t, tenant(t, "dc=x", 9, 999), tenant(t, "dc=y", 1, 99))
	w.add("dc=x", api.OK)
	for range 5 {
		w.add("cn=a,dc=x", api.OK)
		w.remove("cn=a,dc=x", api.OK)
	}
	w.add("dc=y", api.OK)
	w.add("cn=a,dc=y", api.ErrQuota)
	w.add("cn=a,dc=x", api.OK)
	if x, _ := w.d.Lookup(w.t, named(t, "cn=a,dc=x")); x.Id != 8 {
		t.Errorf("%v", x)
	}
	next := 1<<31 - 2
	w.t.Put("c", strconv.Itoa(next))
	w.m.next = next
	w.add("cn=b,dc=x", api.OK)
	w.add("cn=c,cn=b,dc=x", api.OK)
	if x, _ := w.d.Lookup(w.t, named(t, "cn=c,cn=b,dc=x")); x.Id != 1<<31-1 || x.Above != 1<<31-2 {
		t.Errorf("%v", x)
	}
	w.number(1<<31 - 1)
	w.number(1<<31 - 2)
	for range 3 {
		w.add("cn=d,dc=x", api.ErrLong)
	}
	w.remove("cn=c,cn=b,dc=x", api.OK)
	w.add("cn=c,cn=b,dc=x", api.ErrLong)
	w.add("cn=c,cn=b,dc=x", api.ErrLong, attr("cn", strings.Repeat("v", 400)))
	if value, _ := w.t.Get("c"); value != "2147483648" {
		t.Errorf("the next number is %q", value)
	}
}

func TestW4Quota(t *testing.T) {
	for entries := range 4 {
		w := begun(t, tenant(t, "dc=y", 1, 100), tenant(t, "dc=x", entries, 99999))
		w.add("dc=y", api.OK)
		n := "dc=x"
		for i := range 4 {
			want := api.OK
			if i >= entries {
				want = api.ErrQuota
			}
			if i > entries {
				want = api.ErrNoEntry
			}
			w.add(n, want)
			n = "cn=a," + n
		}
		w.compare()
	}
	first := len(entryByWords(api.Entry{Id: 1, Name: named(t, "dc=x")}))
	second := len(entryByWords(api.Entry{Id: 2, Above: 1, Name: named(t, "cn=a"), Attrs: []api.Attr{attr("cn", "A")}}))
	for _, bytes := range []int{0, 1, first - 1, first, first + 1, first + second - 1, first + second, first + second + 1} {
		w := begun(t, tenant(t, "dc=x", math.MaxInt, bytes), tenant(t, "dc=y", 9, 999))
		want := []api.Errno{api.OK, api.OK}
		if bytes < first {
			want = []api.Errno{api.ErrQuota, api.ErrNoEntry}
		} else if bytes < first+second {
			want[1] = api.ErrQuota
		}
		w.add("dc=x", want[0])
		w.add("cn=a,dc=x", want[1], attr("cn", "A"))
		w.compare()
	}
}

// TestW4Again: an addition is a matter of the tree alone, and the same one is told twice in the same way.
func TestW4Again(t *testing.T) {
	w := wide(t)
	a, _ := w.d.Add(w.t, named(t, "cn=a,dc=x"), []api.Attr{attr("cn", "1", "2")})
	b, _ := w.d.Add(w.t, named(t, "cn=a,dc=x"), []api.Attr{attr("cn", "1", "2")})
	if !slices.Equal(a, b) || len(a) != 6 {
		t.Errorf("%v, %v", a, b)
	}
	if list, e := w.d.Add(tree.New(), named(t, "cn=a,dc=x"), nil); e != api.ErrNoEntry || len(list) > 0 {
		t.Errorf("%v, %v", list, e)
	}
}

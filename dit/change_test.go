package dit_test

import (
	"slices"
	"strconv"
	"strings"
	"testing"

	"palatine/api"
	"palatine/dit"
)

// TestW5DeleteChanges: each key goes, in the order of the table, and a tenant without entries has no usage.
func TestW5DeleteChanges(t *testing.T) {
	w := begun(t, tenant(t, "dc=x", 9, 999))
	w.add("dc=x", api.OK)
	w.add("cn=a,dc=x", api.OK, attr("note", "2", "1"), attr("age", "1"), attr("secret", "1"))
	first, _ := w.t.Get("e00000001")
	got, e := w.d.Delete(w.t, named(t, "CN=A,DC=X"))
	want := []api.Change{{Key: "q00", Value: "1 " + strconv.Itoa(len(first))}, {Key: "k00000001cn=a\x00", Gone: true}, {Key: "e00000002", Gone: true}, {Key: "i63c1112f00000002", Gone: true}, {Key: "idb436fab00000002", Gone: true}, {Key: "ifac8409500000002", Gone: true}}
	if e != api.OK || !slices.Equal(got, want) {
		t.Errorf("got %+v, %v, want %+v", got, e, want)
	}
	made(w.t, got)
	got, e = w.d.Delete(w.t, named(t, "dc=x"))
	want = []api.Change{{Key: "q00", Gone: true}, {Key: "s00", Gone: true}, {Key: "e00000001", Gone: true}}
	if e != api.OK || !slices.Equal(got, want) {
		t.Errorf("got %+v, %v, want %+v", got, e, want)
	}
	made(w.t, got)
	if l := w.t.All(); len(l) != 1 || l[0] != (api.Pair{Key: "c", Value: "3"}) {
		t.Errorf("left: %q", l)
	}
}

func TestW5DeleteErrors(t *testing.T) {
	w := begun(t, tenant(t, "dc=x", 9, 999), tenant(t, "ou=b,dc=y", 9, 999))
	w.remove("dc=x", api.ErrNoEntry)
	w.remove("cn=a,dc=x", api.ErrNoEntry)
	w.add("dc=x", api.OK)
	w.add("cn=a,dc=x", api.OK)
	w.add("cn=b,cn=a,dc=x", api.OK)
	w.add("ou=b,dc=y", api.OK)
	w.remove("", api.ErrSuffix)
	w.remove("dc=y", api.ErrSuffix)
	w.remove("cn=a,dc=z", api.ErrSuffix)
	w.remove("cn=b,dc=x", api.ErrNoEntry)
	w.remove("cn=c,cn=b,cn=a,dc=x", api.ErrNoEntry)
	w.remove("dc=x", api.ErrLeaf)
	w.remove("CN=A,dc=x", api.ErrLeaf)
	w.remove("cn=b,cn=a,dc=x", api.OK)
	w.remove("cn=b,cn=a,dc=x", api.ErrNoEntry)
	w.remove("cn=a,dc=x", api.OK)
	w.remove("dc=x", api.OK)
	w.remove("dc=x", api.ErrNoEntry)
	w.remove("ou=b,dc=y", api.OK)
}

// TestW5DeleteLimits: no limit keeps an entry, neither one that is exceeded nor the number of its terms.
func TestW5DeleteLimits(t *testing.T) {
	w := wide(t)
	w.add("cn=a,dc=x", api.OK, attr("note", numbered(0, 24)...))
	w.replace("cn=a,dc=x", api.OK, attr("note", numbered(0, 48)...))
	w.add("cn=b,dc=x", api.OK)
	w.d, _ = dit.New(w.m.s, tenant(t, "dc=x", 0, 0))
	w.m.limits = []api.Tenant{tenant(t, "dc=x", 0, 0)}
	if list, _ := w.d.Delete(w.t, named(t, "cn=a,dc=x")); len(list) != 51 {
		t.Errorf("%d changes", len(list))
	}
	w.replace("cn=a,dc=x", api.ErrLong)
	w.replace("cn=b,dc=x", api.ErrQuota)
	w.move("cn=b,dc=x", "cn=c", "dc=x", api.ErrQuota)
	w.add("cn=c,dc=x", api.ErrQuota)
	w.remove("cn=a,dc=x", api.OK)
	w.remove("cn=b,dc=x", api.OK)
	w.remove("dc=x", api.OK)
}

// TestW5ReplaceChanges: usage and bytes, then the terms that go, then those that come.
func TestW5ReplaceChanges(t *testing.T) {
	w := wide(t)
	w.add("CN=a,dc=x", api.OK, attr("note", "2", "1"), attr("age", "1"), attr("cn", "A"))
	usage, bytes := w.d.Usage(w.t, 0)
	x := api.Entry{Id: 2, Above: 1, Name: named(t, "CN=a"), Attrs: []api.Attr{attr("CN", " a"), attr("note", "1", "3"), attr("age", "-1", "0"), attr("age", "x")}}
	old, _ := w.t.Get("e00000002")
	text, _ := dit.Encode(x)
	got, e := w.d.Replace(w.t, named(t, "cn=a,dc=x"), x.Attrs)
	want := []api.Change{{Key: "q00", Value: strconv.Itoa(usage) + " " + strconv.Itoa(bytes+len(text)-len(old))}, {Key: "e00000002", Value: text}}
	var gone, come []string
	for _, term := range []string{"age\x001", "note\x002"} {
		gone = append(gone, "i"+crcOf(term)+"00000002")
	}
	for _, term := range []string{"note\x003", "age\x00-1", "age\x000"} {
		come = append(come, "i"+crcOf(term)+"00000002")
	}
	slices.Sort(gone)
	slices.Sort(come)
	for _, key := range gone {
		want = append(want, api.Change{Key: key, Gone: true})
	}
	for _, key := range come {
		want = append(want, api.Change{Key: key})
	}
	if e != api.OK || !slices.Equal(got, want) {
		t.Errorf("got %+v, %v, want %+v", got, e, want)
	}
	w.replace("cn=a,dc=x", api.OK, x.Attrs...)
	// What stays the same is told all the same: usage and bytes.
	got, _ = w.d.Replace(w.t, named(t, "cn=a,dc=x"), x.Attrs)
	if !slices.Equal(keysOf(got), []string{"q00", "e00000002"}) {
		t.Errorf("%+v", got)
	}
	w.replace("cn=a,dc=x", api.OK, x.Attrs...)
	w.replace("cn=a,dc=x", api.OK)
	w.replace("dc=x", api.OK, attr("cn", "a"))
	w.compare()
}

// TestW5ReplaceOrder: with several errors at once, the first one of the list is returned.
func TestW5ReplaceOrder(t *testing.T) {
	w := begun(t, tenant(t, "dc=x", 9, 150), tenant(t, "dc=y", 9, 999))
	long := attr("cn", strings.Repeat("v", 400))
	w.replace("dc=x", api.ErrNoEntry, long)
	w.add("dc=x", api.OK, attr("note", numbered(0, 10)...))
	w.add("cn=a,dc=x", api.OK)
	w.replace("", api.ErrSuffix, long)
	w.replace("cn=a,dc=z", api.ErrSuffix, long)
	w.replace("cn=a,dc=y", api.ErrNoEntry, long)
	w.replace("cn=b,dc=x", api.ErrNoEntry, long)
	w.replace("cn=a,dc=x", api.ErrLong, long)
	w.replace("cn=a,dc=x", api.ErrLong, attr("note", numbered(0, 25)...))
	w.replace("dc=x", api.ErrLong, attr("note", numbered(10, 25)...))
	w.replace("dc=x", api.ErrQuota, attr("note", numbered(10, 24)...), attr("secret", strings.Repeat("v", 60)))
	w.replace("cn=a,dc=x", api.ErrQuota, attr("note", numbered(0, 24)...))
	w.compare()
}

// TestW5Terms: the terms that go and those that come count together, and those that stay don't.
func TestW5Terms(t *testing.T) {
	w := wide(t)
	w.add("cn=a,dc=x", api.OK)
	for _, had := range []int{0, 1, 12, 23, 24} {
		for _, kept := range []int{0, 1, had / 2, had - 1, had} {
			for _, come := range []int{0, 1, 11, 12, 13, 23, 24, 25} {
				if kept < 0 || kept > had {
					continue
				}
				w.replace("cn=a,dc=x", api.OK)
				w.replace("cn=a,dc=x", api.OK, attr("note", numbered(0, had)...))
				want := api.OK
				if had-kept+come > 24 {
					want = api.ErrLong
				}
				w.replace("cn=a,dc=x", want, attr("note", numbered(had-kept, had+come)...), attr("secret", numbered(0, come)...))
				w.replace("cn=a,dc=x", api.OK, attr("note", numbered(had-kept, had)...))
			}
		}
	}
	// By and by an entry may come to have more terms than can be added at once.
	for count := 20; count <= 70; count += 10 {
		w.replace("cn=a,dc=x", api.OK, attr("note", numbered(0, count)...))
	}
	w.replace("cn=a,dc=x", api.ErrLong)
	w.replace("cn=a,dc=x", api.ErrLong, attr("note", numbered(25, 70)...))
	w.replace("cn=a,dc=x", api.OK, attr("note", numbered(24, 70)...))
	w.compare()
}

func TestW5Quota(t *testing.T) {
	for _, room := range []int{0, 1, 5, 50} {
		w := wide(t)
		w.add("cn=a,dc=x", api.OK, attr("note", "1234"))
		entries, bytes := w.d.Usage(w.t, 0)
		limits := []api.Tenant{tenant(t, "dc=x", entries, bytes+room)}
		w.d, _ = dit.New(w.m.s, limits...)
		w.m.limits = limits
		for size := range 60 {
			want := api.OK
			if size > 4+room {
				want = api.ErrQuota
			}
			w.replace("cn=a,dc=x", want, attr("note", strings.Repeat("v", size)))
			w.move("cn=a,dc=x", "cn=b", "dc=x", want, attr("note", strings.Repeat("w", size)))
			if want == api.OK {
				w.move("cn=b,dc=x", "cn=a", "dc=x", api.OK, attr("note", strings.Repeat("w", size)))
			}
		}
	}
	// A tenant that has too many entries or bytes by now.
	w := wide(t)
	w.add("cn=a,dc=x", api.OK, attr("note", "1234"))
	_, bytes := w.d.Usage(w.t, 0)
	for _, limits := range []api.Tenant{tenant(t, "dc=x", 1, 999), tenant(t, "dc=x", 2, bytes-2)} {
		w.d, _ = dit.New(w.m.s, limits)
		w.m.limits = []api.Tenant{limits}
		for _, value := range []string{"1234", "12345", "123"} {
			w.replace("cn=a,dc=x", api.ErrQuota, attr("note", value))
			w.move("cn=a,dc=x", "cn=A", "dc=x", api.ErrQuota, attr("note", value))
		}
	}
}

// TestW6Changes: each change with its value, in order.
func TestW6Changes(t *testing.T) {
	w := begun(t, tenant(t, "dc=y", 9, 999), tenant(t, "dc=x", 9, 999))
	w.add("dc=x", api.OK)
	w.add("cn=a,dc=x", api.OK, attr("note", "2", "1"))
	w.add("cn=b,dc=x", api.OK)
	_, bytes := w.d.Usage(w.t, 1)
	old, _ := w.t.Get("e00000002")
	attrs := []api.Attr{attr("age", "1"), attr("note", "1")}
	for _, c := range []struct {
		step, above string
		parent      int
		place       []api.Change
	}{
		{"CN=C+a=1", "cn=B,dc=x", 3, []api.Change{{Key: "k00000001cn=a\x00", Gone: true}, {Key: "k00000003a=1+cn=c\x00", Value: "00000002"}}},
		{"cn=a", "cn=b,dc=x", 3, []api.Change{{Key: "k00000001cn=a\x00", Gone: true}, {Key: "k00000003cn=a\x00", Value: "00000002"}}},
		{"a=1", "dc=x", 1, []api.Change{{Key: "k00000001cn=a\x00", Gone: true}, {Key: "k00000001a=1\x00", Value: "00000002"}}},
		{"CN=A", "dc=x", 1, nil},
		{"cn=a", "dc=x", 1, nil},
	} {
		text, _ := dit.Encode(api.Entry{Id: 2, Tenant: 1, Above: c.parent, Name: named(t, c.step), Attrs: attrs})
		want := append([]api.Change{{Key: "q01", Value: "3 " + strconv.Itoa(bytes+len(text)-len(old))}}, c.place...)
		want = append(want, []api.Change{{Key: "e00000002", Value: text}, {Key: "i" + crcOf("note\x002") + "00000002", Gone: true}, {Key: "i" + crcOf("age\x001") + "00000002"}}...)
		got, e := w.d.Move(w.t, named(t, "cn=a,dc=x"), named(t, c.step)[0], named(t, c.above), attrs)
		if e != api.OK || !slices.Equal(got, want) {
			t.Errorf("%s, %s: got %+v, %v, want %+v", c.step, c.above, got, e, want)
		}
	}
}

// TestW6Order: with several errors at once, the first one of the list is returned.
func TestW6Order(t *testing.T) {
	w := begun(t, tenant(t, "dc=x", 9, 250), tenant(t, "dc=y", 9, 999), tenant(t, "dc=q", 9, 999))
	long := attr("cn", strings.Repeat("v", 400))
	wrong := []api.Rdn{nil, {}, {{Type: "1"}}, {{Type: "a"}, {Type: "A"}}, {{Type: "a", Value: strings.Repeat("q", 399)}}, {{Type: "a"}, {Type: "b"}, {Type: "c"}, {Type: "d"}, {Type: "e"}}}
	w.add("dc=x", api.OK)
	w.add("cn=a,dc=x", api.OK)
	w.add("cn=b,cn=a,dc=x", api.OK)
	w.add("cn=c,dc=x", api.OK)
	w.add("dc=y", api.OK)
	key := strings.Repeat("q", 51)
	for _, step := range append(wrong, named(t, "cn=c")[0], named(t, "cn="+key)[0]) {
		for _, above := range []string{"dc=x", "dc=y", "dc=z", "cn=z,dc=x", "cn=a,dc=x", ""} {
			w.want("no tenant", w.moveName(named(t, "cn=a,dc=z"), step, named(t, above), []api.Attr{long}), api.ErrSuffix)
			w.want("no entry", w.moveName(named(t, "cn=z,dc=x"), step, named(t, above), []api.Attr{long}), api.ErrNoEntry)
			w.want("no entry", w.moveName(named(t, "dc=q"), step, named(t, above), []api.Attr{long}), api.ErrNoEntry)
			w.want("a suffix", w.moveName(named(t, "dc=x"), step, named(t, above), []api.Attr{long}), api.ErrSuffix)
		}
	}
	for _, step := range wrong {
		for _, above := range []string{"dc=x", "dc=y", "dc=z", "cn=z,dc=x", "cn=b,cn=a,dc=x", ""} {
			w.want("a wrong step", w.moveName(named(t, "cn=a,dc=x"), step, named(t, above), []api.Attr{long}), api.ErrName)
		}
	}
	for _, step := range []string{"cn=c", "cn=b", "cn=" + key} {
		for above, want := range map[string]api.Errno{
			"": api.ErrSuffix, "dc=z": api.ErrSuffix, "cn=a": api.ErrSuffix, "cn=z,dc=x": api.ErrNoEntry, "cn=z,cn=b,cn=a,dc=x": api.ErrNoEntry, "cn=z,dc=y": api.ErrNoEntry, "dc=q": api.ErrNoEntry, "dc=y": api.ErrSuffix,
			"cn=a,dc=x": api.ErrLeaf, "CN=A,dc=X": api.ErrLeaf, "cn=b,cn=a,dc=x": api.ErrLeaf,
		} {
			w.move("cn=a,dc=x", step, above, want, long)
		}
	}
	w.move("cn=a,dc=x", "cn=C", "dc=x", api.ErrExists, long)
	w.move("cn=a,dc=x", "cn="+key, "dc=x", api.ErrLong)
	w.move("cn=a,dc=x", "cn=d", "dc=x", api.ErrLong, long)
	w.move("cn=a,dc=x", "cn=d", "dc=x", api.ErrLong, attr("note", numbered(0, 25)...))
	w.move("cn=a,dc=x", "cn=d", "dc=x", api.ErrQuota, attr("note", numbered(0, 24)...), attr("secret", strings.Repeat("v", 80)))
	w.move("cn=a,dc=x", "cn=d", "dc=x", api.OK)
	w.compare()
}

// TestW6Places: to other parents and back, with others in the way, and all that is below comes along.
func TestW6Places(t *testing.T) {
	w := wide(t)
	for _, n := range []string{"cn=a,dc=x", "cn=b,cn=a,dc=x", "cn=c,cn=b,cn=a,dc=x", "cn=b,dc=x", "cn=c,cn=b,dc=x", "sn=a,dc=x"} {
		w.add(n, api.OK, attr("cn", n))
	}
	w.move("cn=b,cn=a,dc=x", "cn=b", "dc=x", api.ErrExists)
	w.move("cn=b,cn=a,dc=x", "cn=b", "cn=a,dc=x", api.OK, attr("cn", "1"))
	w.move("cn=b,cn=a,dc=x", "CN=B", "CN=A,dc=x", api.OK, attr("cn", "2"))
	w.move("cn=b,cn=a,dc=x", "cn=d", "dc=x", api.OK)
	w.move("cn=d,dc=x", "cn=b", "cn=a,dc=x", api.OK)
	w.move("cn=a,dc=x", "cn=a", "cn=b,dc=x", api.OK)
	w.move("cn=b,dc=x", "cn=b", "cn=b,cn=a,cn=b,dc=x", api.ErrLeaf)
	w.move("cn=b,cn=a,cn=b,dc=x", "cn=c", "cn=b,dc=x", api.ErrExists)
	w.move("cn=b,cn=a,cn=b,dc=x", "cn=c", "cn=c,cn=b,dc=x", api.OK)
	w.move("sn=a,dc=x", "sn=a", "cn=c,cn=c,cn=c,cn=b,dc=x", api.OK)
	w.move("sn=a,cn=c,cn=c,cn=c,cn=b,dc=x", "cn=a", "cn=c,cn=b,dc=x", api.OK)
	w.compare()
	w.remove("cn=c,cn=c,cn=c,cn=b,dc=x", api.OK)
	w.compare()
}

// TestW6Suffixes: within a tenant of a long suffix, and not to another one.
func TestW6Suffixes(t *testing.T) {
	w := begun(t, tenant(t, "ou=b,dc=y", 9, 999), tenant(t, "ou=c,dc=y", 9, 999))
	w.add("ou=b,dc=y", api.OK)
	w.add("ou=c,dc=y", api.OK)
	w.add("cn=a,ou=b,dc=y", api.OK)
	w.add("cn=b,ou=b,dc=y", api.OK)
	w.move("cn=a,ou=b,dc=y", "cn=a", "ou=c,dc=y", api.ErrSuffix)
	w.move("cn=a,ou=b,dc=y", "cn=a", "dc=y", api.ErrSuffix)
	w.move("ou=b,dc=y", "ou=b", "dc=y", api.ErrSuffix)
	w.move("ou=b,dc=y", "ou=b", "ou=b,dc=y", api.ErrSuffix)
	w.move("cn=a,ou=b,dc=y", "cn=c", "CN=B,ou=b,dc=Y", api.OK)
	w.move("cn=c,cn=b,ou=b,dc=y", "cn=d", "ou=B,dc=y", api.OK)
	w.compare()
}

// TestW6Names: the new names of the entry and of all entries below it are valid, in steps and in bytes.
func TestW6Names(t *testing.T) {
	for below := range 6 {
		w := wide(t)
		n := named(t, "dc=x")
		for i := range 13 {
			n = append(named(t, "cn="+strconv.Itoa(i)), n...)
			w.want("Add", w.addName(n, nil), api.OK)
		}
		m := named(t, "dc=x")
		for i := range 1 + below {
			m = append(named(t, "sn="+strconv.Itoa(i)), m...)
			w.want("Add", w.addName(m, nil), api.OK)
		}
		w.add("sn=beside,sn=0,dc=x", api.OK)
		for from := range 3 {
			want := api.OK
			if 14-from+1+max(below, 1) > 16 {
				want = api.ErrLong
			}
			above := n[from:]
			w.want(strconv.Itoa(from), w.moveName(named(t, "sn=0,dc=x"), named(t, "sn=0")[0], above, nil), want)
			if want == api.OK {
				w.want("back", w.moveName(append(named(t, "sn=0"), above...), named(t, "sn=0")[0], named(t, "dc=x"), nil), api.OK)
			}
		}
	}
	w := wide(t)
	n := named(t, "dc=x")
	for range 6 {
		n = append(named(t, "cn="+strings.Repeat("q", 50)), n...)
		w.want("Add", w.addName(n, nil), api.OK)
	}
	w.add("sn=a,dc=x", api.OK)
	w.add("cn="+strings.Repeat("b", 40)+",sn=a,dc=x", api.OK)
	w.add("cn=c,sn=a,dc=x", api.OK)
	// 4 bytes, 6 times 54, 44 of the longest one below, and the own step's with its comma.
	for size := range 40 {
		want := api.OK
		if 4+324+44+size+4 > 400 {
			want = api.ErrLong
		}
		step := named(t, "sn="+strings.Repeat("s", size))[0]
		w.want(strconv.Itoa(size), w.moveName(named(t, "sn=a,dc=x"), step, n, nil), want)
		if want == api.OK {
			w.want("back", w.moveName(append(api.Dn{step}, n...), named(t, "sn=a")[0], named(t, "dc=x"), nil), api.OK)
		}
	}
	w.compare()
}

// TestW6Spelling: the new names are those that the entries have, however the parent's name is written in the call.
func TestW6Spelling(t *testing.T) {
	w := wide(t)
	wide := "cn=a" + strings.Repeat(" ", 150) + "a"
	w.add(wide+",dc=x", api.OK)
	w.add(wide+",cn=a a,dc=x", api.OK)
	w.add(wide+",dc=x", api.ErrExists)
	w.add("sn=a,dc=x", api.OK)
	w.add("sn=b"+strings.Repeat(" ", 80)+"b,sn=a,dc=x", api.OK)
	w.move("sn=a,dc=x", "sn=a", "cn=a a,cn=a a,dc=x", api.ErrLong)
	w.move("sn=a,dc=x", "sn=a", "cn=a a,dc=x", api.OK)
	w.compare()
}

// TestW6Limits: keys, bytes and terms as for the other calls.
func TestW6Limits(t *testing.T) {
	w := wide(t)
	w.add("cn=a,dc=x", api.OK)
	for size := 45; size < 56; size++ {
		want := api.OK
		if size > 50 {
			want = api.ErrLong
		}
		name := "cn=" + strings.Repeat("Q", size)
		w.move("cn=a,dc=x", name, "dc=x", want)
		if want == api.OK {
			w.move(name+",dc=x", "cn=a", "dc=x", api.OK)
		}
	}
	for size := 355; size < 390; size++ {
		x := api.Entry{Id: 2, Above: 1, Name: named(t, "cn=a"), Attrs: []api.Attr{attr("note", strings.Repeat("v", size))}}
		want := api.OK
		if len(entryByWords(x)) > 400 {
			want = api.ErrLong
		}
		w.move("cn=a,dc=x", "cn=a", "dc=x", want, x.Attrs...)
	}
	w.move("cn=a,dc=x", "cn=a", "dc=x", api.OK, attr("note", numbered(0, 20)...))
	for kept := range 21 {
		want := api.OK
		if 20-kept+8 > 24 {
			want = api.ErrLong
		}
		w.move("cn=a,dc=x", "cn=b", "dc=x", want, attr("note", append(numbered(0, kept), numbered(100, 108)...)...))
		if want == api.OK {
			w.move("cn=b,dc=x", "cn=a", "dc=x", api.ErrLong, attr("note", numbered(200, 225)...))
			w.move("cn=b,dc=x", "cn=a", "dc=x", api.OK, attr("note", numbered(0, kept)...))
			w.move("cn=a,dc=x", "cn=a", "dc=x", api.OK, attr("note", numbered(0, 20)...))
		}
	}
	w.compare()
}

package dit_test

import (
	"math"
	"slices"
	"strconv"
	"strings"
	"testing"

	"palatine/api"
	"palatine/dit"
	"palatine/dn"
)

// many are tenants whose suffixes are beside one another.
func many(t *testing.T, count int) []api.Tenant {
	t.Helper()
	var list []api.Tenant
	for i := range count {
		list = append(list, tenant(t, "dc="+strconv.Itoa(i), 9, 999))
	}
	return list
}

func checkNew(t *testing.T, want api.Errno, tenants ...api.Tenant) {
	t.Helper()
	d, e := dit.New(schemaOf(t), tenants...)
	if e != want || (d != nil) != (want == api.OK) {
		t.Errorf("New of %v: %v, %v, want %v", tenants, d, e, want)
	}
}

func TestW2Counts(t *testing.T) {
	for count := range 20 {
		want := api.OK
		if count > 16 {
			want = api.ErrArg
		}
		checkNew(t, want, many(t, count)...)
	}
	checkNew(t, api.ErrArg, make([]api.Tenant, 100000)...)
}

func TestW2Negative(t *testing.T) {
	for at := range 4 {
		for _, n := range []int{math.MinInt, -2, -1, 0, 1, math.MaxInt} {
			want := api.OK
			if n < 0 {
				want = api.ErrArg
			}
			list, other := many(t, 4), many(t, 4)
			list[at].Entries, other[at].Bytes = n, n
			checkNew(t, want, list...)
			checkNew(t, want, other...)
			// A wrong suffix comes behind, wherever it is.
			for i := range list {
				if want == api.OK {
					want = api.ErrSuffix
				}
				list[i].Suffix = nil
				checkNew(t, want, list...)
			}
		}
	}
	// A wrong suffix ahead of the negative number, and ahead of one tenant too many.
	checkNew(t, api.ErrArg, append(make([]api.Tenant, 15), api.Tenant{Bytes: -1})...)
	checkNew(t, api.ErrSuffix, make([]api.Tenant, 16)...)
	checkNew(t, api.ErrArg, make([]api.Tenant, 17)...)
}

func TestW2Suffixes(t *testing.T) {
	step := api.Rdn{{Type: "a", Value: "1"}}
	for _, wrong := range []api.Dn{nil, {}, {nil}, {step, {}}, {{{Type: "1"}}}, {{{Type: "a"}, {Type: "A"}}}, slices.Repeat(api.Dn{step}, 17), {{{Type: "a", Value: strings.Repeat("q", 399)}}}} {
		for at := range 3 {
			list := many(t, 3)
			list[at].Suffix = wrong
			checkNew(t, api.ErrSuffix, list...)
		}
		checkNew(t, api.ErrSuffix, api.Tenant{Suffix: wrong})
	}
	for _, right := range []api.Dn{{step}, slices.Repeat(api.Dn{step}, 16), {{{Type: "a", Value: strings.Repeat("q", 398)}}}, {{{Type: "a", Value: ""}}}} {
		checkNew(t, api.OK, append(many(t, 3), api.Tenant{Suffix: right})...)
	}
}

// TestW2Nested: each pair of names of which one is under the other, and of names that are beside one another.
func TestW2Nested(t *testing.T) {
	names := []string{"dc=x", "DC=X", `dc=\ x\ `, "dc=y", "cn=a,dc=x", "CN=A,DC=x", "cn=b,dc=x", "cn=a,dc=y", "cn=b,cn=a,dc=x", "dc=x,dc=y", "dc=x,cn=a,dc=x", "a=1+b=2", "B=2+A=1", "a=1", "b=2", "cn=c,b=2+a=1", "dc=xx", "dc=x x", "dc=x  x"}
	for i, a := range names {
		for j, b := range names {
			want := api.OK
			if i == j || dn.Under(named(t, a), named(t, b)) || dn.Under(named(t, b), named(t, a)) {
				want = api.ErrSuffix
			}
			list := many(t, 6)
			list[1].Suffix, list[4].Suffix = named(t, a), named(t, b)
			checkNew(t, want, list...)
		}
	}
	checkNew(t, api.ErrSuffix, tenant(t, "cn=a,dc=x", 1, 1), tenant(t, "cn=b,dc=x", 1, 1), tenant(t, "dc=x", 1, 1))
}

func TestW2Tenant(t *testing.T) {
	list := many(t, 16)
	list[3].Suffix, list[15].Suffix, list[7].Suffix = named(t, "ou=b,dc=y"), named(t, "ou=c,dc=y"), named(t, "a=1+b=X  x")
	w := begun(t, list...)
	for name, want := range map[string]int{
		"dc=0": 0, "dc=1": 1, "dc=14": 14, "ou=b,dc=y": 3, "OU=B,DC=Y": 3, "cn=a,ou=b,dc=y": 3, "cn=b,cn=a,Ou=b,dc=y": 3, "ou=c,dc=y": 15, "cn=a+sn=b,ou=c,dc=y": 15, "B=x X+a=1": 7, "cn=a,A=1+b=x x": 7,
	} {
		if got, ok := w.d.Tenant(named(t, name)); got != want || !ok {
			t.Errorf("%s: %d, %v", name, got, ok)
		}
		w.lookup(named(t, name))
	}
	for _, name := range []string{"", "dc=y", "dc=3", "dc=15", "dc=16", "ou=b", "ou=d,dc=y", "ou=b,dc=x", "ou=b,dc=y,dc=z", "dc=0,dc=17", "a=1", "a=1+b=x", "b=x x", "cn=0", "dc=00"} {
		if got, ok := w.d.Tenant(named(t, name)); got != 0 || ok {
			t.Errorf("%s: %d, %v", name, got, ok)
		}
		w.lookup(named(t, name))
	}
	none := begun(t)
	for _, name := range []string{"", "dc=x"} {
		none.lookup(named(t, name))
		none.add(name, api.ErrSuffix)
	}
}

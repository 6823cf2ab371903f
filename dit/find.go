package dit

import (
	"slices"
	"strings"

	"palatine/api"
	"palatine/tree"
)

// Usage returns how many entries a tenant has, and how many bytes.
func (d *Dit) Usage(t *tree.Tree, tenant int) (entries, bytes int) {
	value, _ := t.Get(usageKey(tenant))
	return usageIn(value)
}

// Get returns the entry of a number, and whether there is one.
func (d *Dit) Get(t *tree.Tree, id int) (api.Entry, bool) {
	bytes, ok := t.Get(entryKey(id))
	if !ok {
		return api.Entry{}, false
	}
	x, e := Decode(bytes)
	return x, e == api.OK
}

// Name returns the complete name of the entry of a number.
func (d *Dit) Name(t *tree.Tree, id int) api.Dn {
	var n api.Dn
	for range api.MaxRdns { // no name has more steps
		x, ok := d.Get(t, id)
		if !ok {
			break
		}
		n = append(n, x.Name...)
		id = x.Above
	}
	return n
}

// Lookup returns the entry of a name.
func (d *Dit) Lookup(t *tree.Tree, n api.Dn) (api.Entry, api.Errno) {
	tenant, ok := d.Tenant(n)
	if !ok {
		return api.Entry{}, api.ErrSuffix
	}
	id := idAt(t, suffixKey(tenant))
	below := n[:len(n)-len(d.tenants[tenant].Suffix)]
	for _, step := range slices.Backward(below) {
		id = idAt(t, kidKey(id, api.Dn{step}))
	}
	x, ok := d.Get(t, id)
	if !ok {
		return api.Entry{}, api.ErrNoEntry
	}
	return x, api.OK
}

// idAt returns the number of the entry to which a key leads, or 0, which is no entry's and no parent's.
func idAt(t *tree.Tree, key string) int {
	value, _ := t.Get(key)
	return idIn(value)
}

// Kids returns the children of an entry, in the order of their keys.
func (d *Dit) Kids(t *tree.Tree, id int) []api.Entry {
	if !isId(id) { // its digits could be those of another number and the beginning of a step
		return nil
	}
	var kids []api.Entry
	for _, p := range within(t, kidsPrefix(id), t.Len()) {
		if x, ok := d.Get(t, idIn(p.Value)); ok {
			kids = append(kids, x)
		}
	}
	return kids
}

// Below returns an entry and all entries below it, each ahead of its children.
func (d *Dit) Below(t *tree.Tree, id int) []api.Entry {
	x, ok := d.Get(t, id)
	if !ok {
		return nil
	}
	var all []api.Entry
	waiting := []api.Entry{x}
	// In a tree that no changes have made, an entry may be below itself; but there are fewer entries than keys.
	for len(waiting) > 0 && len(all) < t.Len() {
		last := len(waiting) - 1
		x, waiting = waiting[last], waiting[:last]
		all = append(all, x)
		for _, kid := range slices.Backward(d.Kids(t, x.Id)) {
			waiting = append(waiting, kid)
		}
	}
	return all
}

// Find returns the numbers of the entries that have a value of this norm, in ascending order.
func (d *Dit) Find(t *tree.Tree, name, norm string) []int {
	kind, ok := d.indexed(name)
	if !ok {
		return nil
	}
	var ids []int
	prefix := termsPrefix(kind, norm)
	for _, p := range within(t, prefix, t.Len()) {
		id := idIn(p.Key[len(prefix):])
		if x, ok := d.Get(t, id); ok && d.hasNorm(x, kind, norm) {
			ids = append(ids, id)
		}
	}
	return ids
}

func (d *Dit) hasNorm(x api.Entry, kind, norm string) bool {
	has := false
	d.eachNorm(x.Attrs, func(k, n string) { has = has || k == kind && n == norm })
	return has
}

// indexed returns a type's name in lower case, and whether its values have terms.
func (d *Dit) indexed(name string) (kind string, ok bool) {
	t, ok := d.schema.Type(name)
	if !ok || t.Sealed {
		return "", false
	}
	return strings.ToLower(t.Name), true // a name of the schema has only ASCII letters
}

// eachNorm passes what has a term to visit: the type of each value in lower case, and the value's norm.
func (d *Dit) eachNorm(attrs []api.Attr, visit func(kind, norm string)) {
	for _, a := range attrs {
		kind, ok := d.indexed(a.Type)
		if !ok {
			continue
		}
		for _, value := range a.Values {
			if norm, e := d.schema.Norm(kind, value); e == api.OK {
				visit(kind, norm)
			}
		}
	}
}

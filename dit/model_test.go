package dit_test

import (
	"cmp"
	"fmt"
	"hash/crc32"
	"slices"
	"strconv"
	"strings"
	"testing"

	"palatine/api"
	"palatine/dn"
	"palatine/schema"
	"palatine/tree"
)

// draws is a fixed sequence of numbers, the same in every run.
type draws uint64

func (r *draws) next() uint32 {
	*r = *r*6364136223846793005 + 1442695040888963407
	return uint32(*r >> 32)
}

func (r *draws) below(n int) int { return int(r.next() % uint32(n)) }

// one reports true in one of n cases.
func (r *draws) one(n int) bool { return r.below(n) == 0 }

func (r *draws) of(texts ...string) string { return texts[r.below(len(texts))] }

// words is the schema of these tests: each syntax, and a type that is sealed.
func words() api.Schema {
	return api.Schema{Types: []api.AttrType{
		{Name: "objectClass", Syntax: 1}, {Name: "cn", Syntax: 1}, {Name: "sN", Syntax: 1}, {Name: "note", Syntax: 2},
		{Name: "age", Syntax: 3}, {Name: "boss", Syntax: 4}, {Name: "flag", Syntax: 5, Single: true}, {Name: "secret", Syntax: 2, Sealed: true}, {Name: "PIN", Syntax: 3, Sealed: true},
	}}
}

func schemaOf(t *testing.T) *schema.Schema {
	t.Helper()
	s, e := schema.New(words())
	if e != api.OK {
		t.Fatal(e)
	}
	return s
}

// named is the name of a text.
func named(t *testing.T, s string) api.Dn {
	t.Helper()
	n, e := dn.Parse(s)
	if e != api.OK {
		t.Fatalf("the name %q: %v", s, e)
	}
	return n
}

func attr(name string, values ...string) api.Attr { return api.Attr{Type: name, Values: values} }

// element is an element's bytes by chapter 9's words.
func element(tag byte, contents ...string) string {
	s := strings.Join(contents, "")
	head := []byte{tag, byte(len(s))}
	if len(s) >= 256 {
		head = []byte{tag, 0x82, byte(len(s) >> 8), byte(len(s))}
	} else if len(s) >= 128 {
		head = []byte{tag, 0x81, byte(len(s))}
	}
	return string(head) + s
}

// bytesOf is a number's bytes: as few as denote it.
func bytesOf(n int) string {
	for size := 1; ; size++ {
		b := make([]byte, size)
		for i := range b {
			b[i] = byte(n >> (8 * (size - 1 - i)))
		}
		if shift := 64 - 8*size; n<<shift>>shift == n {
			return string(b)
		}
	}
}

// entryByWords is an entry's bytes.
func entryByWords(x api.Entry) string {
	var attrs []string
	for _, a := range x.Attrs {
		var values []string
		for _, value := range a.Values {
			values = append(values, element(0x04, value))
		}
		attrs = append(attrs, element(0x30, element(0x04, a.Type), element(0x31, values...)))
	}
	return element(0x30, element(0x02, bytesOf(x.Tenant)), element(0x02, bytesOf(x.Id)), element(0x02, bytesOf(x.Above)), element(0x04, dn.Print(x.Name)), element(0x30, attrs...))
}

// isStorable is W1's conditions: an entry for which Encode has bytes.
func isStorable(x api.Entry) bool { return isShort(x) && dn.Right(x.Name) }

func isShort(x api.Entry) bool {
	return len(entryByWords(x)) <= 400 && x.Id >= 1 && x.Id <= 1<<31-1 && x.Above >= 0 && x.Above <= 1<<31-1 && x.Tenant >= 0 && x.Tenant <= 15
}

// model is the entries of all tenants by the chapter's words: a row that every question goes through.
type model struct {
	s       *schema.Schema
	limits  []api.Tenant
	next    int // 0 until something was added
	entries []api.Entry
}

func (m *model) tenant(n api.Dn) (int, bool) {
	for i, t := range m.limits {
		if dn.Under(n, t.Suffix) {
			return i, true
		}
	}
	return 0, false
}

func (m *model) get(id int) (api.Entry, bool) {
	for _, x := range m.entries {
		if x.Id == id {
			return x, true
		}
	}
	return api.Entry{}, false
}

func (m *model) name(id int) api.Dn {
	x, ok := m.get(id)
	if !ok {
		return nil
	}
	return append(slices.Clone(x.Name), m.name(x.Above)...)
}

func (m *model) lookup(n api.Dn) (api.Entry, api.Errno) {
	if _, ok := m.tenant(n); !ok {
		return api.Entry{}, api.ErrSuffix
	}
	for _, x := range m.entries {
		if dn.Same(m.name(x.Id), n) {
			return x, api.OK
		}
	}
	return api.Entry{}, api.ErrNoEntry
}

func (m *model) kids(id int) []api.Entry {
	var kids []api.Entry
	for _, x := range m.entries {
		if x.Above == id && id != 0 {
			kids = append(kids, x)
		}
	}
	slices.SortFunc(kids, func(a, b api.Entry) int { return cmp.Compare(dn.Key(a.Name), dn.Key(b.Name)) })
	return kids
}

func (m *model) below(id int) []api.Entry {
	x, ok := m.get(id)
	if !ok {
		return nil
	}
	all := []api.Entry{x}
	for _, kid := range m.kids(id) {
		all = append(all, m.below(kid.Id)...)
	}
	return all
}

func (m *model) usage(tenant int) (entries, bytes int) {
	for _, x := range m.entries {
		if x.Tenant == tenant {
			entries, bytes = entries+1, bytes+len(entryByWords(x))
		}
	}
	return entries, bytes
}

func (m *model) find(name, norm string) []int {
	var ids []int
	for _, x := range m.entries {
		has := slices.ContainsFunc(x.Attrs, func(a api.Attr) bool {
			return strings.EqualFold(a.Type, name) && slices.ContainsFunc(a.Values, func(v string) bool {
				got, e := m.s.Norm(name, v)
				return e == api.OK && got == norm
			})
		})
		if kind, ok := m.s.Type(name); has && ok && !kind.Sealed {
			ids = append(ids, x.Id)
		}
	}
	slices.Sort(ids)
	return ids
}

func (m *model) terms(x api.Entry) []string {
	var terms []string
	for _, a := range x.Attrs {
		kind, _ := m.s.Type(a.Type)
		for _, value := range a.Values {
			if norm, e := m.s.Norm(a.Type, value); e == api.OK && !kind.Sealed {
				terms = append(terms, fmt.Sprintf("i%08x%08x", crc32.ChecksumIEEE([]byte(strings.ToLower(a.Type)+"\x00"+norm)), x.Id))
			}
		}
	}
	slices.Sort(terms)
	return slices.Compact(terms)
}

// table is all keys with their values.
func (m *model) table() map[string]string {
	keys := map[string]string{}
	if m.next > 0 {
		keys["c"] = strconv.Itoa(m.next)
	}
	for i := range m.limits {
		if entries, bytes := m.usage(i); entries > 0 {
			keys[fmt.Sprintf("q%02x", i)] = fmt.Sprintf("%d %d", entries, bytes)
		}
	}
	for _, x := range m.entries {
		if x.Above == 0 {
			keys[fmt.Sprintf("s%02x", x.Tenant)] = fmt.Sprintf("%08x", x.Id)
		} else {
			keys[fmt.Sprintf("k%08x", x.Above)+dn.Key(x.Name)] = fmt.Sprintf("%08x", x.Id)
		}
		keys[fmt.Sprintf("e%08x", x.Id)] = entryByWords(x)
		for _, term := range m.terms(x) {
			keys[term] = ""
		}
	}
	return keys
}

// changesByWords are those from one table to another one, in the chapter's order. The keys that are named too are put even if they are the same in both.
func changesByWords(from, to map[string]string, named ...string) []api.Change {
	var list []api.Change
	for key := range from {
		if _, ok := to[key]; !ok {
			list = append(list, api.Change{Key: key, Gone: true})
		}
	}
	for key, value := range to {
		if old, ok := from[key]; !ok || old != value || slices.Contains(named, key) {
			list = append(list, api.Change{Key: key, Value: value})
		}
	}
	place := func(c api.Change) int {
		at := 2 * strings.IndexByte("cqskei", c.Key[0])
		if !c.Gone {
			at++
		}
		return at
	}
	slices.SortFunc(list, func(a, b api.Change) int {
		return cmp.Or(cmp.Compare(place(a), place(b)), cmp.Compare(a.Key, b.Key))
	})
	return list
}

// then is a model in which an entry has been put in the place of the one with its number, or taken away.
func (m *model) then(x api.Entry, stays bool) *model {
	next := &model{s: m.s, limits: m.limits, next: m.next}
	for _, old := range m.entries {
		if old.Id != x.Id {
			next.entries = append(next.entries, old)
		}
	}
	if stays {
		next.entries = append(next.entries, x)
	}
	return next
}

func (m *model) isOver(tenant int) bool {
	entries, bytes := m.usage(tenant)
	return entries > m.limits[tenant].Entries || bytes > m.limits[tenant].Bytes
}

// moved is how many terms two entries don't share.
func (m *model) moved(a, b api.Entry) int {
	n := 0
	for _, term := range m.terms(a) {
		if !slices.Contains(m.terms(b), term) {
			n++
		}
	}
	for _, term := range m.terms(b) {
		if !slices.Contains(m.terms(a), term) {
			n++
		}
	}
	return n
}

func hasLongKey(step api.Rdn) bool { return len(dn.Key(api.Dn{step})) > 54 }

func (m *model) add(n api.Dn, attrs []api.Attr) (*model, []api.Change, api.Errno) {
	tenant, ok := m.tenant(n)
	if !ok {
		return m, nil, api.ErrSuffix
	}
	if _, e := m.lookup(n); e == api.OK {
		return m, nil, api.ErrExists
	}
	x := api.Entry{Id: max(m.next, 1), Tenant: tenant, Name: n, Attrs: attrs}
	isSuffix := dn.Same(n, m.limits[tenant].Suffix)
	if !isSuffix {
		parent, e := m.lookup(n[1:])
		if e != api.OK {
			return m, nil, api.ErrNoEntry
		}
		x.Above, x.Name = parent.Id, n[:1]
	}
	if !dn.Right(n) || !isSuffix && hasLongKey(n[0]) || !isStorable(x) || len(m.terms(x)) > 24 || x.Id > 1<<31-1 {
		return m, nil, api.ErrLong
	}
	next := m.then(x, true)
	next.next = x.Id + 1
	if next.isOver(tenant) {
		return m, nil, api.ErrQuota
	}
	return next, changesByWords(m.table(), next.table()), api.OK
}

func (m *model) remove(n api.Dn) (*model, []api.Change, api.Errno) {
	x, e := m.lookup(n)
	if e != api.OK {
		return m, nil, e
	}
	if len(m.kids(x.Id)) > 0 {
		return m, nil, api.ErrLeaf
	}
	next := m.then(x, false)
	return next, changesByWords(m.table(), next.table()), api.OK
}

// rewrite is the end of a replace and of a move.
func (m *model) rewrite(old, x api.Entry) (*model, []api.Change, api.Errno) {
	if !isStorable(x) || m.moved(old, x) > 24 {
		return m, nil, api.ErrLong
	}
	next := m.then(x, true)
	if next.isOver(x.Tenant) {
		return m, nil, api.ErrQuota
	}
	return next, changesByWords(m.table(), next.table(), fmt.Sprintf("q%02x", x.Tenant), fmt.Sprintf("e%08x", x.Id)), api.OK
}

func (m *model) replace(n api.Dn, attrs []api.Attr) (*model, []api.Change, api.Errno) {
	old, e := m.lookup(n)
	if e != api.OK {
		return m, nil, e
	}
	x := old
	x.Attrs = attrs
	return m.rewrite(old, x)
}

func (m *model) move(n api.Dn, step api.Rdn, above api.Dn, attrs []api.Attr) (*model, []api.Change, api.Errno) {
	old, e := m.lookup(n)
	if e != api.OK {
		return m, nil, e
	}
	if dn.Same(n, m.limits[old.Tenant].Suffix) {
		return m, nil, api.ErrSuffix
	}
	if !dn.Right(api.Dn{step}) {
		return m, nil, api.ErrName
	}
	parent, e := m.lookup(above)
	if e != api.OK {
		return m, nil, e
	}
	if parent.Tenant != old.Tenant {
		return m, nil, api.ErrSuffix
	}
	if slices.ContainsFunc(m.below(old.Id), func(x api.Entry) bool { return x.Id == parent.Id }) {
		return m, nil, api.ErrLeaf
	}
	for _, kid := range m.kids(parent.Id) {
		if kid.Id != old.Id && dn.Same(kid.Name, api.Dn{step}) {
			return m, nil, api.ErrExists
		}
	}
	x := old
	x.Above, x.Name, x.Attrs = parent.Id, api.Dn{step}, attrs
	next := m.then(x, true)
	for _, y := range next.below(x.Id) {
		if !dn.Right(next.name(y.Id)) {
			return m, nil, api.ErrLong
		}
	}
	if hasLongKey(step) {
		return m, nil, api.ErrLong
	}
	return m.rewrite(old, x)
}

// made applies changes, in order.
func made(t *tree.Tree, list []api.Change) {
	for _, c := range list {
		if c.Gone {
			t.Delete(c.Key)
		} else {
			t.Put(c.Key, c.Value)
		}
	}
}

// pairsOf is a table in the order of its keys.
func pairsOf(table map[string]string) []api.Pair {
	var pairs []api.Pair
	for key, value := range table {
		pairs = append(pairs, api.Pair{Key: key, Value: value})
	}
	slices.SortFunc(pairs, func(a, b api.Pair) int { return cmp.Compare(a.Key, b.Key) })
	return pairs
}

// isSameEntry compares with nil and empty lists as equal.
func isSameEntry(a, b api.Entry) bool {
	return a.Id == b.Id && a.Tenant == b.Tenant && a.Above == b.Above && isSameName(a.Name, b.Name) &&
		slices.EqualFunc(a.Attrs, b.Attrs, func(x, y api.Attr) bool { return x.Type == y.Type && slices.Equal(x.Values, y.Values) })
}

// isSameName compares byte by byte.
func isSameName(a, b api.Dn) bool {
	return slices.EqualFunc(a, b, func(x, y api.Rdn) bool { return slices.Equal(x, y) })
}

func areSameEntries(a, b []api.Entry) bool { return slices.EqualFunc(a, b, isSameEntry) }

// crcOf is a checksum as it stands in a key.
func crcOf(s string) string { return fmt.Sprintf("%08x", crc32.ChecksumIEEE([]byte(s))) }

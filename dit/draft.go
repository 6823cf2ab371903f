package dit

import (
	"slices"
	"strconv"

	"palatine/api"
	"palatine/dn"
	"palatine/tree"
)

// maxTerms is how many terms a modification may remove and add together.
const maxTerms = 24

// state is what the keys of an entry tell. The zero state is that of an entry that isn't there.
type state struct {
	id    int
	place string // its key s or k
	bytes string
	terms []string // in ascending order
}

// stateOf returns the state of an entry that can be stored.
func (d *Dit) stateOf(x api.Entry) (state, api.Errno) {
	bytes, e := Encode(x)
	if e != api.OK || x.Above != 0 && len(dn.Key(x.Name)) > api.MaxStep {
		return state{}, api.ErrLong
	}
	return state{id: x.Id, place: placeKey(x), bytes: bytes, terms: d.terms(x)}, api.OK
}

// terms returns the terms of an entry in ascending order, each once.
func (d *Dit) terms(x api.Entry) []string {
	var keys []string
	d.eachNorm(x.Attrs, func(kind, norm string) {
		keys = append(keys, termsPrefix(kind, norm)+hex(x.Id, idDigits))
	})
	slices.Sort(keys)
	return slices.Compact(keys)
}

// without returns the keys of one list in ascending order that another one doesn't have.
func without(keys, others []string) []string {
	var rest []string
	for _, key := range keys {
		if _, found := slices.BinarySearch(others, key); !found {
			rest = append(rest, key)
		}
	}
	return rest
}

// draft collects the changes of one modification of the tree that it reads. It never writes to the tree.
type draft struct {
	*tree.Tree
	tenant  int
	changes []api.Change
}

func (w *draft) put(key, value string) {
	w.changes = append(w.changes, api.Change{Key: key, Value: value})
}

func (w *draft) drop(key string) {
	w.changes = append(w.changes, api.Change{Key: key, Gone: true})
}

// next returns the number of the next entry.
func (w *draft) next() int {
	if value, ok := w.Get(nextKey); ok {
		return numberIn(value)
	}
	return 1
}

// count collects the change by which a number is given to an entry.
func (w *draft) count(id int) { w.put(nextKey, strconv.Itoa(id+1)) }

func (w *draft) hasKids(id int) bool { return len(within(w.Tree, kidsPrefix(id), 1)) > 0 }

// isTaken reports whether another entry is where an entry is to be.
func (w *draft) isTaken(x api.Entry) bool {
	value, ok := w.Get(placeKey(x))
	return ok && idIn(value) != x.Id
}

// usage returns what the tenant uses once an entry has come from one state to another one.
func (w *draft) usage(from, to state) (entries, bytes int) {
	value, _ := w.Get(usageKey(w.tenant))
	entries, bytes = usageIn(value)
	return entries + to.entries() - from.entries(), bytes + len(to.bytes) - len(from.bytes)
}

// entries returns how many entries a state stands for.
func (s state) entries() int {
	if s.id == 0 {
		return 0
	}
	return 1
}

// turn collects the changes by which an entry comes from one state to another one, in the order of the chapter's table.
func (w *draft) turn(from, to state) {
	w.turnUsage(w.usage(from, to))
	if from.place != to.place {
		w.turnPlace(from, to)
	}
	if to.id == 0 {
		w.drop(entryKey(from.id))
	} else {
		w.put(entryKey(to.id), to.bytes)
	}
	for _, key := range without(from.terms, to.terms) {
		w.drop(key)
	}
	for _, key := range without(to.terms, from.terms) {
		w.put(key, "")
	}
}

func (w *draft) turnUsage(entries, bytes int) {
	key := usageKey(w.tenant)
	if entries == 0 {
		w.drop(key)
	} else {
		w.put(key, strconv.Itoa(entries)+" "+strconv.Itoa(bytes))
	}
}

func (w *draft) turnPlace(from, to state) {
	if from.id != 0 {
		w.drop(from.place)
	}
	if to.id != 0 {
		w.put(to.place, hex(to.id, idDigits))
	}
}

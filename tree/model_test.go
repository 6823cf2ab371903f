package tree_test

import (
	"math"
	"testing"

	"palatine/api"
	"palatine/tree"
)

// model is a tree by G1's and G2's words: a row of pairs that every call goes through from the beginning.
type model []api.Pair

// place returns how many keys are less, and whether the key is the next one.
func (m model) place(key string) (int, bool) {
	n := 0
	for n < len(m) && before(m[n].Key, key) {
		n++
	}
	return n, n < len(m) && m[n].Key == key
}

// before is the chapter's order, byte by byte.
func before(a, b string) bool {
	for i := range min(len(a), len(b)) {
		if a[i] != b[i] {
			return a[i] < b[i]
		}
	}
	return len(a) < len(b)
}

func (m model) get(key string) (string, bool) {
	if i, ok := m.place(key); ok {
		return m[i].Value, true
	}
	return "", false
}

func (m *model) put(key, value string) bool {
	i, ok := m.place(key)
	p := api.Pair{Key: key, Value: value}
	if ok {
		(*m)[i] = p
		return true
	}
	*m = append((*m)[:i:i], append(model{p}, (*m)[i:]...)...)
	return false
}

func (m *model) remove(key string) bool {
	i, ok := m.place(key)
	if ok {
		*m = append((*m)[:i:i], (*m)[i+1:]...)
	}
	return ok
}

// drawn is a key of up to most bytes of an alphabet: short ones often meet others and their beginnings.
func (r *draws) drawn(alphabet string, most int) string {
	b := make([]byte, r.below(most+1))
	for i := range b {
		b[i] = alphabet[r.below(len(alphabet))]
	}
	return string(b)
}

// world is a tree and its model, and the keys that are drawn for it.
type world struct {
	r        draws
	x        *tree.Tree
	m        model
	alphabet string
	most     int
}

func (w *world) key() string { return w.r.drawn(w.alphabet, w.most) }

// step makes one change, of which the first of ten parts puts and the rest deletes.
func (w *world) step(t *testing.T, puts int) {
	t.Helper()
	k := w.key()
	if w.r.below(10) < puts {
		v := w.r.drawn("xyz", 2)
		wantPut(t, w.x, k, v, w.m.put(k, v))
		return
	}
	// A key that is there is found too seldom by chance.
	if len(w.m) > 0 && w.r.below(3) > 0 {
		k = w.m[w.r.below(len(w.m))].Key
	}
	wantDelete(t, w.x, k, w.m.remove(k))
}

func (w *world) compare(t *testing.T) {
	t.Helper()
	wantPairs(t, "All", w.x.All(), w.m)
	if w.x.Len() != len(w.m) {
		t.Errorf("Len: got %d, want %d", w.x.Len(), len(w.m))
	}
	wantDepth(t, w.x)
	for range 4 {
		k := w.key()
		v, ok := w.m.get(k)
		if got, is := w.x.Get(k); got != v || is != ok {
			t.Errorf("Get(%q): got %q, %v, want %q, %v", k, got, is, v, ok)
		}
		from, to := w.key(), w.key()
		list := append(mosts(len(w.m)), w.r.below(len(w.m)+1))
		most := list[w.r.below(len(list))]
		wantPairs(t, "Scan", w.x.Scan(from, to, most), scanned(w.m, from, to, most))
		wantPairs(t, "Scan to the end", w.x.Scan(from, "", math.MaxInt), scanned(w.m, from, "", math.MaxInt))
	}
}

// Mixtures of all calls, in which the tree grows and shrinks by turns. Clones go on in the place of their trees, which stay as they were.
func TestG4Mixtures(t *testing.T) {
	for seed := range draws(120) {
		alphabet := []string{"ab", "\x00\x01\x80\xff", "abcdefghijklmnop"}[seed%3]
		w := &world{r: seed, x: tree.New(), alphabet: alphabet, most: 1 + int(seed%7)}
		for turn := range 8 {
			puts := []int{9, 3, 7, 1}[turn%4]
			old, kept := w.x, w.x.All()
			if w.r.below(2) == 0 {
				w.x = w.x.Clone()
			}
			for i := range 20 + w.r.below(150) {
				w.step(t, puts)
				if i%4 == 0 {
					w.compare(t)
				}
			}
			w.compare(t)
			if old != w.x {
				wantPairs(t, "All of the tree that was cloned", old.All(), kept)
			}
		}
		wantSame(t, w.x, tree.Of(w.m...))
		if t.Failed() {
			t.Fatalf("the mixture %d failed", seed)
		}
	}
}

// Thousands of keys that come and go around the numbers at which a level is added or taken away.
func TestG4LargeMixture(t *testing.T) {
	w := &world{r: 1, x: tree.New(), alphabet: "0123456789abcdef", most: 6}
	for turn := range 12 {
		for range 2000 {
			w.step(t, []int{10, 10, 6, 4, 2, 9, 5, 1, 8, 0, 0, 0}[turn])
		}
		w.compare(t)
		wantSame(t, w.x, tree.Of(w.m...))
	}
}

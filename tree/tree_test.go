package tree_test

import (
	"math"
	"slices"
	"strings"
	"testing"

	"palatine/api"
	"palatine/tree"
)

// pairs are keys, each followed by its value.
func pairs(list ...string) []api.Pair {
	var p []api.Pair
	for i := 0; i < len(list); i += 2 {
		p = append(p, api.Pair{Key: list[i], Value: list[i+1]})
	}
	return p
}

func wantPairs(t *testing.T, call string, got, want []api.Pair) {
	t.Helper()
	if !slices.Equal(got, want) {
		t.Errorf("%s: got %d pairs %.200q, want %d pairs %.200q", call, len(got), got, len(want), want)
	}
}

func wantScan(t *testing.T, x *tree.Tree, from, to string, most int, want ...string) {
	t.Helper()
	if got := x.Scan(from, to, most); !slices.Equal(got, pairs(want...)) {
		t.Errorf("Scan(%q, %q, %d): got %q, want %q", from, to, most, got, want)
	}
}

func wantAll(t *testing.T, x *tree.Tree, want ...string) {
	t.Helper()
	wantPairs(t, "All", x.All(), pairs(want...))
	if x.Len() != len(want)/2 {
		t.Errorf("Len: got %d, want %d", x.Len(), len(want)/2)
	}
}

func wantGet(t *testing.T, x *tree.Tree, key, want string) {
	t.Helper()
	if v, ok := x.Get(key); v != want || !ok {
		t.Errorf("Get(%.80q): got %.80q, %v, want %.80q, true", key, v, ok, want)
	}
}

func wantNone(t *testing.T, x *tree.Tree, key string) {
	t.Helper()
	if v, ok := x.Get(key); v != "" || ok {
		t.Errorf("Get(%.80q): got %.80q, %v, want nothing", key, v, ok)
	}
}

func wantPut(t *testing.T, x *tree.Tree, key, value string, was bool) {
	t.Helper()
	if got := x.Put(key, value); got != was {
		t.Errorf("Put(%.80q): got %v, want %v", key, got, was)
	}
}

func wantDelete(t *testing.T, x *tree.Tree, key string, was bool) {
	t.Helper()
	if got := x.Delete(key); got != was {
		t.Errorf("Delete(%.80q): got %v, want %v", key, got, was)
	}
}

// wantDepth holds the depth against G3 and against the fewest keys that it asks for.
func wantDepth(t *testing.T, x *tree.Tree) {
	t.Helper()
	if d, n := x.Depth(), x.Len(); d < 1 || d > 1 && (d > 62 || n < 1<<(d-1)) {
		t.Errorf("%d keys have the depth %d", n, d)
	}
}

func wantEmpty(t *testing.T, x *tree.Tree) {
	t.Helper()
	wantAll(t, x)
	wantScan(t, x, "", "", math.MaxInt)
	wantScan(t, x, "a", "", 1)
	wantScan(t, x, "", "b", 1)
	if d := x.Depth(); d != 1 {
		t.Errorf("the empty tree has the depth %d", d)
	}
	for _, k := range oddKeys() {
		wantNone(t, x, k)
		wantDelete(t, x, k, false)
	}
}

// oddKeys are keys in the order of their bytes: the empty one, the beginnings of others, with zero bytes, with bytes above 127, with bytes that are no UTF-8, and long ones.
func oddKeys() []string {
	return []string{
		"", "\x00", "\x00\x00", "\x00\x00\x01", "\x00\x01", "\x00a", "\x00\xff", "\x01", "\n", " ", "-", "-1", "0", "00", "1", "10", "2",
		"A", "AA", "B", "Z", "a", "a\x00", "a\x00\x00", "a\x00b", "a\x01", "a ", "aA", "aa", "aa\x00", "aaa", "aab", "ab", "a\x7f", "a\x80", "a\xc3", "aé", "a\xff", "a\xff\x00", "a\xff\xff",
		"b", "b" + strings.Repeat("x", 63), "b" + strings.Repeat("x", 64), "b" + strings.Repeat("x", 63) + "y", "b" + strings.Repeat("y", 5000), "b" + strings.Repeat("y", 5000) + "\x00", "z", "\x7f",
		"\x80", "\x80\x00", "\x80a", "\xc3", "\xc3\x28", "é", "é\x00", "éa", "€", "\xed\xa0\x80", "\ufeff", "\ufffd", "\U0001f600", "\xfe", "\xff", "\xff\x00", "\xff\xfe", "\xff\xff", "\xff\xff\x00",
	}
}

// value is a value that tells its key.
func value(key string) string { return "<" + key + ">" }

// rising are n keys in order, of which none is the beginning of another one.
func rising(n int) []string {
	var keys []string
	for i := range n {
		keys = append(keys, string([]byte{byte(i >> 16), byte(i >> 8), byte(i)}))
	}
	return keys
}

func falling(keys []string) []string {
	keys = slices.Clone(keys)
	slices.Reverse(keys)
	return keys
}

// draws is a fixed sequence of numbers, the same in every run.
type draws uint64

func (r *draws) below(n int) int {
	*r = *r*6364136223846793005 + 1442695040888963407
	return int(uint64(*r>>33) % uint64(n))
}

func (r *draws) mixed(keys []string) []string {
	keys = slices.Clone(keys)
	for i := len(keys) - 1; i > 0; i-- {
		j := r.below(i + 1)
		keys[i], keys[j] = keys[j], keys[i]
	}
	return keys
}

// zigzag takes keys from both ends in turn.
func zigzag(keys []string) []string {
	var list []string
	for i, j := 0, len(keys)-1; i <= j; i, j = i+1, j-1 {
		list = append(list, keys[i])
		if i < j {
			list = append(list, keys[j])
		}
	}
	return list
}

// orders are some orders of keys: rising, falling, mixed, from the ends to the middle, and from the middle to the ends.
func orders(keys []string) [][]string {
	r := draws(len(keys))
	return [][]string{keys, falling(keys), r.mixed(keys), r.mixed(keys), zigzag(keys), falling(zigzag(keys))}
}

func holding(keys ...string) *tree.Tree {
	x := tree.New()
	for _, k := range keys {
		x.Put(k, value(k))
	}
	return x
}

func TestExamples(t *testing.T) {
	x := tree.New()
	wantPut(t, x, "b", "1", false)
	wantPut(t, x, "a", "2", false)
	wantPut(t, x, "b", "3", true)
	wantAll(t, x, "a", "2", "b", "3")
	wantScan(t, x, "a", "b", 9, "a", "2")
	wantScan(t, x, "aa", "", 9, "b", "3")
	wantScan(t, x, "", "", 1, "a", "2")
	wantDelete(t, x, "a", true)
	wantDelete(t, x, "a", false)
	wantAll(t, x, "b", "3")
	wantNone(t, x, "a")
	if d := holding(rising(4)...).Depth(); d < 1 || d > 3 {
		t.Errorf("4 keys have the depth %d", d)
	}
	if d := holding(rising(100)...).Depth(); d < 1 || d > 7 {
		t.Errorf("100 keys have the depth %d", d)
	}
}

func TestG1Empty(t *testing.T) {
	wantEmpty(t, tree.New())
	wantEmpty(t, tree.Of())
	wantEmpty(t, tree.Of([]api.Pair{}...))
	wantEmpty(t, tree.New().Clone())
	x := tree.Of(api.Pair{Key: "a", Value: "1"})
	wantDelete(t, x, "a", true)
	wantEmpty(t, x)
	wantEmpty(t, x.Clone())
	wantPut(t, x, "a", "2", false)
	wantAll(t, x, "a", "2")
}

func TestG1OddKeys(t *testing.T) {
	keys := oddKeys()
	if !slices.IsSortedFunc(keys, strings.Compare) {
		t.Fatal("the test's own keys are out of order")
	}
	for _, order := range orders(keys) {
		x := tree.New()
		for i, k := range order {
			wantNone(t, x, k)
			wantDelete(t, x, k, false)
			wantPut(t, x, k, value(k), false)
			wantGet(t, x, k, value(k))
			if x.Len() != i+1 {
				t.Errorf("Len: got %d, want %d", x.Len(), i+1)
			}
		}
		for i, p := range x.All() {
			if p != (api.Pair{Key: keys[i], Value: value(keys[i])}) {
				t.Errorf("%d: got %.80q, want %.80q", i, p, keys[i])
			}
		}
	}
}

func TestG1EmptyKey(t *testing.T) {
	x := tree.New()
	wantPut(t, x, "", "1", false)
	wantAll(t, x, "", "1")
	wantNone(t, x, "\x00")
	wantPut(t, x, "", "2", true)
	wantGet(t, x, "", "2")
	wantPut(t, x, "a", "3", false)
	wantAll(t, x, "", "2", "a", "3")
	wantScan(t, x, "", "a", 9, "", "2")
	wantScan(t, x, "", "\x00", 9, "", "2")
	wantScan(t, x, "\x00", "", 9, "a", "3")
	wantDelete(t, x, "", true)
	wantDelete(t, x, "", false)
	wantAll(t, x, "a", "3")
}

// A value that is empty is there, unlike a key that isn't.
func TestG1EmptyValue(t *testing.T) {
	x := tree.New()
	wantPut(t, x, "b", "", false)
	wantGet(t, x, "b", "")
	wantNone(t, x, "a")
	wantNone(t, x, "c")
	wantNone(t, x, "")
	wantAll(t, x, "b", "")
	wantPut(t, x, "b", "1", true)
	wantGet(t, x, "b", "1")
	wantPut(t, x, "b", "", true)
	wantAll(t, x, "b", "")
	wantPut(t, x, "", "", false)
	wantAll(t, x, "", "", "b", "")
	wantDelete(t, x, "b", true)
	wantNone(t, x, "b")
	wantGet(t, x, "", "")
	wantDelete(t, x, "", true)
	wantEmpty(t, x)
}

func TestG1Values(t *testing.T) {
	values := append(oddKeys(), strings.Repeat("\x00", 400), strings.Repeat("v", 100000))
	x := tree.New()
	for _, v := range values {
		x.Put("k", v)
		wantGet(t, x, "k", v)
		wantAll(t, x, "k", v)
	}
	for _, v := range values {
		x.Put(v, v)
	}
	for _, v := range values {
		wantGet(t, x, v, v)
	}
}

func TestG1PutAgain(t *testing.T) {
	keys := rising(300)
	for _, order := range orders(keys) {
		x := holding(order...)
		d := x.Depth()
		for i, k := range keys {
			wantPut(t, x, k, "new", true)
			wantGet(t, x, k, "new")
			if i+1 < len(keys) {
				wantGet(t, x, keys[i+1], value(keys[i+1]))
			}
		}
		if x.Len() != 300 || x.Depth() != d {
			t.Errorf("got Len %d, Depth %d, want 300, %d", x.Len(), x.Depth(), d)
		}
	}
}

func TestG1Of(t *testing.T) {
	given := pairs("b", "1", "a", "2", "b", "3", "", "4", "a", "")
	before := slices.Clone(given)
	x := tree.Of(given...)
	wantAll(t, x, "", "4", "a", "", "b", "3")
	wantPairs(t, "the argument", given, before)
	for i := range given {
		given[i] = api.Pair{Key: "z", Value: "z"}
	}
	wantAll(t, x, "", "4", "a", "", "b", "3")
	for _, order := range orders(rising(200)) {
		y := holding(order...)
		var list []api.Pair
		for _, k := range order {
			list = append(list, api.Pair{Key: k, Value: "old"}, api.Pair{Key: k, Value: value(k)})
		}
		if z := tree.Of(list...); z.Len() != 200 || z.Depth() != y.Depth() || !slices.Equal(z.All(), y.All()) {
			t.Error("Of differs from Put")
		}
	}
}

func TestG1DeleteOfAbsentKeys(t *testing.T) {
	keys := rising(300)
	x := holding(keys...)
	before, d := x.All(), x.Depth()
	for _, k := range keys {
		wantDelete(t, x, k+"\x00", false)
		wantDelete(t, x, k[:2], false)
		wantDelete(t, x, k[:1]+"\x01"+k[2:]+"\xff", false)
	}
	wantDelete(t, x, "", false)
	wantDelete(t, x, "\xff", false)
	wantPairs(t, "All", x.All(), before)
	if x.Len() != 300 || x.Depth() != d {
		t.Errorf("got Len %d, Depth %d, want 300, %d", x.Len(), x.Depth(), d)
	}
}

// mosts are numbers of pairs to scan: below 1, the edges of a length, and far more.
func mosts(n int) []int {
	return []int{math.MinInt, -n, -1, 0, 1, 2, 3, n - 1, n, n + 1, math.MaxInt}
}

// scanned is G2's first sentence word by word: of all pairs, those from one key on and below another one.
func scanned(all []api.Pair, from, to string, most int) []api.Pair {
	var some []api.Pair
	for _, p := range all {
		if len(some) < most && p.Key >= from && (to == "" || p.Key < to) {
			some = append(some, p)
		}
	}
	return some
}

func TestG2Most(t *testing.T) {
	x := tree.Of(pairs("a", "1", "b", "2", "c", "")...)
	for _, most := range []int{math.MinInt, -1, 0} {
		wantScan(t, x, "", "", most)
		wantScan(t, x, "a", "z", most)
	}
	wantScan(t, x, "", "", 1, "a", "1")
	wantScan(t, x, "", "", 2, "a", "1", "b", "2")
	wantScan(t, x, "b", "", 1, "b", "2")
	for _, most := range []int{3, 4, math.MaxInt} {
		wantScan(t, x, "", "", most, "a", "1", "b", "2", "c", "")
	}
}

func TestG2FromAndTo(t *testing.T) {
	x := tree.Of(pairs("", "0", "a", "1", "a\x00", "2", "ab", "3", "b", "4", "\xff", "5")...)
	wantScan(t, x, "", "", 9, "", "0", "a", "1", "a\x00", "2", "ab", "3", "b", "4", "\xff", "5")
	wantScan(t, x, "\x00", "", 9, "a", "1", "a\x00", "2", "ab", "3", "b", "4", "\xff", "5")
	wantScan(t, x, "", "\x00", 9, "", "0")
	wantScan(t, x, "a", "b", 9, "a", "1", "a\x00", "2", "ab", "3")
	wantScan(t, x, "a\x00", "ab", 9, "a\x00", "2")
	wantScan(t, x, "a\x01", "aa", 9)
	wantScan(t, x, "aa", "ac", 9, "ab", "3")
	wantScan(t, x, "b", "", 9, "b", "4", "\xff", "5")
	wantScan(t, x, "b\x00", "\xff", 9)
	wantScan(t, x, "b", "\xff\x00", 9, "b", "4", "\xff", "5")
	wantScan(t, x, "\xff", "", 9, "\xff", "5")
	wantScan(t, x, "\xff\x00", "", 9)
	wantScan(t, x, "a", "a", 9)
	wantScan(t, x, "a", "a\x00", 9, "a", "1")
	wantScan(t, x, "b", "a", 9)
	wantScan(t, x, "\xff", "a", 9)
	wantScan(t, x, "\xff\xff", "\xff", 9)
}

func TestG2OddKeys(t *testing.T) {
	keys := oddKeys()
	var some []string
	for i := 0; i < len(keys); i += 2 {
		some = append(some, keys[i])
	}
	x := holding(some...)
	all := x.All()
	for _, from := range keys {
		for _, to := range keys {
			for _, most := range mosts(len(some)) {
				wantPairs(t, "Scan", x.Scan(from, to, most), scanned(all, from, to, most))
			}
		}
	}
}

// In a tree of several levels, from and to fall on every key and between any two.
func TestG2ManyKeys(t *testing.T) {
	for _, n := range []int{9, 65, 513} {
		for _, order := range orders(rising(n)) {
			x := holding(order...)
			all := x.All()
			for i, k := range rising(n) {
				for _, from := range []string{k, k + "\x00"} {
					wantPairs(t, "Scan to the end", x.Scan(from, "", n), scanned(all, from, "", n))
					wantPairs(t, "Scan of one", x.Scan(from, "", 1), scanned(all, from, "", 1))
					wantPairs(t, "Scan of ten", x.Scan(from, "", 10), scanned(all, from, "", 10))
					wantPairs(t, "Scan from the beginning", x.Scan("", from, n), scanned(all, "", from, n))
					to := rising(n + 40)[i+37]
					wantPairs(t, "Scan of a part", x.Scan(from, to, n), scanned(all, from, to, n))
					wantPairs(t, "Scan with to ahead of from", x.Scan(to, from, n), nil)
				}
			}
		}
	}
}

func TestG2All(t *testing.T) {
	for _, n := range []int{1, 2, 7, 8, 9, 63, 64, 65, 100, 511, 512, 513, 1000} {
		for _, order := range orders(rising(n)) {
			var want []api.Pair
			for _, k := range rising(n) {
				want = append(want, api.Pair{Key: k, Value: value(k)})
			}
			x := holding(order...)
			wantPairs(t, "All", x.All(), want)
			wantPairs(t, "Scan of all", x.Scan("", "", math.MaxInt), want)
		}
	}
}

// Clones, and clones of these, that are changed on both sides.
func TestG2Clone(t *testing.T) {
	for _, n := range []int{0, 1, 2, 8, 9, 65, 300} {
		keys := rising(n)
		x := holding(keys...)
		y := x.Clone()
		z := y.Clone()
		want := x.All()
		for _, c := range []*tree.Tree{y, z} {
			wantPairs(t, "All of a clone", c.All(), want)
			if c.Len() != n || c.Depth() != x.Depth() {
				t.Errorf("a clone has Len %d, Depth %d, not %d, %d", c.Len(), c.Depth(), n, x.Depth())
			}
		}
		for _, k := range keys {
			wantPut(t, x, k, "changed", true)
			wantPut(t, x, k+"x", "new", false)
			wantDelete(t, y, k, true)
		}
		wantPairs(t, "All of the second clone", z.All(), want)
		wantEmpty(t, y)
		for _, k := range keys {
			wantGet(t, x, k, "changed")
			wantGet(t, x, k+"x", "new")
			wantGet(t, z, k, value(k))
			wantNone(t, z, k+"x")
		}
		if x.Len() != 2*n || z.Len() != n {
			t.Errorf("got Len %d, %d, want %d, %d", x.Len(), z.Len(), 2*n, n)
		}
		wantPut(t, z, "last", "1", false)
		wantNone(t, x, "last")
		wantEmpty(t, y)
	}
}

// Each key of a clone in turn is changed on one side, and deleted there, next to all that were changed before.
func TestG2CloneKeyByKey(t *testing.T) {
	keys := rising(150)
	x := holding(keys...)
	want := x.All()
	for _, k := range keys {
		y := x.Clone()
		wantPut(t, y, k, "changed", true)
		wantPut(t, y, k+"x", "new", false)
		wantPairs(t, "All behind a put into the clone", x.All(), want)
		wantDelete(t, y, k, true)
		wantPairs(t, "All behind a delete from the clone", x.All(), want)
		wantGet(t, y, k+"x", "new")
		z := x.Clone()
		wantDelete(t, x, k, true)
		wantPairs(t, "All of a clone behind a delete", z.All(), want)
		wantPut(t, x, k, value(k), false)
		wantPut(t, z, k, "changed", true)
		wantPairs(t, "All behind a put into the second clone", x.All(), want)
	}
}

func TestG3Sizes(t *testing.T) {
	for _, n := range []int{0, 1, 2, 3, 4, 7, 8, 9, 15, 16, 17, 63, 64, 65, 100, 511, 512, 513, 4095, 4096, 4097, 20000} {
		for _, order := range orders(rising(n)) {
			x := holding(order...)
			if x.Len() != n {
				t.Errorf("Len: got %d, want %d", x.Len(), n)
			}
			wantDepth(t, x)
		}
	}
}

// Keys put in one order and deleted in each other one, until the tree is empty again: at each step every call sees the same.
func TestG3FillAndEmpty(t *testing.T) {
	for _, n := range []int{1, 2, 9, 40, 80, 600} {
		for _, in := range orders(rising(n)) {
			for _, out := range orders(rising(n)) {
				fillAndEmpty(t, in, out)
			}
			if t.Failed() {
				t.Fatalf("%d keys", n)
			}
		}
	}
}

func fillAndEmpty(t *testing.T, in, out []string) {
	t.Helper()
	x := tree.New()
	for i, k := range in {
		wantNone(t, x, k)
		wantPut(t, x, k, value(k), false)
		wantGet(t, x, k, value(k))
		wantGet(t, x, in[i/2], value(in[i/2]))
		wantLength(t, x, i+1)
	}
	for i, k := range out {
		last := out[len(out)-1]
		wantGet(t, x, last, value(last))
		wantDelete(t, x, k, true)
		wantNone(t, x, k)
		wantNone(t, x, out[i/2])
		wantDelete(t, x, k, false)
		wantLength(t, x, len(out)-i-1)
	}
	wantEmpty(t, x)
}

// wantLength holds the number of keys and the depth against each other, and now and then all keys too.
func wantLength(t *testing.T, x *tree.Tree, n int) {
	t.Helper()
	if x.Len() != n {
		t.Errorf("Len: got %d, want %d", x.Len(), n)
	}
	wantDepth(t, x)
	if n%64 < 2 && len(x.All()) != n {
		t.Errorf("All: got %d keys, want %d", len(x.All()), n)
	}
}

func TestG4OtherKeysStay(t *testing.T) {
	for _, n := range []int{1, 5, 8, 9, 30, 100} {
		keys := rising(n)
		x := holding(keys...)
		for i, k := range keys {
			wantDelete(t, x, k, true)
			var want []api.Pair
			for j, l := range keys {
				if j == i {
					wantNone(t, x, l)
					continue
				}
				wantGet(t, x, l, value(l))
				want = append(want, api.Pair{Key: l, Value: value(l)})
			}
			wantPairs(t, "All", x.All(), want)
			wantPut(t, x, k, value(k), false)
			wantPairs(t, "All", x.All(), holding(keys...).All())
		}
	}
}

// permutations calls visit with each order of keys.
func permutations(keys []string, from int, visit func([]string)) {
	if from == len(keys) {
		visit(keys)
		return
	}
	for i := from; i < len(keys); i++ {
		keys[from], keys[i] = keys[i], keys[from]
		permutations(keys, from+1, visit)
		keys[from], keys[i] = keys[i], keys[from]
	}
}

func TestG4EveryOrderOfAFewKeys(t *testing.T) {
	keys := []string{"", "\x00", "a", "a\x00", "ab", "\xff", "\xff\x00"}
	want := holding(keys...)
	permutations(slices.Clone(keys), 0, func(order []string) {
		wantSame(t, holding(order...), want)
	})
}

// wantSame compares all that can be seen of two trees.
func wantSame(t *testing.T, x, y *tree.Tree) {
	t.Helper()
	wantPairs(t, "All", x.All(), y.All())
	if x.Len() != y.Len() || x.Depth() != y.Depth() {
		t.Errorf("got Len %d, Depth %d, want %d, %d", x.Len(), x.Depth(), y.Len(), y.Depth())
	}
}

// Neither the keys nor the depth tell in which order the keys were put, or which other ones were there in between.
func TestG4OrderIsNotToBeSeen(t *testing.T) {
	for n := range 700 {
		if n > 100 && n%7 != 0 && n < 500 {
			continue
		}
		keys := rising(n)
		want := holding(keys...)
		for _, order := range orders(keys) {
			wantSame(t, holding(order...), want)
		}
		x := holding(falling(rising(3*n + 5))...)
		r := draws(n)
		for _, k := range r.mixed(rising(3*n + 5)[n:]) {
			x.Delete(k)
		}
		wantSame(t, x, want)
	}
}

func TestR5AnswersAreNew(t *testing.T) {
	for _, n := range []int{1, 3, 9, 100} {
		x := holding(rising(n)...)
		want := x.All()
		for range 2 {
			for _, got := range [][]api.Pair{x.All(), x.Scan("", "", n), x.Scan("", "\xff", math.MaxInt), x.Clone().All()} {
				wantPairs(t, "the answer", got, want)
				for i := range got {
					got[i] = api.Pair{Key: "wrong", Value: "wrong"}
				}
				_ = append(got, api.Pair{Key: "more"})
			}
		}
		wantPairs(t, "All", x.All(), want)
		part := x.Scan("", "", n/2+1)
		_ = append(part, api.Pair{Key: "more"})
		wantPairs(t, "All", x.All(), want)
		kept := x.All()
		for _, k := range rising(n) {
			x.Delete(k)
		}
		wantPairs(t, "an answer behind later calls", kept, want)
	}
}

func TestR6TreesAreApart(t *testing.T) {
	x, y := tree.New(), tree.New()
	for _, k := range rising(100) {
		x.Put(k, "x")
	}
	wantEmpty(t, y)
	for _, k := range rising(50) {
		y.Put(k, "y")
		x.Delete(k)
	}
	for i, k := range rising(100) {
		if i < 50 {
			wantGet(t, y, k, "y")
			wantNone(t, x, k)
		} else {
			wantNone(t, y, k)
			wantGet(t, x, k, "x")
		}
	}
}

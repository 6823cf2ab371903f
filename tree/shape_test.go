package tree

import "testing"

// shape checks what no call tells but the chapter says: that all leaves are equally deep, that every path has Depth nodes, and that each node but the root keeps its size and its keys' bounds.
func shape(t *testing.T, x *Tree) {
	t.Helper()
	n := shapeBelow(t, x, x.root, 1, "", "")
	if n != x.Len() {
		t.Errorf("the leaves have %d keys, not %d", n, x.Len())
	}
	if d := x.Depth(); x.Len() > capacity(d) || d > 1 && (x.Len() <= capacity(d-1) || x.root.size() < 2) {
		t.Errorf("%d keys have the depth %d, and the root the size %d", x.Len(), d, x.root.size())
	}
	// The root may be wider than other nodes, but no wider than the narrowest ones below it need: a change stays cheap.
	if d := x.Depth(); x.root.size() > widest<<(d-1) {
		t.Errorf("of %d keys, the root has the size %d", x.Len(), x.root.size())
	}
}

// shapeBelow checks a part whose first node is the depth-th one on its path, and whose keys are not less than from and, unless to is empty, less than to. It returns the number of keys.
func shapeBelow(t *testing.T, x *Tree, p part, depth int, from, to string) int {
	t.Helper()
	if depth > 1 && (p.size() < narrowest || p.size() > widest) {
		t.Errorf("a node has the size %d", p.size())
	}
	if p.leaf != nil {
		if depth != x.Depth() {
			t.Errorf("a path has %d nodes, not %d", depth, x.Depth())
		}
		shapeOfRow(t, p.leaf, from, to)
		return p.leaf.size()
	}
	shapeOfRow(t, p.inner, from, to)
	n := 0
	for i, below := range p.inner.contents {
		first, end := p.inner.keys[i], to
		if i == 0 {
			first = from
		}
		if i+1 < p.inner.size() {
			end = p.inner.keys[i+1]
		}
		n += shapeBelow(t, x, below, depth+1, first, end)
	}
	return n
}

func shapeOfRow[C any](t *testing.T, n *node[C], from, to string) {
	t.Helper()
	if len(n.keys) != len(n.contents) {
		t.Errorf("%d keys for %d contents", len(n.keys), len(n.contents))
	}
	for i, k := range n.keys {
		if k < from || to != "" && k >= to || i > 0 && k <= n.keys[i-1] {
			t.Errorf("the key %q is out of its place", k)
		}
	}
}

func key(i int) string { return string([]byte{byte(i >> 8), byte(i)}) }

// steps are ways to go through n numbers: up, down, and by steps that have no common divisor with n.
func steps(n int) []func(i int) int {
	return []func(i int) int{
		func(i int) int { return i },
		func(i int) int { return n - 1 - i },
		func(i int) int { return i * 7919 % n },
		func(i int) int { return (i*104729 + 5) % n },
	}
}

func TestG3AllPathsHaveTheSameLength(t *testing.T) {
	for _, n := range []int{5, 9, 66, 700} {
		for _, in := range steps(n) {
			for _, out := range steps(n) {
				x := New()
				shape(t, x)
				for i := range n {
					x.Put(key(in(i)), "")
					shape(t, x)
				}
				shape(t, x.Clone())
				for i := range n {
					x.Delete(key(out(i)))
					shape(t, x)
				}
				if x.Len() != 0 || x.Depth() != 1 {
					t.Errorf("got Len %d, Depth %d, want 0, 1", x.Len(), x.Depth())
				}
			}
		}
	}
}

// Around each number of keys at which the depth changes, keys come and go at the beginning, the end and in between.
func TestG3AroundTheChangesOfDepth(t *testing.T) {
	for _, n := range []int{8, 64, 512, 4096} {
		for _, in := range steps(n) {
			x := New()
			for i := range n {
				x.Put(key(2*in(i)), "")
			}
			shape(t, x)
			d := x.Depth()
			for _, i := range []int{-1, 1, n - 1, 2*n - 3, 2*n - 1} {
				k := key(i & 0xffff)
				x.Put(k, "")
				shape(t, x)
				if x.Depth() != d+1 {
					t.Errorf("%d keys have the depth %d", x.Len(), x.Depth())
				}
				x.Delete(k)
				shape(t, x)
				if x.Depth() != d {
					t.Errorf("%d keys have the depth %d", x.Len(), x.Depth())
				}
			}
		}
	}
}

package tree

import (
	"slices"
	"sort"
)

// node is a row of contents, each with a key, in the order of the keys: a leaf has values, a node above the leaves has what stands below it.
type node[C any] struct {
	keys     []string
	contents []C
}

func (n *node[C]) size() int { return len(n.keys) }

// position returns where a key is or would be, and whether it is there.
func (n *node[C]) position(key string) (i int, ok bool) {
	i = sort.Search(n.size(), func(i int) bool { return n.keys[i] >= key })
	return i, i < n.size() && n.keys[i] == key
}

// holding returns which of the contents a key belongs to, if each of them takes the keys from its own on: the last one whose key isn't greater. The first one takes all that are less, too.
func (n *node[C]) holding(key string) int {
	i := sort.Search(n.size(), func(i int) bool { return n.keys[i] > key })
	return max(i-1, 0)
}

func (n *node[C]) insert(i int, key string, content C) {
	n.keys = slices.Insert(n.keys, i, key)
	n.contents = slices.Insert(n.contents, i, content)
}

// remove takes away what stands from i on and before j.
func (n *node[C]) remove(i, j int) {
	n.keys = slices.Delete(n.keys, i, j)
	n.contents = slices.Delete(n.contents, i, j)
}

// cut moves what stands from i on to a new node.
func (n *node[C]) cut(i int) *node[C] {
	right := &node[C]{keys: slices.Clone(n.keys[i:]), contents: slices.Clone(n.contents[i:])}
	n.remove(i, n.size())
	return right
}

// join appends what the node to the right has.
func (n *node[C]) join(right *node[C]) {
	n.keys = append(n.keys, right.keys...)
	n.contents = append(n.contents, right.contents...)
}

func (n *node[C]) clone() *node[C] {
	return &node[C]{keys: slices.Clone(n.keys), contents: slices.Clone(n.contents)}
}

package store

import (
	"slices"

	"palatine/api"
	"palatine/tree"
)

// contents is a tree together with the length of its image, which each commit asks for.
type contents struct {
	*tree.Tree
	length int
}

// contentsOf returns the tree of an image; ok is whether it is one.
func contentsOf(image string) (c contents, ok bool) {
	c = contents{Tree: tree.New()}
	last := "" // less than any key that is allowed
	for image != "" {
		x, rest, ok := cut(image)
		if !ok || x.Gone || x.Key <= last {
			return contents{}, false
		}
		c.apply(x)
		last, image = x.Key, rest
	}
	return c, true
}

// image returns the bytes of the changes that put all pairs.
func (c *contents) image() string {
	b := make([]byte, 0, c.length)
	for _, p := range c.All() {
		b = add(b, api.Change{Key: p.Key, Value: p.Value})
	}
	return string(b)
}

// apply makes changes, one after the other.
func (c *contents) apply(changes ...api.Change) {
	for _, x := range changes {
		c.length += c.growth(x)
		if x.Gone {
			c.Delete(x.Key)
		} else {
			c.Put(x.Key, x.Value)
		}
	}
}

// lengthAfter returns the length that the image would have after changes. Of several changes of one key the last one decides.
func (c *contents) lengthAfter(changes ...api.Change) int {
	n := c.length
	for i, x := range changes {
		again := func(later api.Change) bool { return later.Key == x.Key }
		if !slices.ContainsFunc(changes[i+1:], again) {
			n += c.growth(x)
		}
	}
	return n
}

// growth returns how much longer a change alone would make the image.
func (c *contents) growth(x api.Change) int {
	n := 0
	if value, ok := c.Get(x.Key); ok {
		n -= size(x.Key, value)
	}
	if !x.Gone {
		n += size(x.Key, x.Value)
	}
	return n
}

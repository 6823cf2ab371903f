package tree

// The sizes that a node other than the root may have. One that is too wide is cut in halves; one that is too narrow is joined with its neighbour, and cut in halves if they are too wide together. In both cases a half is wide enough.
const (
	widest    = 8
	narrowest = widest / 2
)

// part is the whole tree or what stands below one of its nodes: either a leaf or an inner node, and the other one is nil. All leaves below an inner node are equally deep.
type part struct {
	leaf  *node[string]
	inner *node[part]
}

func (p part) size() int {
	if p.leaf != nil {
		return p.leaf.size()
	}
	return p.inner.size()
}

func (p part) depth() int {
	n := 1
	for ; p.leaf == nil; p = p.inner.contents[0] {
		n++
	}
	return n
}

func (p part) get(key string) (value string, ok bool) {
	for p.leaf == nil {
		p = p.inner.contents[p.inner.holding(key)]
	}
	i, ok := p.leaf.position(key)
	if !ok {
		return "", false
	}
	return p.leaf.contents[i], true
}

// put sets the value of a key, and returns whether the key was there before. Only p itself may be too wide afterwards.
func (p part) put(key, value string) bool {
	if p.leaf == nil {
		i := p.inner.holding(key)
		was := p.inner.contents[i].put(key, value)
		p.fit(i)
		return was
	}
	i, was := p.leaf.position(key)
	if was {
		p.leaf.contents[i] = value
	} else {
		p.leaf.insert(i, key, value)
	}
	return was
}

// remove takes a key away, and returns whether it was there. Only p itself may be too narrow afterwards.
func (p part) remove(key string) bool {
	if p.leaf == nil {
		i := p.inner.holding(key)
		was := p.inner.contents[i].remove(key)
		p.fit(i)
		return was
	}
	i, was := p.leaf.position(key)
	if was {
		p.leaf.remove(i, i+1)
	}
	return was
}

// fit makes the node at i wide enough and not too wide. An inner node p has at least two nodes below it, so that there is a neighbour to join.
func (p part) fit(i int) {
	if p.inner.contents[i].size() < narrowest {
		i = max(i, 1) - 1
		p.inner.contents[i].join(p.inner.contents[i+1])
		p.inner.remove(i+1, i+2)
	}
	if size := p.inner.contents[i].size(); size > widest {
		key, right := p.inner.contents[i].cut(size / 2)
		p.inner.insert(i+1, key, right)
	}
}

// cut moves what p has from i on to a new part, and returns that with its first key.
func (p part) cut(i int) (key string, right part) {
	if p.leaf != nil {
		n := p.leaf.cut(i)
		return n.keys[0], part{leaf: n}
	}
	n := p.inner.cut(i)
	return n.keys[0], part{inner: n}
}

// join appends what a part of the same depth has, all of whose keys are greater.
func (p part) join(right part) {
	if p.leaf != nil {
		p.leaf.join(right.leaf)
	} else {
		p.inner.join(right.inner)
	}
}

// raised returns the same keys with one more level: p's contents are divided evenly among as few nodes as can take them.
func (p part) raised() part {
	root := &node[part]{}
	size := p.size()
	count := (size + widest - 1) / widest
	for i := count - 1; i > 0; i-- {
		key, right := p.cut(size * i / count)
		root.insert(0, key, right)
	}
	root.insert(0, "", p)
	return part{inner: root}
}

// lowered returns the same keys with one level less: the nodes below p become one.
func (p part) lowered() part {
	root := p.inner.contents[0]
	for _, right := range p.inner.contents[1:] {
		root.join(right)
	}
	return root
}

// each visits the keys from one on, in order, until visit returns false; it returns whether that never happened.
func (p part) each(from string, visit func(key, value string) bool) bool {
	if p.leaf == nil {
		for _, below := range p.inner.contents[p.inner.holding(from):] {
			if !below.each(from, visit) {
				return false
			}
		}
		return true
	}
	for i, _ := p.leaf.position(from); i < p.leaf.size(); i++ {
		if !visit(p.leaf.keys[i], p.leaf.contents[i]) {
			return false
		}
	}
	return true
}

func (p part) clone() part {
	if p.leaf != nil {
		return part{leaf: p.leaf.clone()}
	}
	n := p.inner.clone()
	for i, below := range n.contents {
		n.contents[i] = below.clone()
	}
	return part{inner: n}
}

package ber

import "palatine/api"

// read returns the element at the beginning of s, and the number of its bytes.
func read(s string, depth int) (n api.Node, used int) {
	must(depth <= api.MaxDepth, api.ErrDepth)
	tag, content, head := readHead(s)
	used = head + content
	must(len(s) >= used, api.ErrShort)
	n.Tag = tag
	if isConstructed(tag) {
		readChildren(s[head:used], depth+1, func(kid api.Node) { n.Kids = append(n.Kids, kid) })
	} else {
		n.Body = s[head:used]
	}
	return n, used
}

// readChildren passes each of the elements that contents consist of to visit. What a child lacks can't arrive later, since the contents are complete: it isn't short, but wrong.
func readChildren(contents string, depth int, visit func(kid api.Node)) {
	e := caught(func() {
		for contents != "" {
			kid, used := read(contents, depth)
			visit(kid)
			contents = contents[used:]
		}
	})
	must(e != api.ErrShort, api.ErrBer)
	must(e == api.OK, e)
}

// readHead returns the tag at the beginning of s, and the numbers of bytes of the contents and of what is ahead of them.
func readHead(s string) (tag, content, head int) {
	must(s != "", api.ErrShort)
	tag = int(s[0])
	must(isTag(tag), api.ErrBer)
	must(len(s) > 1, api.ErrShort)
	content, head = int(s[1]), 2
	must(content != 0x80 && content <= 0x82, api.ErrBer)
	if content > 0x80 {
		head += content - 0x80
		must(len(s) >= head, api.ErrShort)
		content = joined(0, s[2:head])
	}
	must(s[1:head] == length(content), api.ErrBer)
	must(content <= api.MaxBer, api.ErrLong)
	return tag, content, head
}

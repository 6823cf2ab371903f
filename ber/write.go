package ber

import "palatine/api"

// check fails if an element has no bytes. Each error is looked for everywhere before the next one is, and the depth first, so that the other two see no element inside itself.
func check(n api.Node) {
	checkDepth(n, 1)
	checkTags(n)
	contentBytes(n)
}

func checkDepth(n api.Node, depth int) {
	must(depth <= api.MaxDepth, api.ErrDepth)
	children(n, func(kid api.Node) { checkDepth(kid, depth+1) })
}

func checkTags(n api.Node) {
	must(isTag(n.Tag), api.ErrBer)
	if isConstructed(n.Tag) {
		must(n.Body == "", api.ErrBer)
	} else {
		must(len(n.Kids) == 0, api.ErrBer)
	}
	children(n, checkTags)
}

// contentBytes returns how many bytes the contents of an element have, and fails if they are too many, or those of an element inside.
func contentBytes(n api.Node) int {
	sum := len(n.Body)
	children(n, func(kid api.Node) {
		content := contentBytes(kid)
		sum += 1 + len(length(content)) + content
	})
	must(sum <= api.MaxBer, api.ErrLong)
	return sum
}

// write appends the bytes of an element that check lets pass.
func write(b []byte, n api.Node) []byte {
	b = append(b, byte(n.Tag))
	b = append(b, length(contentBytes(n))...)
	b = append(b, n.Body...)
	children(n, func(kid api.Node) { b = write(b, kid) })
	return b
}

// children passes each child of an element to visit.
func children(n api.Node, visit func(kid api.Node)) {
	for _, kid := range n.Kids {
		visit(kid)
	}
}

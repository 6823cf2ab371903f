package message

import (
	"palatine/api"
	"palatine/ber"
)

// read returns the message of an element, if it has one. Of another element it returns any message: tags and leftovers are looked at only where they tell what there is to read.
func read(n api.Node) api.Message {
	next := children(n)
	m := api.Message{Id: numberOf(next())}
	operation := next()
	m.Op = operation.Tag
	readOperation(&m, operation)
	return m
}

func readOperation(m *api.Message, n api.Node) {
	next := children(n)
	switch m.Op {
	case api.OpBind:
		m.Version, m.Name, m.Password = numberOf(next()), textOf(next()), textOf(next())
	case api.OpSearch:
		m.Name, m.Scope, m.Deref = textOf(next()), numberOf(next()), numberOf(next())
		m.Size, m.Time, m.TypesOnly = numberOf(next()), numberOf(next()), truthOf(next())
		m.Filter, m.Wants = filterOf(next()), listOf(next(), textOf)
	case api.OpModify:
		m.Name, m.Mods = textOf(next()), listOf(next(), modOf)
	case api.OpAdd, api.OpEntry:
		m.Name, m.List = textOf(next()), listOf(next(), attrOf)
	case api.OpDelete:
		m.Name = textOf(n)
	case api.OpMove:
		m.Name, m.Rdn, m.DropOld = textOf(next()), textOf(next()), truthOf(next())
		m.Moves, m.Superior = len(n.Kids) > 3, textOf(next())
	case api.OpCompare:
		m.Name = textOf(next())
		next = children(next())
		m.Type, m.Value = textOf(next()), textOf(next())
	case api.OpAbandon:
		m.Target = numberOf(n)
	case api.OpBindR, api.OpDone, api.OpModifyR, api.OpAddR, api.OpDeleteR, api.OpMoveR, api.OpCompareR, api.OpNotice:
		m.Code, m.Matched, m.Text, m.Name = numberOf(next()), textOf(next()), textOf(next()), textOf(next())
	}
}

func filterOf(n api.Node) api.Filter {
	f := api.Filter{Kind: n.Tag & filterKind}
	next := children(n)
	switch f.Kind {
	case api.And, api.Or, api.Not:
		f.Kids = listOf(n, filterOf)
	case api.Equal, api.AtLeast, api.AtMost:
		f.Type, f.Value = textOf(next()), textOf(next())
	case api.Sub:
		f.Type = textOf(next())
		readParts(&f, next())
	case api.Present:
		f.Type = textOf(n)
	}
	return f
}

func readParts(f *api.Filter, n api.Node) {
	for _, part := range n.Kids {
		switch part.Tag {
		case tagFirst:
			f.First = textOf(part)
		case tagAny:
			f.Any = append(f.Any, textOf(part))
		case tagLast:
			f.Last = textOf(part)
		}
	}
}

func modOf(n api.Node) api.Mod {
	next := children(n)
	return api.Mod{Do: numberOf(next()), Attr: attrOf(next())}
}

func attrOf(n api.Node) api.Attr {
	next := children(n)
	return api.Attr{Type: textOf(next()), Values: listOf(next(), textOf)}
}

// children returns a function that returns the children of an element, the next one at each call, and, when there are no more, elements that have nothing.
func children(n api.Node) (next func() api.Node) {
	rest := n.Kids
	return func() (kid api.Node) {
		if len(rest) > 0 {
			kid, rest = rest[0], rest[1:]
		}
		return kid
	}
}

// listOf returns what the children of an element are read as.
func listOf[Item any](n api.Node, one func(api.Node) Item) []Item {
	var items []Item
	for _, kid := range n.Kids {
		items = append(items, one(kid))
	}
	return items
}

func textOf(n api.Node) string { return n.Body }

// numberOf returns 0 for what is no number: its bytes are others than those of 0.
func numberOf(n api.Node) int {
	number, _ := ber.Number(n.Body)
	return number
}

func truthOf(n api.Node) bool { return n.Body == "\xff" }

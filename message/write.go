package message

import (
	"palatine/api"
	"palatine/ber"
)

// Tags of the elements inside of messages.
const (
	tagTruth  = 0x01
	tagNumber = 0x02
	tagText   = 0x04
	tagChoice = 0x0a
	tagList   = 0x30
	tagValues = 0x31
)

// Tags of elements that an operation has a use of its own for.
const (
	tagPassword = 0x80
	tagSuperior = 0x80
	tagName     = 0x8a
)

// The lower bits of a filter's tag are its kind. Present alone has no elements inside, and so lacks the bit that says that there are any.
const (
	tagFilter  = 0xa0
	tagPresent = 0x80 | api.Present
	filterKind = 0x1f
)

// Tags of the parts that a text is looked through for.
const (
	tagFirst = 0x80
	tagAny   = 0x81
	tagLast  = 0x82
)

// written returns the element of a valid message.
func written(m api.Message) api.Node {
	return of(tagList, number(m.Id), operation(m))
}

func operation(m api.Message) api.Node {
	switch m.Op {
	case api.OpUnbind:
		return leaf(m.Op, "")
	case api.OpDelete:
		return leaf(m.Op, m.Name)
	case api.OpAbandon:
		return leaf(m.Op, ber.Int(m.Target))
	}
	return of(m.Op, pieces(m)...)
}

// pieces returns the elements inside of a valid message's operation.
func pieces(m api.Message) []api.Node {
	name := text(m.Name)
	switch m.Op {
	case api.OpBind:
		return []api.Node{number(m.Version), name, leaf(tagPassword, m.Password)}
	case api.OpSearch:
		return []api.Node{
			name, choice(m.Scope), choice(m.Deref), number(m.Size), number(m.Time),
			truth(m.TypesOnly), filter(m.Filter), list(tagList, m.Wants, text),
		}
	case api.OpModify:
		return []api.Node{name, list(tagList, m.Mods, mod)}
	case api.OpAdd, api.OpEntry:
		return []api.Node{name, list(tagList, m.List, attr)}
	case api.OpMove:
		head := []api.Node{name, text(m.Rdn), truth(m.DropOld)}
		if m.Moves {
			head = append(head, leaf(tagSuperior, m.Superior))
		}
		return head
	case api.OpCompare:
		return []api.Node{name, of(tagList, text(m.Type), text(m.Value))}
	}
	return response(m)
}

func response(m api.Message) []api.Node {
	head := []api.Node{choice(m.Code), text(m.Matched), text(m.Text)}
	if m.Op == api.OpNotice {
		head = append(head, leaf(tagName, m.Name))
	}
	return head
}

func filter(f api.Filter) api.Node {
	switch f.Kind {
	case api.And, api.Or, api.Not:
		return list(tagFilter|f.Kind, f.Kids, filter)
	case api.Sub:
		return of(tagFilter|f.Kind, text(f.Type), of(tagList, parts(f)...))
	case api.Present:
		return leaf(tagPresent, f.Type)
	}
	return of(tagFilter|f.Kind, text(f.Type), text(f.Value))
}

func parts(f api.Filter) []api.Node {
	var kids []api.Node
	if f.First != "" {
		kids = append(kids, leaf(tagFirst, f.First))
	}
	for _, x := range f.Any {
		kids = append(kids, leaf(tagAny, x))
	}
	if f.Last != "" {
		kids = append(kids, leaf(tagLast, f.Last))
	}
	return kids
}

func mod(x api.Mod) api.Node { return of(tagList, choice(x.Do), attr(x.Attr)) }

func attr(a api.Attr) api.Node {
	return of(tagList, text(a.Type), list(tagValues, a.Values, text))
}

// list returns an element with the elements of some items.
func list[Item any](tag int, items []Item, one func(Item) api.Node) api.Node {
	n := api.Node{Tag: tag}
	for _, x := range items {
		n.Kids = append(n.Kids, one(x))
	}
	return n
}

func of(tag int, kids ...api.Node) api.Node { return api.Node{Tag: tag, Kids: kids} }

func leaf(tag int, body string) api.Node { return api.Node{Tag: tag, Body: body} }

func text(s string) api.Node { return leaf(tagText, s) }

func number(n int) api.Node { return leaf(tagNumber, ber.Int(n)) }

func choice(n int) api.Node { return leaf(tagChoice, ber.Int(n)) }

func truth(so bool) api.Node {
	if so {
		return leaf(tagTruth, "\xff")
	}
	return leaf(tagTruth, "\x00")
}

package message_test

import "palatine/api"

// wrong is what the readers of this file panic with.
type wrong struct{}

func must(so bool) {
	if !so {
		panic(wrong{})
	}
}

// readByWords is the valid message whose bytes are these, if there is one, read strictly.
func readByWords(bytes string) (m api.Message, ok bool) {
	defer func() {
		if p := recover(); p != nil {
			if _, is := p.(wrong); !is {
				panic(p)
			}
			m, ok = api.Message{}, false
		}
	}()
	outer := input{rest: bytes}
	in := input{rest: outer.take(0x30, 1), depth: 2}
	outer.end()
	m.Id = in.number(0x02)
	must(in.rest != "")
	m.Op = int(in.rest[0])
	readOperationByWords(&m, input{rest: in.take(m.Op, 2), depth: 3})
	in.end()
	must(rightByWords(m))
	return m, true
}

// input is bytes of elements at a depth.
type input struct {
	rest  string
	depth int
}

func (i *input) end() { must(i.rest == "") }

// take is the contents of the element at the beginning, which has a tag.
func (i *input) take(tag, depth int) string {
	must(depth <= 8 && len(i.rest) > 1 && int(i.rest[0]) == tag)
	n, head := int(i.rest[1]), 2
	switch {
	case n == 0x81:
		must(len(i.rest) > 2 && i.rest[2] > 127)
		n, head = int(i.rest[2]), 3
	case n == 0x82:
		must(len(i.rest) > 3 && i.rest[2] > 0)
		n, head = int(i.rest[2])*256+int(i.rest[3]), 4
	default:
		must(n < 128)
	}
	must(n <= 4000 && len(i.rest) >= head+n)
	contents := i.rest[head : head+n]
	i.rest = i.rest[head+n:]
	return contents
}

func (i *input) text(tag int) string { return i.take(tag, i.depth) }

func (i *input) into(tag int) input { return input{i.take(tag, i.depth), i.depth + 1} }

func (i *input) is(tag int) bool { return i.rest != "" && int(i.rest[0]) == tag }

func (i *input) number(tag int) int { return numberByWords(i.text(tag)) }

// numberByWords is a number that is not negative, from its shortest bytes.
func numberByWords(body string) int {
	must(len(body) > 0 && len(body) <= 4 && body[0] < 128)
	must(len(body) == 1 || body[0] > 0 || body[1] > 127)
	n := 0
	for i := range len(body) {
		n = n*256 + int(body[i])
	}
	return n
}

func (i *input) truth() bool {
	body := i.text(0x01)
	must(body == "\x00" || body == "\xff")
	return body == "\xff"
}

func (i *input) texts(tag int) []string {
	var list []string
	in := i.into(tag)
	for in.rest != "" {
		list = append(list, in.text(0x04))
	}
	return list
}

func (i *input) attr() api.Attr {
	in := i.into(0x30)
	x := api.Attr{Type: in.text(0x04)}
	x.Values = in.texts(0x31)
	in.end()
	return x
}

func readOperationByWords(m *api.Message, in input) {
	switch m.Op {
	case 0x60:
		m.Version = in.number(0x02)
		m.Name = in.text(0x04)
		m.Password = in.text(0x80)
	case 0x42:
	case 0x63:
		m.Name = in.text(0x04)
		m.Scope = in.number(0x0a)
		m.Deref = in.number(0x0a)
		m.Size = in.number(0x02)
		m.Time = in.number(0x02)
		m.TypesOnly = in.truth()
		m.Filter = in.filter()
		m.Wants = in.texts(0x30)
	case 0x66:
		m.Name = in.text(0x04)
		list := in.into(0x30)
		for list.rest != "" {
			one := list.into(0x30)
			do := one.number(0x0a)
			m.Mods = append(m.Mods, api.Mod{Do: do, Attr: one.attr()})
			one.end()
		}
	case 0x68, 0x64:
		m.Name = in.text(0x04)
		list := in.into(0x30)
		for list.rest != "" {
			m.List = append(m.List, list.attr())
		}
	case 0x4a:
		m.Name, in.rest = in.rest, ""
	case 0x6c:
		m.Name = in.text(0x04)
		m.Rdn = in.text(0x04)
		m.DropOld = in.truth()
		if in.rest != "" {
			m.Moves = true
			m.Superior = in.text(0x80)
		}
	case 0x6e:
		m.Name = in.text(0x04)
		pair := in.into(0x30)
		m.Type = pair.text(0x04)
		m.Value = pair.text(0x04)
		pair.end()
	case 0x50:
		m.Target, in.rest = numberByWords(in.rest), ""
	default:
		m.Code = in.number(0x0a)
		m.Matched = in.text(0x04)
		m.Text = in.text(0x04)
		if m.Op == 0x78 {
			m.Name = in.text(0x8a)
		}
	}
	in.end()
}

func (i *input) filter() api.Filter {
	if i.is(0x87) {
		return api.Filter{Kind: 7, Type: i.text(0x87)}
	}
	for kind := range 7 {
		if i.is(0xa0 + kind) {
			return filterInside(kind, i.into(0xa0+kind))
		}
	}
	panic(wrong{})
}

func filterInside(kind int, in input) api.Filter {
	f := api.Filter{Kind: kind}
	switch kind {
	case 0, 1, 2:
		for in.rest != "" {
			f.Kids = append(f.Kids, in.filter())
		}
	case 4:
		f.Type = in.text(0x04)
		parts := in.into(0x30)
		if parts.is(0x80) {
			f.First = parts.text(0x80)
			must(f.First != "")
		}
		for parts.is(0x81) {
			f.Any = append(f.Any, parts.text(0x81))
		}
		if parts.is(0x82) {
			f.Last = parts.text(0x82)
			must(f.Last != "")
		}
		parts.end()
	default:
		f.Type = in.text(0x04)
		f.Value = in.text(0x04)
	}
	in.end()
	return f
}

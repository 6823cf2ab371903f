package message_test

import (
	"math"
	"slices"
	"strings"
	"testing"

	"palatine/api"
	"palatine/message"
)

func leaf(kind int) api.Filter {
	f := api.Filter{Kind: kind, Type: "t"}
	if kind == api.Sub {
		f.First = "x"
	}
	return f
}

// nested is a filter below so many others.
func nested(f api.Filter, times int) api.Filter {
	for i := range times {
		f = api.Filter{Kind: i % 3, Kids: []api.Filter{f}}
	}
	return f
}

func search(f api.Filter) api.Message { return api.Message{Op: api.OpSearch, Filter: f} }

// odd are numbers at which a bound, a sign or a width may go wrong.
func odd() []int {
	list := []int{math.MinInt, math.MaxInt, -1 << 32, -1 << 31}
	for i := -1; i <= 1; i++ {
		for _, n := range []int{0, 1, 2, 3, 126, 127, 128, 255, 1 << 15, 1 << 16, 1 << 23, 1<<31 - 1, 1 << 31, 1 << 32, 1<<32 + 5, 1 << 40} {
			list = append(list, n+i, -n+i)
		}
	}
	return list
}

func TestM1Operations(t *testing.T) {
	valid := 0
	for op := -300; op <= 600; op++ {
		check(t, api.Message{Op: op})
		check(t, least(op))
		if message.Right(least(op)) {
			valid++
		}
	}
	if valid != 18 {
		t.Errorf("%d operations", valid)
	}
	for _, op := range odd() {
		check(t, api.Message{Op: op})
	}
}

func TestM1Numbers(t *testing.T) {
	for _, op := range ops() {
		for _, name := range append(named(op), "Id") {
			m := least(op)
			x, ok := field(&m, name).Addr().Interface().(*int)
			for _, n := range odd() {
				if ok {
					*x = n
					check(t, m)
				}
			}
		}
	}
	for _, do := range odd() {
		check(t, api.Message{Op: api.OpModify, Mods: []api.Mod{{Do: do}}})
		check(t, api.Message{Op: api.OpModify, Mods: []api.Mod{{Do: 2}, {Do: do}, {Do: 1}}})
	}
}

// A field may be other than zero if the operation's line names it, and an empty list is as nil everywhere.
func TestM1Fields(t *testing.T) {
	others := api.Message{
		Version: 1, Name: "a", Password: "b", Scope: 1, Deref: 1, Size: 1, Time: 1, TypesOnly: true, Filter: leaf(api.Present), Wants: []string{""},
		List: []api.Attr{{}}, Mods: []api.Mod{{}}, Rdn: "c", DropOld: true, Moves: true, Superior: "d", Type: "e", Value: "f", Target: 1, Code: 1, Matched: "g", Text: "h",
	}
	empty := api.Message{Wants: []string{}, List: []api.Attr{}, Mods: []api.Mod{}, Filter: api.Filter{Kids: []api.Filter{}, Any: []string{}}}
	names := []string{
		"Version", "Name", "Password", "Scope", "Deref", "Size", "Time", "TypesOnly", "Filter", "Wants", "List",
		"Mods", "Rdn", "DropOld", "Moves", "Superior", "Type", "Value", "Target", "Code", "Matched", "Text",
	}
	for _, op := range ops() {
		for _, name := range names {
			m := least(op)
			field(&m, name).Set(field(&others, name))
			check(t, m)
			if right := slices.Contains(named(op), name) && name != "Superior"; message.Right(m) != right {
				t.Errorf("%x with %s: %v", op, name, !right)
			}
			m = least(op)
			if x := field(&empty, name); name == "Wants" || name == "List" || name == "Mods" {
				field(&m, name).Set(x)
			}
			m.Filter.Kids, m.Filter.Any = []api.Filter{}, []string{}
			if check(t, m); !message.Right(m) {
				t.Errorf("%x with empty %s", op, name)
			}
		}
		m := others
		m.Op = op
		check(t, m)
	}
}

// Each field of a filter alone makes another operation wrong.
func TestM1FilterOfOthers(t *testing.T) {
	for _, f := range filtersWithOneField() {
		for _, op := range ops() {
			m := least(op)
			m.Filter = f
			check(t, m)
			if op != api.OpSearch && message.Right(m) {
				t.Errorf("%x with %+v", op, f)
			}
		}
	}
}

func filtersWithOneField() []api.Filter {
	return []api.Filter{{Kind: 1}, {Kids: []api.Filter{{}}}, {Type: "x"}, {Value: "x"}, {First: "x"}, {Any: []string{"x"}}, {Any: []string{""}}, {Last: "x"}}
}

func TestM1Superior(t *testing.T) {
	for _, m := range []api.Message{{Moves: true, Superior: "x"}, {Moves: true}, {Superior: "x"}, {}} {
		m.Op = api.OpMove
		if check(t, m); message.Right(m) != (m.Moves || m.Superior == "") {
			t.Errorf("%+v", m)
		}
	}
}

func TestM1FilterKinds(t *testing.T) {
	for _, kind := range append(odd(), 4, 5, 6, 7, 8, 9) {
		for _, f := range append(filtersWithOneField(), api.Filter{Kids: make([]api.Filter, 3)}, api.Filter{}) {
			f.Kind = kind
			if len(f.Kids) > 0 {
				f.Kids = slices.Repeat([]api.Filter{leaf(api.Equal)}, len(f.Kids))
			}
			check(t, search(f))
			f.Kids = append(f.Kids, leaf(api.AtMost))
			check(t, search(f))
			f.Kids, f.First = nil, "x"
			check(t, search(f))
		}
	}
}

func TestM1FilterKids(t *testing.T) {
	kids := []api.Filter{leaf(api.Equal), leaf(api.Sub), leaf(api.Present)}
	for kind := range 3 {
		for n := range 4 {
			f := api.Filter{Kind: kind, Kids: kids[:n]}
			if check(t, search(f)); message.Right(search(f)) != (n == 1 || n > 1 && kind != api.Not) {
				t.Errorf("kind %d with %d kids", kind, n)
			}
			for i := range n {
				f.Kids = slices.Clone(kids[:n])
				f.Kids[i] = api.Filter{Kind: api.Sub, Type: "no parts"}
				if check(t, search(f)); message.Right(search(f)) {
					t.Errorf("kind %d with the wrong kid %d of %d", kind, i, n)
				}
			}
		}
	}
}

func TestM1FilterParts(t *testing.T) {
	lists := [][]string{nil, {}, {"b"}, {"b", "c"}, {""}, {"b", ""}, {"", "b"}, {"b", "", "c"}}
	for _, first := range []string{"", "a"} {
		for _, any := range lists {
			for _, last := range []string{"", "d"} {
				m := search(api.Filter{Kind: api.Sub, Type: "t", First: first, Any: any, Last: last})
				check(t, m)
				if right := first+strings.Join(any, "")+last != "" && !slices.Contains(any, ""); message.Right(m) != right {
					t.Errorf("%+v", m.Filter)
				}
			}
		}
	}
}

func TestM1FilterLevels(t *testing.T) {
	for kind := 3; kind < 8; kind++ {
		for levels := 1; levels < 12; levels++ {
			f := nested(leaf(kind), levels-1)
			if check(t, search(f)); message.Right(search(f)) != (levels <= 6) {
				t.Errorf("kind %d: %d levels", kind, levels)
			}
			beside := api.Filter{Kind: api.Or, Kids: []api.Filter{leaf(api.Present), f, leaf(api.Present)}}
			if check(t, search(beside)); message.Right(search(beside)) != (levels <= 5) {
				t.Errorf("kind %d: %d levels beside others", kind, levels)
			}
		}
	}
}

// A filter with endlessly many levels is none.
func TestM1FilterInsideItself(t *testing.T) {
	kids := []api.Filter{leaf(api.Present), {Kind: api.Not}, {Kind: api.Or}}
	kids[1].Kids, kids[2].Kids = kids[1:2], kids
	for _, f := range kids[1:] {
		if s, e := message.Encode(search(f)); message.Right(search(f)) || s != "" || e != api.ErrMessage {
			t.Errorf("%x, %v", s, e)
		}
	}
	if deep := search(nested(leaf(api.Present), 1<<16)); message.Right(deep) {
		t.Error("65537 levels")
	}
}

func TestM2Examples(t *testing.T) {
	for _, x := range []struct {
		m     api.Message
		bytes string
	}{
		{api.Message{Id: 1, Op: api.OpUnbind}, "\x30\x05\x02\x01\x01\x42\x00"},
		{api.Message{Id: 2, Op: api.OpDelete, Name: "a"}, "\x30\x06\x02\x01\x02\x4a\x01\x61"},
		{api.Message{Id: 3, Op: api.OpBind, Version: 3, Name: "b", Password: "c"}, "\x30\x0e\x02\x01\x03\x60\x09\x02\x01\x03\x04\x01\x62\x80\x01\x63"},
		{api.Message{Id: 4, Op: api.OpDeleteR, Code: 32}, "\x30\x0c\x02\x01\x04\x6b\x07\x0a\x01\x20\x04\x00\x04\x00"},
	} {
		if s, e := message.Encode(x.m); s != x.bytes || e != api.OK || !message.Right(x.m) {
			t.Errorf("Encode(%+v): got %x, %v", x.m, s, e)
		}
		checkDecode(t, x.bytes, x.m, api.OK)
		checkDecode(t, x.bytes+"\x00", api.Message{}, api.ErrMessage)
	}
	for _, m := range []api.Message{{Id: -1, Op: api.OpUnbind}, {Op: 1}, {Op: api.OpDelete, Password: "x"}} {
		if s, e := message.Encode(m); s != "" || e != api.ErrMessage || message.Right(m) {
			t.Errorf("Encode(%+v): got %x, %v", m, s, e)
		}
	}
	checkDecode(t, "\x30\x05\x02\x01\x01\x42\x01", api.Message{}, api.ErrMessage)
	checkDecode(t, "\x30\x80", api.Message{}, api.ErrMessage)
}

// Each of the table's lines, with all that it names.
func TestM2Table(t *testing.T) {
	for _, x := range []struct {
		m     api.Message
		bytes string
	}{
		{api.Message{Op: api.OpSearch, Name: "a", Scope: 1, Deref: 2, Size: 3, Time: 4, TypesOnly: true, Filter: leaf(api.Present), Wants: []string{"b", "c"}},
			"\x30\x22\x02\x01\x00\x63\x1d\x04\x01a\x0a\x01\x01\x0a\x01\x02\x02\x01\x03\x02\x01\x04\x01\x01\xff\x87\x01t\x30\x06\x04\x01b\x04\x01c"},
		{api.Message{Op: api.OpModify, Name: "a", Mods: []api.Mod{{Do: 2, Attr: api.Attr{Type: "b", Values: []string{"c"}}}}},
			"\x30\x19\x02\x01\x00\x66\x14\x04\x01a\x30\x0f\x30\x0d\x0a\x01\x02\x30\x08\x04\x01b\x31\x03\x04\x01c"},
		{api.Message{Op: api.OpAdd, Name: "a", List: []api.Attr{{Type: "b"}}}, "\x30\x11\x02\x01\x00\x68\x0c\x04\x01a\x30\x07\x30\x05\x04\x01b\x31\x00"},
		{api.Message{Op: api.OpEntry, Name: "a"}, "\x30\x0a\x02\x01\x00\x64\x05\x04\x01a\x30\x00"},
		{api.Message{Op: api.OpMove, Name: "a", Rdn: "b", DropOld: true, Moves: true, Superior: "c"}, "\x30\x11\x02\x01\x00\x6c\x0c\x04\x01a\x04\x01b\x01\x01\xff\x80\x01c"},
		{api.Message{Op: api.OpMove, Name: "a", Rdn: "b"}, "\x30\x0e\x02\x01\x00\x6c\x09\x04\x01a\x04\x01b\x01\x01\x00"},
		{api.Message{Op: api.OpCompare, Name: "a", Type: "b", Value: "c"}, "\x30\x10\x02\x01\x00\x6e\x0b\x04\x01a\x30\x06\x04\x01b\x04\x01c"},
		{api.Message{Op: api.OpAbandon, Target: 128}, "\x30\x07\x02\x01\x00\x50\x02\x00\x80"},
		{api.Message{Op: api.OpNotice, Code: 2, Matched: "a", Text: "b", Name: "c"}, "\x30\x11\x02\x01\x00\x78\x0c\x0a\x01\x02\x04\x01a\x04\x01b\x8a\x01c"},
	} {
		if s, e := message.Encode(x.m); s != x.bytes || e != api.OK {
			t.Errorf("Encode(%+v): got %x, %v, want %x", x.m, s, e, x.bytes)
		}
		check(t, x.m)
	}
	for _, op := range responses() {
		want := "\x30\x0e\x02\x01\x00" + string([]byte{byte(op)}) + "\x09\x0a\x01\x05\x04\x01a\x04\x01b"
		if s, e := message.Encode(api.Message{Op: op, Code: 5, Matched: "a", Text: "b"}); s != want || e != api.OK {
			t.Errorf("%x: got %x, %v", op, s, e)
		}
	}
}

// A valid message may have no bytes: then the error is that of its element, the depth's ahead of the length's.
func TestM2ErrorsOfElements(t *testing.T) {
	long := strings.Repeat("x", 4001)
	deep := nested(leaf(api.Equal), 5)
	for _, x := range []struct {
		m api.Message
		e api.Errno
	}{
		{search(nested(leaf(api.Present), 5)), api.OK},
		{search(nested(leaf(api.Equal), 4)), api.OK},
		{search(nested(leaf(api.Sub), 3)), api.OK},
		{search(deep), api.ErrDepth},
		{search(nested(leaf(api.AtLeast), 5)), api.ErrDepth},
		{search(nested(leaf(api.AtMost), 5)), api.ErrDepth},
		{search(nested(leaf(api.Sub), 4)), api.ErrDepth},
		{search(nested(leaf(api.Sub), 5)), api.ErrDepth},
		{search(nested(leaf(api.Present), 6)), api.ErrMessage},
		{api.Message{Op: api.OpSearch, Name: long, Filter: deep}, api.ErrDepth},
		{api.Message{Op: api.OpSearch, Name: long, Filter: leaf(api.Equal)}, api.ErrLong},
		{api.Message{Op: api.OpSearch, Name: long, Filter: deep, Scope: 3}, api.ErrMessage},
		{api.Message{Op: api.OpBind, Name: long}, api.ErrMessage},
	} {
		check(t, x.m)
		if s, e := message.Encode(x.m); e != x.e || (s == "") != (e != api.OK) {
			t.Errorf("got %v, want %v", e, x.e)
		}
	}
}

func TestM2Lengths(t *testing.T) {
	for _, n := range []int{0, 1, 120, 127, 128, 255, 256, 3980, 3985, 3989, 3990, 3991, 3992, 3993, 3994, 3995, 3996, 3997, 4000, 4001, 70000} {
		x := strings.Repeat("x", n)
		for _, m := range []api.Message{
			{Op: api.OpDelete, Name: x},
			{Op: api.OpBind, Version: 1, Password: x},
			{Op: api.OpSearch, Filter: leaf(api.Present), Wants: []string{"a", x}},
			{Op: api.OpModify, Mods: []api.Mod{{}, {Attr: api.Attr{Values: []string{x}}}}},
			{Op: api.OpNotice, Text: x, Code: 127},
		} {
			check(t, m)
		}
	}
	for n, want := range map[int]api.Errno{3993: api.OK, 3994: api.ErrLong} {
		if _, e := message.Encode(api.Message{Op: api.OpDelete, Name: strings.Repeat("x", n)}); e != want {
			t.Errorf("a name of %d bytes: %v", n, e)
		}
	}
}

// Bytes that are nearly those of a message are those of none.
func TestM2NearlyMessages(t *testing.T) {
	part := func(tag int, x string) string { return tlv(tag, x) }
	sub := func(parts string) string {
		return whole(0, tlv(0x63, s("")+e(0)+e(0)+n(0)+n(0)+b(false)+tlv(0xa4, s("t")+tlv(0x30, parts))+tlv(0x30, "")))
	}
	for i, x := range []struct {
		bytes string
		valid bool
	}{
		{"", false}, {"\x30", false}, {"\x30\x00", false}, {"\x04\x00", false}, {"\x42\x00", false},
		{whole(0, ""), false}, {whole(0, "\x42\x00"), true}, {whole(0, "\x42\x00\x42\x00"), false}, {whole(-1, "\x42\x00"), false}, {whole(1<<31, "\x42\x00"), false},
		{tlv(0x31, n(0)+"\x42\x00"), false}, {tlv(0x30, e(0)+"\x42\x00"), false}, {tlv(0x30, "\x42\x00"+n(0)), false}, {tlv(0x30, s("\x00")+"\x42\x00"), false},
		{tlv(0x30, "\x02\x02\x00\x01\x42\x00"), false}, {tlv(0x30, "\x02\x00\x42\x00"), false}, {tlv(0x30, "\x22\x02\x02\x00\x42\x00"), false},
		{tlv(0x30, "\x02\x81\x01\x00\x42\x00"), false}, {"\x30\x81\x05\x02\x01\x00\x42\x00", false}, {whole(0, "\x62\x00"), false}, {whole(0, "\x00\x00"), false},
		{whole(0, tlv(0x4a, "")), true}, {whole(0, tlv(0x6a, "")), false}, {whole(0, tlv(0x50, "")), false}, {whole(0, tlv(0x50, "\x00")), true},
		{whole(0, tlv(0x50, "\x00\x00")), false}, {whole(0, tlv(0x50, "\xff")), false}, {whole(0, tlv(0x50, "\x00\xff\xff\xff\xff")), false}, {whole(0, tlv(0x50, "\x7f\xff\xff\xff")), true},
		{whole(0, tlv(0x60, n(3)+s("b")+part(0x80, ""))), true}, {whole(0, tlv(0x60, n(3)+s("b"))), false}, {whole(0, tlv(0x60, n(3)+s("b")+s("c"))), false},
		{whole(0, tlv(0x60, n(3)+s("b")+part(0x80, "")+s(""))), false}, {whole(0, tlv(0x60, n(0)+s("b")+part(0x80, ""))), false}, {whole(0, tlv(0x60, n(128)+s("b")+part(0x80, ""))), false},
		{whole(0, tlv(0x60, e(3)+s("b")+part(0x80, ""))), false}, {whole(0, tlv(0x60, n(3)+part(0x24, s("b"))+part(0x80, ""))), false}, {whole(0, tlv(0x60, n(3)+s("b")+part(0xa3, ""))), false},
		{whole(0, tlv(0x6c, s("")+s("")+b(true))), true}, {whole(0, tlv(0x6c, s("")+s("")+b(true)+part(0x80, ""))), true}, {whole(0, tlv(0x6c, s("")+s("")+b(true)+part(0x81, ""))), false},
		{whole(0, tlv(0x6c, s("")+s("")+b(true)+"\x00\x00")), false}, {whole(0, tlv(0x6c, s("")+s("")+b(true)+part(0x80, "")+part(0x80, ""))), false},
		{whole(0, tlv(0x6c, s("")+s("")+part(1, "\x01"))), false}, {whole(0, tlv(0x6c, s("")+s("")+part(1, ""))), false}, {whole(0, tlv(0x6c, s("")+s("")+part(1, "\xff\xff"))), false},
		{whole(0, tlv(0x61, e(127)+s("")+s(""))), true}, {whole(0, tlv(0x61, e(128)+s("")+s(""))), false}, {whole(0, tlv(0x61, e(0)+s("")+s("")+part(0x8a, ""))), false},
		{whole(0, tlv(0x61, e(0)+s("")+s("")+part(0x8a, "x"))), false}, {whole(0, tlv(0x61, n(0)+s("")+s(""))), false}, {whole(0, tlv(0x61, e(0)+s(""))), false},
		{whole(0, tlv(0x78, e(0)+s("")+s("")+part(0x8a, ""))), true}, {whole(0, tlv(0x78, e(0)+s("")+s(""))), false}, {whole(0, tlv(0x78, e(0)+s("")+s("")+s(""))), false},
		{sub(part(0x80, "a") + part(0x81, "b") + part(0x81, "c") + part(0x82, "d")), true}, {sub(part(0x81, "b")), true}, {sub(part(0x80, "a") + part(0x82, "d")), true},
		{sub(""), false}, {sub(part(0x80, "") + part(0x81, "b")), false}, {sub(part(0x81, "b") + part(0x82, "")), false}, {sub(part(0x80, "a") + part(0x81, "")), false},
		{sub(part(0x82, "d") + part(0x80, "a")), false}, {sub(part(0x81, "b") + part(0x80, "a")), false}, {sub(part(0x82, "d") + part(0x81, "b")), false},
		{sub(part(0x80, "a") + part(0x80, "a")), false}, {sub(part(0x82, "a") + part(0x82, "a")), false}, {sub(part(0x80, "a") + part(0x83, "b")), false}, {sub(part(0xa0, "") + part(0x81, "b")), false},
	} {
		if valid := checkBytes(t, x.bytes); valid != x.valid {
			t.Errorf("%d: %x: %v", i, x.bytes, valid)
		}
	}
}

// Each tag that a filter may begin with.
func TestM2FilterTags(t *testing.T) {
	insides := []string{"", s("t"), s("t") + s("v"), s("t") + tlv(0x30, tlv(0x81, "x")), tlv(0x87, "t"), tlv(0x87, "t") + tlv(0x87, "t")}
	valid := 0
	for tag := range 256 {
		if tag%32 == 31 {
			continue
		}
		for _, x := range insides {
			if checkBytes(t, whole(0, tlv(0x63, s("")+e(0)+e(0)+n(0)+n(0)+b(false)+tlv(tag, x)+tlv(0x30, "")))) {
				valid++
			}
		}
	}
	if valid != 2+2+1+1+1+1+1+len(insides) {
		t.Errorf("%d filters", valid)
	}
}

// Each operation's contents under each operation's tag.
func TestM2OperationTags(t *testing.T) {
	r := draws(3)
	for range 60 {
		contents := contentsByWords(r.message())
		for tag := range 256 {
			if tag%32 != 31 {
				checkBytes(t, whole(1, tlv(tag, contents)))
			}
		}
	}
}

func TestM2AnyByteChanged(t *testing.T) {
	r := draws(4)
	for range 60 {
		bytes := []byte(bytesByWords(r.message()))
		for i := range min(len(bytes), 150) {
			old := bytes[i]
			for _, x := range []byte{0, 1, 2, 4, 0x0a, 0x30, 0x31, 0x7f, 0x80, 0x81, 0x82, 0x87, 0x8a, 0xa0, 0xff, old + 1, old - 1, old ^ 0x20, byte(r.next())} {
				bytes[i] = x
				checkBytes(t, string(bytes))
			}
			bytes[i] = old
		}
	}
}

func TestM2PartsOfMessages(t *testing.T) {
	r := draws(5)
	for range 60 {
		bytes := bytesByWords(r.message())
		for i := range len(bytes) {
			checkDecode(t, bytes[:i], api.Message{}, api.ErrMessage)
		}
		for _, x := range []string{"\x00", "\x30", bytes, "\x05\x00"} {
			checkDecode(t, bytes+x, api.Message{}, api.ErrMessage)
			checkBytes(t, x+bytes)
		}
	}
}

// pieces are the elements that contents consist of.
func pieces(contents string) []string {
	var list []string
	for in := (input{rest: contents}); in.rest != ""; {
		before := in.rest
		in.take(int(before[0]), 1)
		list = append(list, before[:len(before)-len(in.rest)])
	}
	return list
}

// disturbed is an element in which one of the elements inside, on any level, is missing, twice there, put elsewhere or another one's neighbor.
func (r *draws) disturbed(element string) string {
	in := input{rest: element}
	tag := int(element[0])
	list := pieces(in.take(tag, 1))
	i := r.below(len(list))
	if list[i][0]&0x20 != 0 && len(list[i]) > 2 && r.below(4) > 0 {
		list[i] = r.disturbed(list[i])
		return tlv(tag, strings.Join(list, ""))
	}
	switch r.below(5) {
	case 0:
		list = slices.Delete(list, i, i+1)
	case 1:
		list = slices.Insert(list, i, list[r.below(len(list))])
	case 2:
		j := r.below(len(list))
		list[i], list[j] = list[j], list[i]
	case 3:
		list[i] = []string{s(""), n(0), e(1), b(true), tlv(0x80, "x"), tlv(0x30, ""), tlv(0x31, ""), "\x00\x00", tlv(0x02, "\x00\x00"), tlv(0x01, "\x01")}[r.below(10)]
	case 4:
		list[i] = tlv(0x30, list[i])
	}
	return tlv(tag, strings.Join(list, ""))
}

func TestM2DisturbedElements(t *testing.T) {
	r := draws(6)
	valid := 0
	for range 20000 {
		bytes := bytesByWords(r.message())
		if len(bytes) < 4000 && checkBytes(t, r.disturbed(bytes)) {
			valid++
		}
	}
	if valid < 1000 || valid > 15000 {
		t.Errorf("%d of 20000 are valid", valid)
	}
}

func TestM2AnyBytes(t *testing.T) {
	r := draws(7)
	for range 20000 {
		b := make([]byte, r.below(40))
		for i := range b {
			b[i] = byte(r.next())
		}
		checkBytes(t, string(b))
	}
}

func TestM3Drawn(t *testing.T) {
	r := draws(8)
	for range 20000 {
		m := r.message()
		if !rightByWords(m) {
			t.Fatalf("%+v", m)
		}
		check(t, m)
	}
}

// What is decoded is valid, and is encoded as what it was decoded from.
func TestM3Bytes(t *testing.T) {
	r := draws(9)
	for range 3000 {
		bytes, e := encodedByWords(r.message())
		if e != api.OK {
			continue
		}
		m, e := message.Decode(bytes)
		if again, f := message.Encode(m); again != bytes || e != api.OK || f != api.OK || !message.Right(m) {
			t.Errorf("%x: %v, %x, %v", bytes, e, again, f)
		}
	}
}

func TestR4Lists(t *testing.T) {
	for _, m := range []api.Message{
		{Op: api.OpSearch, Filter: leaf(api.Equal)}, {Op: api.OpModify}, {Op: api.OpAdd}, {Op: api.OpEntry},
		{Op: api.OpSearch, Filter: leaf(api.Sub)}, {Op: api.OpAdd, List: []api.Attr{{Type: "a"}}}, {Op: api.OpModify, Mods: []api.Mod{{}}},
	} {
		other := m
		other.Wants, other.List, other.Mods = append([]string{}, m.Wants...), append([]api.Attr{}, m.List...), append([]api.Mod{}, m.Mods...)
		other.Filter.Kids, other.Filter.Any = append([]api.Filter{}, m.Filter.Kids...), append([]string{}, m.Filter.Any...)
		for i := range other.List {
			other.List[i].Values = []string{}
		}
		for i := range other.Mods {
			other.Mods[i].Attr.Values = []string{}
		}
		x, e := message.Encode(m)
		y, f := message.Encode(other)
		if x != y || e != api.OK || f != api.OK || !message.Right(other) {
			t.Errorf("%+v: %x, %v; %x, %v", m, x, e, y, f)
		}
	}
}

// The arguments stay as they are, and one answer's lists are not another's.
func TestR5Lists(t *testing.T) {
	r := draws(10)
	for range 2000 {
		seed := r
		m := r.message()
		twin := seed.message()
		message.Right(m)
		bytes, e := message.Encode(m)
		if !same(m, twin) {
			t.Fatalf("%+v was changed to %+v", twin, m)
		}
		if e != api.OK {
			continue
		}
		first, _ := message.Decode(bytes)
		overwrite(&first)
		checkDecode(t, bytes, m, api.OK)
		checkDecode(t, bytes, twin, api.OK)
	}
}

// overwrite changes what the lists of a message have.
func overwrite(m *api.Message) {
	for i := range m.Wants {
		m.Wants[i] = "changed"
	}
	for i := range m.List {
		m.List[i].Type = "changed"
	}
	for i := range m.Mods {
		m.Mods[i].Do = 3
	}
	for i := range m.Filter.Kids {
		m.Filter.Kids[i] = api.Filter{Kind: 9}
	}
	for i := range m.Filter.Any {
		m.Filter.Any[i] = "changed"
	}
}

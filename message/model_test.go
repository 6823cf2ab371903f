package message_test

import (
	"encoding/asn1"
	"math"
	"reflect"
	"slices"
	"testing"

	"palatine/api"
	"palatine/message"
)

// draws is a fixed sequence of numbers, the same in every run.
type draws uint64

func (r *draws) next() uint32 {
	*r = *r*6364136223846793005 + 1442695040888963407
	return uint32(*r >> 32)
}

func (r *draws) below(n int) int { return int(r.next() % uint32(n)) }

func (r *draws) one() bool { return r.below(2) == 0 }

// text is a text of few letters, or, seldom, of many bytes of any kind.
func (r *draws) text() string {
	n, letters := r.below(4), 3
	if r.below(12) == 0 {
		n, letters = r.below(300), 256
	}
	b := make([]byte, n)
	for i := range b {
		b[i] = byte(r.below(letters))
		if letters == 3 {
			b[i] += 'a'
		}
	}
	return string(b)
}

// number is one from 0 to the greatest, near a power of two.
func (r *draws) number() int {
	return min(max(1<<r.below(32)-2+r.below(4), 0), math.MaxInt32)
}

// drawn is a list of what draw returns.
func drawn[T any](r *draws, least int, draw func() T) []T {
	var list []T
	for range least + r.below(4) {
		list = append(list, draw())
	}
	return list
}

func (r *draws) attr() api.Attr {
	return api.Attr{Type: r.text(), Values: drawn(r, 0, r.text)}
}

// filter draws a valid one with at most so many levels.
func (r *draws) filter(levels int) api.Filter {
	kind := r.below(8)
	if levels == 1 {
		kind = 3 + r.below(5)
	}
	f := api.Filter{Kind: kind}
	kid := func() api.Filter { return r.filter(levels - 1) }
	switch kind {
	case api.And, api.Or:
		f.Kids = drawn(r, 1, kid)
	case api.Not:
		f.Kids = []api.Filter{kid()}
	case api.Sub:
		f.Type, f.First, f.Last = r.text(), r.text(), r.text()
		f.Any = drawn(r, 0, func() string { return "x" + r.text() })
		if f.First+f.Last == "" {
			f.Any = append(f.Any, "y")
		}
	case api.Present:
		f.Type = r.text()
	default:
		f.Type, f.Value = r.text(), r.text()
	}
	return f
}

// message draws a valid one.
func (r *draws) message() api.Message {
	op := ops()[r.below(len(ops()))]
	m := api.Message{Id: r.number(), Op: op}
	for _, name := range named(op) {
		switch x := field(&m, name).Addr().Interface().(type) {
		case *string:
			*x = r.text()
		case *bool:
			*x = r.one()
		case *int:
			low, high := bounds(name)
			*x = low + min(r.number(), high-low)
			if r.one() {
				*x = low + r.below(min(high-low, 1<<20)+1)
			}
		case *api.Filter:
			*x = r.filter(5)
		case *[]string:
			*x = drawn(r, 0, r.text)
		case *[]api.Attr:
			*x = drawn(r, 0, r.attr)
		case *[]api.Mod:
			*x = drawn(r, 0, func() api.Mod { return api.Mod{Do: r.below(3), Attr: r.attr()} })
		}
	}
	if !m.Moves {
		m.Superior = ""
	}
	return m
}

// ops are the operations of the chapter's table.
func ops() []int {
	return append([]int{0x60, 0x42, 0x63, 0x66, 0x68, 0x64, 0x4a, 0x6c, 0x6e, 0x50, 0x78}, responses()...)
}

func responses() []int { return []int{0x61, 0x65, 0x67, 0x69, 0x6b, 0x6d, 0x6f} }

// named are the fields that the table names for an operation; none if it isn't in the table.
func named(op int) []string {
	switch op {
	case 0x60:
		return []string{"Version", "Name", "Password"}
	case 0x63:
		return []string{"Name", "Scope", "Deref", "Size", "Time", "TypesOnly", "Filter", "Wants"}
	case 0x66:
		return []string{"Name", "Mods"}
	case 0x68, 0x64:
		return []string{"Name", "List"}
	case 0x4a:
		return []string{"Name"}
	case 0x6c:
		return []string{"Name", "Rdn", "DropOld", "Moves", "Superior"}
	case 0x6e:
		return []string{"Name", "Type", "Value"}
	case 0x50:
		return []string{"Target"}
	case 0x78:
		return []string{"Code", "Matched", "Text", "Name"}
	case 0x61, 0x65, 0x67, 0x69, 0x6b, 0x6d, 0x6f:
		return []string{"Code", "Matched", "Text"}
	}
	return nil
}

// bounds are the least and the greatest number that a field may be.
func bounds(name string) (low, high int) {
	switch name {
	case "Version":
		return 1, 127
	case "Scope":
		return 0, 2
	case "Deref":
		return 0, 3
	case "Code":
		return 0, 127
	}
	return 0, 1<<31 - 1
}

// namedOfFilter are the fields that are named for a kind of filters.
func namedOfFilter(kind int) []string {
	switch kind {
	case 0, 1, 2:
		return []string{"Kids"}
	case 3, 5, 6:
		return []string{"Type", "Value"}
	case 4:
		return []string{"Type", "First", "Any", "Last"}
	}
	return []string{"Type"}
}

// field is a field of a message or of a filter that can be set.
func field(of any, name string) reflect.Value {
	return reflect.ValueOf(of).Elem().FieldByName(name)
}

// least is a valid message with an operation and as little else as can be.
func least(op int) api.Message {
	m := api.Message{Op: op}
	switch op {
	case api.OpBind:
		m.Version = 1
	case api.OpSearch:
		m.Filter.Kind = api.Present
	}
	return m
}

// bare reports whether all fields but some are zero; a list that has nothing is, too.
func bare(of any, but []string) bool {
	v := reflect.ValueOf(of)
	for i := range v.NumField() {
		x := v.Field(i)
		if f, ok := x.Interface().(api.Filter); ok && bare(f, nil) || slices.Contains(but, v.Type().Field(i).Name) {
			continue
		}
		if x.Kind() == reflect.Slice && x.Len() > 0 || x.Kind() != reflect.Slice && !x.IsZero() {
			return false
		}
	}
	return true
}

// rightByWords is M1, one sentence after the other.
func rightByWords(m api.Message) bool {
	if !slices.Contains(ops(), m.Op) {
		return false
	}
	if !bare(m, append(named(m.Op), "Id", "Op")) {
		return false
	}
	for _, name := range append(named(m.Op), "Id") {
		low, high := bounds(name)
		if n, ok := field(&m, name).Interface().(int); ok && (n < low || n > high) {
			return false
		}
	}
	for _, x := range m.Mods {
		if x.Do < 0 || x.Do > 2 {
			return false
		}
	}
	if m.Superior != "" && !m.Moves {
		return false
	}
	return m.Op != 0x63 || rightFilterByWords(m.Filter) && levels(m.Filter, 9) <= 6
}

func rightFilterByWords(f api.Filter) bool {
	if f.Kind < 0 || f.Kind > 7 || !bare(f, append(namedOfFilter(f.Kind), "Kind")) {
		return false
	}
	if f.Kind < 2 && len(f.Kids) == 0 || f.Kind == 2 && len(f.Kids) != 1 {
		return false
	}
	if f.Kind == 4 && f.First == "" && len(f.Any) == 0 && f.Last == "" {
		return false
	}
	for _, x := range f.Any {
		if x == "" {
			return false
		}
	}
	for _, kid := range f.Kids {
		if !rightFilterByWords(kid) {
			return false
		}
	}
	return true
}

// levels is how deep filters are nested, looked at no deeper than most.
func levels(f api.Filter, most int) int {
	deepest := 0
	for _, kid := range f.Kids {
		if most > 1 {
			deepest = max(deepest, levels(kid, most-1))
		}
	}
	return deepest + 1
}

// tlv is the element that another program makes of a tag and contents.
func tlv(tag int, contents string) string {
	b, err := asn1.Marshal(asn1.RawValue{Class: tag / 64, Tag: tag % 32, IsCompound: tag/32%2 == 1, Bytes: []byte(contents)})
	if err != nil {
		panic(err)
	}
	return string(b)
}

// num is the bytes of a number as another program makes them.
func num(n int) string {
	b, err := asn1.Marshal(n)
	if err != nil {
		panic(err)
	}
	return string(b[2:])
}

// The chapter's short forms.
func s(x string) string { return tlv(0x04, x) }
func n(x int) string    { return tlv(0x02, num(x)) }
func e(x int) string    { return tlv(0x0a, num(x)) }
func b(x bool) string   { return tlv(0x01, map[bool]string{true: "\xff", false: "\x00"}[x]) }

func all[T any](list []T, one func(T) string) string {
	joined := ""
	for _, x := range list {
		joined += one(x)
	}
	return joined
}

func a(x api.Attr) string { return tlv(0x30, s(x.Type)+tlv(0x31, all(x.Values, s))) }

// whole is a message's element with the element of an operation.
func whole(id int, operation string) string { return tlv(0x30, n(id)+operation) }

// bytesByWords is the chapter's table, for a valid message.
func bytesByWords(m api.Message) string { return whole(m.Id, tlv(m.Op, contentsByWords(m))) }

func contentsByWords(m api.Message) string {
	switch m.Op {
	case 0x60:
		return n(m.Version) + s(m.Name) + tlv(0x80, m.Password)
	case 0x42:
		return ""
	case 0x63:
		return s(m.Name) + e(m.Scope) + e(m.Deref) + n(m.Size) + n(m.Time) + b(m.TypesOnly) + filterByWords(m.Filter) + tlv(0x30, all(m.Wants, s))
	case 0x66:
		return s(m.Name) + tlv(0x30, all(m.Mods, func(x api.Mod) string { return tlv(0x30, e(x.Do)+a(x.Attr)) }))
	case 0x68, 0x64:
		return s(m.Name) + tlv(0x30, all(m.List, a))
	case 0x4a:
		return m.Name
	case 0x6c:
		if m.Moves {
			return s(m.Name) + s(m.Rdn) + b(m.DropOld) + tlv(0x80, m.Superior)
		}
		return s(m.Name) + s(m.Rdn) + b(m.DropOld)
	case 0x6e:
		return s(m.Name) + tlv(0x30, s(m.Type)+s(m.Value))
	case 0x50:
		return num(m.Target)
	case 0x78:
		return e(m.Code) + s(m.Matched) + s(m.Text) + tlv(0x8a, m.Name)
	}
	return e(m.Code) + s(m.Matched) + s(m.Text)
}

func filterByWords(f api.Filter) string {
	switch f.Kind {
	case 0:
		return tlv(0xa0, all(f.Kids, filterByWords))
	case 1:
		return tlv(0xa1, all(f.Kids, filterByWords))
	case 2:
		return tlv(0xa2, filterByWords(f.Kids[0]))
	case 3:
		return tlv(0xa3, s(f.Type)+s(f.Value))
	case 4:
		parts := ""
		if f.First != "" {
			parts = tlv(0x80, f.First)
		}
		parts += all(f.Any, func(x string) string { return tlv(0x81, x) })
		if f.Last != "" {
			parts += tlv(0x82, f.Last)
		}
		return tlv(0xa4, s(f.Type)+tlv(0x30, parts))
	case 5:
		return tlv(0xa5, s(f.Type)+s(f.Value))
	case 6:
		return tlv(0xa6, s(f.Type)+s(f.Value))
	}
	return tlv(0x87, f.Type)
}

// depthByWords is the depth of a filter's element.
func depthByWords(f api.Filter) int {
	deepest := map[int]int{api.Equal: 1, api.AtLeast: 1, api.AtMost: 1, api.Sub: 2}[f.Kind]
	for _, kid := range f.Kids {
		deepest = max(deepest, depthByWords(kid))
	}
	return deepest + 1
}

// encodedByWords is M2 for Encode.
func encodedByWords(m api.Message) (string, api.Errno) {
	if !rightByWords(m) {
		return "", api.ErrMessage
	}
	if m.Op == api.OpSearch && 2+depthByWords(m.Filter) > 8 {
		return "", api.ErrDepth
	}
	if len(n(m.Id)+tlv(m.Op, contentsByWords(m))) > 4000 {
		return "", api.ErrLong
	}
	return bytesByWords(m), api.OK
}

// same is whether two values are equal; a list that has nothing may be nil or empty.
func same(x, y any) bool {
	return reflect.DeepEqual(filled(reflect.ValueOf(x)), filled(reflect.ValueOf(y)))
}

// filled is a value whose empty lists are all nil, as lists of its parts.
func filled(v reflect.Value) any {
	switch v.Kind() {
	case reflect.Struct:
		parts := []any{}
		for i := range v.NumField() {
			parts = append(parts, filled(v.Field(i)))
		}
		return parts
	case reflect.Slice:
		parts := []any{}
		for i := range v.Len() {
			parts = append(parts, filled(v.Index(i)))
		}
		return parts
	}
	return v.Interface()
}

// check holds all three calls against the chapter's words for one message.
func check(t *testing.T, m api.Message) {
	t.Helper()
	if right := message.Right(m); right != rightByWords(m) {
		t.Errorf("Right(%+v): got %v", m, right)
	}
	want, wanted := encodedByWords(m)
	bytes, e := message.Encode(m)
	if bytes != want || e != wanted {
		t.Errorf("Encode(%+v): got %x, %v, want %x, %v", m, bytes, e, want, wanted)
	}
	if wanted == api.OK {
		checkDecode(t, want, m, api.OK)
	}
}

func checkDecode(t *testing.T, bytes string, want api.Message, wanted api.Errno) {
	t.Helper()
	if m, e := message.Decode(bytes); !same(m, want) || e != wanted {
		t.Errorf("Decode(%x): got %+v, %v, want %+v, %v", bytes, m, e, want, wanted)
	}
}

// checkBytes holds Decode against a reader that takes what the chapter's table says and nothing else.
func checkBytes(t *testing.T, bytes string) (valid bool) {
	t.Helper()
	want, ok := readByWords(bytes)
	if ok {
		checkDecode(t, bytes, want, api.OK)
	} else {
		checkDecode(t, bytes, api.Message{}, api.ErrMessage)
	}
	return ok
}

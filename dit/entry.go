package dit

import (
	"math"

	"palatine/api"
	"palatine/ber"
	"palatine/dn"
)

// The tags of an entry's elements.
const (
	tagNumber = 0x02
	tagText   = 0x04
	tagList   = 0x30
	tagValues = 0x31
)

// Encode returns the bytes of an entry.
func Encode(x api.Entry) (string, api.Errno) {
	s, e := ber.Encode(elementOf(x))
	if e != api.OK || len(s) > api.MaxValue || !areRightNumbers(x) {
		return "", api.ErrLong
	}
	if !dn.Right(x.Name) {
		return "", api.ErrName
	}
	return s, api.OK
}

func areRightNumbers(x api.Entry) bool {
	return isId(x.Id) && (isId(x.Above) || x.Above == 0) && x.Tenant >= 0 && x.Tenant < api.MaxTenants
}

// isId reports whether a number may be an entry's.
func isId(n int) bool { return n > 0 && n <= math.MaxInt32 }

func elementOf(x api.Entry) api.Node {
	attrs := list(tagList)
	for _, a := range x.Attrs {
		values := list(tagValues)
		for _, value := range a.Values {
			values.Kids = append(values.Kids, text(value))
		}
		attrs.Kids = append(attrs.Kids, list(tagList, text(a.Type), values))
	}
	return list(tagList, number(x.Tenant), number(x.Id), number(x.Above), text(dn.Print(x.Name)), attrs)
}

func list(tag int, kids ...api.Node) api.Node { return api.Node{Tag: tag, Kids: kids} }

func number(n int) api.Node { return api.Node{Tag: tagNumber, Body: ber.Int(n)} }

func text(s string) api.Node { return api.Node{Tag: tagText, Body: s} }

// Decode returns the entry that has these bytes.
func Decode(s string) (api.Entry, api.Errno) {
	n, _, e := ber.Decode(s)
	if e != api.OK {
		return api.Entry{}, api.ErrName
	}
	x := entryOf(n)
	if again, e := Encode(x); e != api.OK || again != s {
		return api.Entry{}, api.ErrName
	}
	return x, api.OK
}

// entryOf returns what can be read of an entry in an element. If there is anything else in it, or behind it, the entry has other bytes.
func entryOf(n api.Node) (x api.Entry) {
	var parts [5]api.Node
	copy(parts[:], n.Kids)
	x.Tenant, _ = ber.Number(parts[0].Body)
	x.Id, _ = ber.Number(parts[1].Body)
	x.Above, _ = ber.Number(parts[2].Body)
	x.Name, _ = dn.Parse(parts[3].Body)
	for _, kid := range parts[4].Kids {
		x.Attrs = append(x.Attrs, attrOf(kid))
	}
	return x
}

func attrOf(n api.Node) (a api.Attr) {
	var parts [2]api.Node
	copy(parts[:], n.Kids)
	a.Type = parts[0].Body
	for _, kid := range parts[1].Kids {
		a.Values = append(a.Values, kid.Body)
	}
	return a
}

package filter

import (
	"slices"

	"palatine/api"
	"palatine/dn"
)

// hasSyntax reports whether there is such a type, with one of these syntaxes.
func (s subject) hasSyntax(name string, syntaxes ...int) bool {
	t, ok := s.schema.Type(name)
	return ok && slices.Contains(syntaxes, t.Syntax)
}

// attr returns the entry's attribute of a type: the first one for whose name the schema has this type too.
func (s subject) attr(t api.AttrType) (attr api.Attr, ok bool) {
	at := slices.IndexFunc(s.entry, func(attr api.Attr) bool {
		other, ok := s.schema.Type(attr.Type)
		return ok && other.Name == t.Name
	})
	if at < 0 {
		return api.Attr{}, false
	}
	return s.entry[at], true
}

func (s subject) evalPresent(name string) int {
	t, ok := s.schema.Type(name)
	if !ok {
		return api.Unknown
	}
	_, ok = s.attr(t)
	return truth(ok)
}

// evalValues tells whether a value of the entry's attribute of a type fits.
func (s subject) evalValues(name string, fits func(value string) bool) int {
	t, _ := s.schema.Type(name)
	attr, _ := s.attr(t)
	return truth(slices.ContainsFunc(attr.Values, fits))
}

func (s subject) evalOrder(f api.Filter) int {
	if _, e := s.schema.Norm(f.Type, f.Value); e != api.OK {
		return api.Unknown
	}
	return s.evalValues(f.Type, func(value string) bool {
		order, e := s.schema.Compare(f.Type, value, f.Value)
		return e == api.OK && isOrder(f.Kind, order)
	})
}

// isOrder reports whether a value that compares so is what a kind of filter asks for. Values are equal if and only if their norms are, numbers too.
func isOrder(kind, order int) bool {
	switch kind {
	case api.AtLeast:
		return order >= 0
	case api.AtMost:
		return order <= 0
	}
	return order == 0
}

func (s subject) evalParts(f api.Filter) int {
	if s.hasSyntax(f.Type, api.SyntaxText) {
		f = squeezed(f)
		return s.evalValues(f.Type, func(value string) bool { return hasParts(dn.Fold(value), f) })
	}
	return s.evalValues(f.Type, func(value string) bool { return hasParts(value, f) })
}

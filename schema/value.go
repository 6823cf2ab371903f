package schema

import (
	"cmp"
	"strconv"
	"strings"

	"palatine/api"
	"palatine/dn"
)

// Norm returns a value of a type as it is compared.
func (s *Schema) Norm(name, value string) (string, api.Errno) {
	t, ok := s.Type(name)
	if !ok {
		return "", api.ErrType
	}
	norm, ok := normOf(t.Syntax, value)
	if !ok {
		return "", api.ErrSyntax
	}
	return norm, api.OK
}

// Compare tells which of two values of a type is less.
func (s *Schema) Compare(name, a, b string) (int, api.Errno) {
	x, e := s.Norm(name, a)
	if e != api.OK {
		return 0, e
	}
	y, e := s.Norm(name, b)
	if e != api.OK {
		return 0, e
	}
	if t, _ := s.Type(name); t.Syntax == api.SyntaxNumber {
		m, _ := readNumber(x)
		n, _ := readNumber(y)
		return cmp.Compare(m, n), api.OK
	}
	return strings.Compare(x, y), api.OK
}

// normOf returns the norm of a value, and whether the value has the syntax; the norm of one that doesn't have it means nothing.
func normOf(syntax int, value string) (norm string, ok bool) {
	if len(value) > api.MaxPlain {
		return "", false
	}
	switch syntax {
	case api.SyntaxText:
		norm = dn.Fold(value)
		return norm, norm != ""
	case api.SyntaxExact:
		return value, true
	case api.SyntaxNumber:
		_, ok = readNumber(value)
		return value, ok
	case api.SyntaxName:
		n, e := dn.Parse(value)
		return dn.Key(n), e == api.OK
	default:
		return normTruth(value)
	}
}

// greatest is the greatest number of nine digits.
const greatest = 999_999_999

// readNumber reads a number of at most nine digits. It has one text, the one that it is written as, so 01, +1 and -0 are none.
func readNumber(s string) (n int, ok bool) {
	n, err := strconv.Atoi(s)
	return n, err == nil && strconv.Itoa(n) == s && -greatest <= n && n <= greatest
}

func normTruth(value string) (norm string, ok bool) {
	switch lower(value) {
	case "true":
		return "TRUE", true
	case "false":
		return "FALSE", true
	}
	return "", false
}

package dn

import (
	"slices"
	"strings"

	"palatine/api"
)

// Fold returns a value as it is compared.
func Fold(value string) string {
	words := strings.FieldsFunc(lower(value), func(r rune) bool { return r == ' ' })
	return strings.Join(words, " ")
}

// lower converts byte by byte, since bytes that are no UTF-8 stay as they are, and so do letters beyond ASCII.
func lower(s string) string {
	b := []byte(s)
	for i, c := range b {
		if 'A' <= c && c <= 'Z' {
			b[i] = c - 'A' + 'a'
		}
	}
	return string(b)
}

// Norm returns a name as it is compared.
func Norm(n api.Dn) api.Dn {
	var norm api.Dn
	for _, step := range n {
		norm = append(norm, normStep(step))
	}
	return norm
}

func normStep(step api.Rdn) api.Rdn {
	var norm api.Rdn
	for _, ava := range step {
		norm = append(norm, api.Ava{Type: lower(ava.Type), Value: Fold(ava.Value)})
	}
	// In a name that isn't valid, a type may occur twice in a step: its values stay in their order.
	slices.SortStableFunc(norm, func(a, b api.Ava) int { return strings.Compare(a.Type, b.Type) })
	return norm
}

// Same reports whether two names are equal in normalized form.
func Same(a, b api.Dn) bool { return slices.EqualFunc(Norm(a), Norm(b), slices.Equal) }

// Under reports whether a name is base or below it.
func Under(n, base api.Dn) bool {
	above := len(n) - len(base)
	return above >= 0 && Same(n[above:], base)
}

// Key returns a text by which names are found: it begins with the keys of all names that the name is under.
func Key(n api.Dn) string {
	var key strings.Builder
	for _, step := range slices.Backward(Norm(n)) {
		key.WriteString(stepText(step))
		key.WriteByte(0)
	}
	return key.String()
}

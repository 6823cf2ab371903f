package dn

import (
	"strings"

	"palatine/api"
)

// special are the bytes that are escaped wherever they are in a value.
const special = `"+,;<>\`

// digits are those of the escapes that are written.
const digits = "0123456789abcdef"

// Print returns the text of a name, valid or not.
func Print(n api.Dn) string { return joined(n, ",", stepText) }

func stepText(step api.Rdn) string { return joined(step, "+", avaText) }

func avaText(ava api.Ava) string { return ava.Type + "=" + valueText(ava.Value) }

// joined returns the texts of all items, with separators between them.
func joined[Item any](items []Item, separator string, text func(Item) string) string {
	var texts []string
	for _, item := range items {
		texts = append(texts, text(item))
	}
	return strings.Join(texts, separator)
}

func valueText(value string) string {
	var text []byte
	for i := range len(value) {
		c := value[i]
		first, last := i == 0, i == len(value)-1
		switch {
		case c < 32 || c == 127:
			text = append(text, '\\', digits[c>>4], digits[c&15])
		case strings.IndexByte(special, c) >= 0, c == '#' && first, c == ' ' && (first || last):
			text = append(text, '\\', c)
		default:
			text = append(text, c)
		}
	}
	return string(text)
}

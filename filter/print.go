package filter

import (
	"strings"

	"palatine/api"
)

// digits are those of the escapes.
const digits = "0123456789abcdef"

// Print returns the text of a filter.
func Print(f api.Filter) string { return printer{levels: maxLevels}.text(f) }

// printer prints filters that may have so many levels.
type printer struct{ levels int }

func (p printer) text(f api.Filter) string {
	if p.levels == 0 {
		return "(?)"
	}
	p.levels--
	switch f.Kind {
	case api.And:
		return "(&" + texts(f.Kids, p.text) + ")"
	case api.Or:
		return "(|" + texts(f.Kids, p.text) + ")"
	case api.Not:
		return "(!" + texts(f.Kids[:min(1, len(f.Kids))], p.text) + ")"
	case api.Equal:
		return "(" + f.Type + "=" + escaped(f.Value) + ")"
	case api.AtLeast:
		return "(" + f.Type + ">=" + escaped(f.Value) + ")"
	case api.AtMost:
		return "(" + f.Type + "<=" + escaped(f.Value) + ")"
	case api.Present:
		return "(" + f.Type + "=*)"
	case api.Sub:
		return "(" + f.Type + "=" + partsText(f) + ")"
	}
	return "(?)"
}

// texts returns the texts of all items, one behind the other.
func texts[Item any](items []Item, text func(Item) string) string {
	var all strings.Builder
	for _, item := range items {
		all.WriteString(text(item))
	}
	return all.String()
}

func partsText(f api.Filter) string {
	middle := texts(f.Any, func(part string) string { return escaped(part) + "*" })
	return escaped(f.First) + "*" + middle + escaped(f.Last)
}

// escaped goes byte by byte, since a value may be no UTF-8.
func escaped(value string) string {
	var text []byte
	for i := range len(value) {
		switch c := value[i]; c {
		case '(', ')', '*', '\\', 0:
			text = append(text, '\\', digits[c>>4], digits[c&15])
		default:
			text = append(text, c)
		}
	}
	return string(text)
}

package filter

import (
	"strings"

	"palatine/api"
	"palatine/dn"
)

// Squeeze returns a part as it is looked for in folded values.
func Squeeze(part string) string {
	// Blanks at the ends of a part are blanks inside a value, so they are folded as such.
	folded := dn.Fold("." + part + ".")
	return folded[1 : len(folded)-1]
}

// squeezed returns a filter with its parts as they are looked for in folded values, which neither begin nor end with a blank.
func squeezed(f api.Filter) api.Filter {
	var middle []string
	for _, part := range f.Any {
		middle = append(middle, Squeeze(part))
	}
	f.First = strings.TrimLeft(Squeeze(f.First), " ")
	f.Any = middle
	f.Last = strings.TrimRight(Squeeze(f.Last), " ")
	return f
}

// hasParts reports whether a text consists of a filter's parts, with anything between them. What the first occurrences leave of the text is the most that can be left.
func hasParts(text string, f api.Filter) bool {
	rest, found := strings.CutPrefix(text, f.First)
	for _, part := range f.Any {
		if !found {
			return false
		}
		_, rest, found = strings.Cut(rest, part)
	}
	return found && strings.HasSuffix(rest, f.Last)
}

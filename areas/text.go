package areas

import (
	"strconv"
	"strings"

	"palatine/api"
	"palatine/dn"
)

// Print returns the text of a specification, valid or not.
func Print(x api.Spec) string {
	text := "base=" + dn.Print(x.Base)
	if x.Min != 0 {
		text += ";min=" + strconv.Itoa(x.Min)
	}
	if x.Max != noLimit {
		text += ";max=" + strconv.Itoa(x.Max)
	}
	return text + parts("before", x.Before, dn.Print) + parts("after", x.After, dn.Print) + parts("class", x.Classes, itself)
}

// parts returns the parts of a text that all items have, each behind the same word.
func parts[Item any](word string, items []Item, text func(Item) string) string {
	var all strings.Builder
	for _, item := range items {
		all.WriteString(";" + word + "=" + text(item))
	}
	return all.String()
}

func itself(s string) string { return s }

// Parse returns the valid specification that s is the text of.
func Parse(s string) (api.Spec, api.Errno) {
	if len(s) > api.MaxSpec {
		return api.Spec{}, api.ErrSpec
	}
	// What is read loosely shows in the text of what came of it.
	x := read(s)
	if !Right(x) || Print(x) != s {
		return api.Spec{}, api.ErrSpec
	}
	return x, api.OK
}

// read takes from s what it can: parts in any order, and also those that are no text of a value.
func read(s string) api.Spec {
	x := api.Spec{Max: noLimit}
	for _, part := range split(s) {
		word, text, _ := strings.Cut(part, "=")
		switch word {
		case "base":
			x.Base, _ = dn.Parse(text)
		case "min":
			x.Min, _ = strconv.Atoi(text)
		case "max":
			x.Max, _ = strconv.Atoi(text)
		case "before":
			chop, _ := dn.Parse(text)
			x.Before = append(x.Before, chop)
		case "after":
			chop, _ := dn.Parse(text)
			x.After = append(x.After, chop)
		case "class":
			x.Classes = append(x.Classes, text)
		}
	}
	return x
}

// split divides s at each ; that is not escaped.
func split(s string) []string {
	var all []string
	start, escaped := 0, false
	for i := range len(s) {
		if s[i] == ';' && !escaped {
			all = append(all, s[start:i])
			start = i + 1
		}
		escaped = s[i] == '\\' && !escaped
	}
	return append(all, s[start:])
}

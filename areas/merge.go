package areas

import (
	"slices"

	"palatine/api"
	"palatine/schema"
)

// Merge returns an entry's own attributes, followed by those that subentries share with it.
func Merge(s *schema.Schema, name api.Dn, entry []api.Attr, subs ...api.Subentry) []api.Attr {
	p := pool{schema: s}
	own := slices.DeleteFunc(slices.Clone(entry), func(attr api.Attr) bool { return p.isShared(attr.Type) })
	for i, attr := range own {
		own[i].Values = slices.Clone(attr.Values)
	}
	isExcluded := exclusions(entry)
	for _, sub := range subs {
		if !Means(s, sub.Point, sub.Spec, name, entry) {
			continue
		}
		for _, attr := range sub.Attrs {
			if p.isShared(attr.Type) && !isExcluded(attr.Type) {
				p.add(attr)
			}
		}
	}
	return append(own, p.attrs...)
}

// exclusions returns a function that reports whether an entry excludes a type.
func exclusions(entry []api.Attr) func(name string) bool {
	var excluded []string
	first := slices.IndexFunc(entry, func(attr api.Attr) bool { return isAlike(attr.Type, "sharedExclusions") })
	if first >= 0 {
		excluded = entry[first].Values
	}
	return func(name string) bool {
		return slices.ContainsFunc(excluded, func(value string) bool { return isAlike(value, "all") || isAlike(value, name) })
	}
}

// pool collects the shared attributes of an entry, and how often each norm of each of them occurred.
type pool struct {
	schema *schema.Schema
	attrs  []api.Attr
	counts []map[string]int
}

func (p *pool) isShared(name string) bool {
	t, ok := p.schema.Type(name)
	return ok && t.Shared
}

// add adds the values that have norms which are new. An attribute begins with its first value, so there is none without values.
func (p *pool) add(attr api.Attr) {
	for _, value := range attr.Values {
		norm, e := p.schema.Norm(attr.Type, value)
		if e != api.OK {
			continue
		}
		at := p.place(attr.Type)
		p.counts[at][norm]++
		if p.counts[at][norm] == 1 {
			p.attrs[at].Values = append(p.attrs[at].Values, value)
		}
	}
}

// place returns the position of the attribute of a type, which is a new one if there is none yet.
func (p *pool) place(name string) int {
	at := slices.IndexFunc(p.attrs, func(attr api.Attr) bool { return isAlike(attr.Type, name) })
	if at >= 0 {
		return at
	}
	p.attrs = append(p.attrs, api.Attr{Type: name})
	p.counts = append(p.counts, map[string]int{})
	return len(p.attrs) - 1
}

// isAlike reports whether two names differ in nothing but their case.
func isAlike(a, b string) bool { return len(a) == len(b) && lower(a) == lower(b) }

// lower converts byte by byte, so that no letter beyond ASCII becomes one of ASCII.
func lower(s string) string {
	b := []byte(s)
	for i, c := range b {
		if 'A' <= c && c <= 'Z' {
			b[i] = c - 'A' + 'a'
		}
	}
	return string(b)
}

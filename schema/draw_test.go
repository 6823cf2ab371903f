package schema_test

import (
	"slices"
	"strconv"

	"palatine/api"
)

// schema draws a valid schema.
func (r *draws) schema() api.Schema {
	s := api.Schema{Types: []api.AttrType{{Name: r.cased("objectClass"), Syntax: 1}}}
	var names []string
	for _, name := range r.some("cn", "sn", "a", "b", "a-1", "ab", "boss", "age", "flag", "x9") {
		names = append(names, name)
		s.Types = append(s.Types, api.AttrType{Name: r.cased(name), Syntax: 1 + r.below(5), Single: r.one(3), Sealed: r.one(4), System: r.one(5), Shared: r.one(4)})
	}
	for _, name := range r.some("top", "thing", "person", "cn", "a", "b", "pet", "extra", "x") {
		c := api.Class{Name: r.cased(name), Kind: r.below(3)}
		if len(s.Classes) > 0 && !r.one(3) {
			if sup := s.Classes[r.below(len(s.Classes))]; sup.Kind == 0 || sup.Kind == c.Kind {
				c.Sup = r.cased(sup.Name)
			}
		}
		for _, name := range r.some(names...) {
			switch r.below(6) {
			case 0:
				c.Must = append(c.Must, r.cased(name))
			case 1, 2:
				c.May = append(c.May, r.cased(name))
			}
		}
		s.Classes = append(s.Classes, c)
	}
	return s
}

// spoil changes one place of a schema, so that it may or may not be valid any more.
func (r *draws) spoil(s *api.Schema) {
	kind := &s.Types[r.below(len(s.Types))]
	switch r.below(5) {
	case 0:
		kind.Name = r.of("objectClass", "cn", "SN", "a", "a ", "", "new")
	case 1:
		kind.Syntax = r.below(8) - 1
	case 2:
		kind.Single = !kind.Single
	}
	if len(s.Classes) == 0 {
		return
	}
	class := &s.Classes[r.below(len(s.Classes))]
	switch r.below(14) {
	case 0:
		class.Name = r.of("top", "THING", "cn", "a", "1", "", "new")
	case 1:
		class.Kind = r.below(5) - 1
	case 2:
		class.Sup = r.of("top", "thing", "PERSON", "cn", "a", "b", "")
	case 3:
		class.Must = append(slices.Clone(class.Must), r.of("cn", "sn", "AB", "x", "top", ""))
	case 4:
		class.May = append(slices.Clone(class.May), r.of("cn", "sn", "AB", "x", "top", ""))
	case 5:
		at := r.below(len(s.Classes))
		s.Classes[at], *class = *class, s.Classes[at]
	case 6:
		at := r.below(len(s.Types))
		s.Types[at], *kind = *kind, s.Types[at]
	case 7:
		at := r.below(len(s.Classes))
		s.Classes = slices.Delete(s.Classes, at, at+1)
	}
}

// full is a schema with as many types and classes as there may be: each class below the one ahead of it.
func full() api.Schema {
	s := api.Schema{Types: []api.AttrType{{Name: "objectClass", Syntax: 1}}}
	for i := 1; i < 40; i++ {
		s.Types = append(s.Types, api.AttrType{Name: "t" + strconv.Itoa(i), Syntax: 2})
	}
	for i := range 20 {
		s.Classes = append(s.Classes, api.Class{Name: "c" + strconv.Itoa(i), Kind: 1, Must: []string{s.Types[i+1].Name}, May: []string{s.Types[i+20].Name}})
		if i > 0 {
			s.Classes[i].Sup = s.Classes[i-1].Name
		}
	}
	return s
}

// value draws a text that most often has the syntax.
func (r *draws) value(syntax int) string {
	switch syntax {
	case 1:
		return r.of("A", " a ", "a  B", "b", "B c", "x", "Y", "z ", "", "  ")
	case 3:
		return r.of("0", "7", "-7", "12", "123456789", "-123456789", "99", "007", "-0", "1234567890")
	case 4:
		return r.of("", "cn=A", "CN=a", "a=1,b=2", "a=1+b=2", "B=2+a=1", `a=\41`, "x", "a= 1", "=1")
	case 5:
		return r.of("TRUE", "true", "FALSE", "False", "tRUE", "maybe")
	}
	return r.of("", "x", "X", " ", "\x00", "a  b", "x ", "\xff")
}

// rightValues draws values that conform to a type.
func (r *draws) rightValues(s api.Schema, t api.AttrType) []string {
	var values, norms []string
	for range 1 + r.below(3) {
		value := r.value(t.Syntax)
		norm, e := normByWords(s, t.Name, value)
		if e == api.OK && !slices.Contains(norms, norm) && (len(values) == 0 || !t.Single) {
			values, norms = append(values, value), append(norms, norm)
		}
	}
	return values
}

// entry draws an entry that most often has what its classes ask for, and not much besides.
func (r *draws) entry(s api.Schema) []api.Attr {
	var kinds, types, asked []string
	for _, c := range s.Classes {
		if r.one(3) {
			kinds = append(kinds, r.cased(c.Name))
		}
	}
	for _, kind := range kinds {
		for _, name := range lineByWords(s, kind) {
			c, _ := classByWords(s, name)
			types, asked = append(append(types, c.Must...), r.some(c.May...)...), append(asked, c.Must...)
		}
	}
	if len(kinds) > 0 || r.one(5) {
		types = slices.Insert(types, r.below(len(types)+1), r.cased("objectClass"))
	}
	for _, t := range s.Types {
		if t.System && r.one(2) {
			types = append(types, t.Name)
		}
	}
	var entry []api.Attr
	for _, name := range types {
		t, _ := typeByWords(s, name)
		if _, before := attrByWords(entry, name); before {
			continue
		}
		values := r.rightValues(s, t)
		if isAlike(name, "objectClass") {
			values = kinds
		}
		if len(values) > 0 || r.one(4) {
			entry = append(entry, attr(r.cased(name), values...))
		}
	}
	return entry
}

// twist changes one place of an entry.
func (r *draws) twist(s api.Schema, entry []api.Attr) []api.Attr {
	entry = slices.Clone(entry)
	t := s.Types[r.below(len(s.Types))]
	if len(entry) == 0 || r.one(4) {
		return slices.Insert(entry, r.below(len(entry)+1), attr(r.cased(t.Name), r.rightValues(s, t)...))
	}
	at := r.below(len(entry))
	old := &entry[at]
	kind, _ := typeByWords(s, old.Type)
	switch r.below(7) {
	case 0:
		return slices.Delete(entry, at, at+1)
	case 1:
		return append(entry, attr(r.of("none", "", "cn ", "object", r.cased(old.Type)), "1"))
	case 2:
		old.Values = append(slices.Clone(old.Values), r.value(kind.Syntax))
	case 3:
		old.Values = append([]string{r.value(kind.Syntax)}, old.Values...)
	case 4:
		old.Values = slices.Concat(old.Values, old.Values)
	case 5:
		old.Values = old.Values[:r.below(len(old.Values)+1)]
	case 6:
		other := r.below(len(entry))
		entry[at], entry[other] = entry[other], entry[at]
	}
	return entry
}

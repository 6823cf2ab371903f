package schema

import (
	"slices"

	"palatine/api"
)

// objectClass is the position of that type in each valid schema.
const objectClass = 0

// typeSet and classSet hold types and classes by their positions.
type (
	typeSet  [api.MaxTypes]bool
	classSet [api.MaxClasses]bool
)

// Check tells in what an entry does not conform to the schema.
func (s *Schema) Check(entry []api.Attr) api.Errno {
	present, e := s.checkAttrs(entry)
	if e != api.OK {
		return e
	}
	classes, all := s.classesOf(entry)
	if !all || !s.isOneChain(classes) {
		return api.ErrClass
	}
	return s.checkTypes(present, classes)
}

// IsA reports whether an entry is of a class.
func (s *Schema) IsA(entry []api.Attr, class string) bool {
	at, ok := s.classAt(class)
	classes, _ := s.classesOf(entry)
	return ok && classes[at]
}

// checkAttrs looks at each attribute by itself, and returns the types of all.
func (s *Schema) checkAttrs(entry []api.Attr) (present typeSet, e api.Errno) {
	for _, attr := range entry {
		at, ok := s.typeAt(attr.Type)
		if !ok || present[at] {
			return typeSet{}, api.ErrType
		}
		if e := checkValues(s.lists.Types[at], attr.Values); e != api.OK {
			return typeSet{}, e
		}
		present[at] = true
	}
	return present, api.OK
}

func checkValues(t api.AttrType, values []string) api.Errno {
	if len(values) == 0 {
		return api.ErrSyntax
	}
	counts := map[string]int{}
	for _, value := range values {
		norm, ok := normOf(t.Syntax, value)
		counts[norm]++
		if !ok || counts[norm] > 1 {
			return api.ErrSyntax
		}
	}
	if t.Single && len(values) > 1 {
		return api.ErrSingle
	}
	return api.OK
}

// classesOf returns the classes of an entry with all their superclasses, and whether each value of its first objectClass names a class.
func (s *Schema) classesOf(entry []api.Attr) (classes classSet, all bool) {
	isObjectClass := func(attr api.Attr) bool {
		at, ok := s.typeAt(attr.Type)
		return ok && at == objectClass
	}
	first := slices.IndexFunc(entry, isObjectClass)
	if first < 0 {
		return classSet{}, true
	}
	all = true
	for _, value := range entry[first].Values {
		norm, hasNorm := normOf(api.SyntaxText, value)
		at, found := s.classAt(norm)
		if !hasNorm || !found {
			all = false
			continue
		}
		s.addLine(&classes, at)
	}
	return classes, all
}

// addLine adds a class and all its superclasses.
func (s *Schema) addLine(classes *classSet, at int) {
	for ok := true; ok; at, ok = s.classAt(s.lists.Classes[at].Sup) {
		classes[at] = true
	}
}

// isOneChain reports whether some of the classes are Structural, and of each two of these one is a superclass of the other. Superclasses come first in the list, so all must be in the line of the last one.
func (s *Schema) isOneChain(classes classSet) bool {
	var structural []int
	for at, c := range s.lists.Classes {
		if classes[at] && c.Kind == api.Structural {
			structural = append(structural, at)
		}
	}
	if len(structural) == 0 {
		return false
	}
	var line classSet
	s.addLine(&line, structural[len(structural)-1])
	return !slices.ContainsFunc(structural, func(at int) bool { return !line[at] })
}

// checkTypes holds the types of an entry against what its classes ask for and permit.
func (s *Schema) checkTypes(present typeSet, classes classSet) api.Errno {
	var must, may typeSet
	for at, c := range s.lists.Classes {
		if classes[at] {
			s.addTypes(&must, c.Must)
			s.addTypes(&may, c.May)
		}
	}
	for at := range must {
		if must[at] && !present[at] {
			return api.ErrMust
		}
	}
	for at, t := range s.lists.Types {
		if present[at] && !t.System && at != objectClass && !must[at] && !may[at] {
			return api.ErrMay
		}
	}
	return api.OK
}

// addTypes adds what a class asks for or permits: types of the list, since the schema is valid.
func (s *Schema) addTypes(types *typeSet, names []string) {
	for _, name := range names {
		at, _ := s.typeAt(name)
		types[at] = true
	}
}

package schema

import (
	"slices"

	"palatine/api"
	"palatine/dn"
)

// isRight reports whether a schema is valid. It goes through the lists to find names: maps are for valid schemas, whose names differ.
func isRight(s api.Schema) bool {
	if len(s.Types) == 0 || len(s.Types) > api.MaxTypes || len(s.Classes) > api.MaxClasses {
		return false
	}
	return isRightFirst(s.Types[0]) && areRightTypes(s.Types) && areRightClasses(s)
}

func isRightFirst(t api.AttrType) bool {
	return lower(t.Name) == "objectclass" && t == api.AttrType{Name: t.Name, Syntax: api.SyntaxText}
}

func areRightTypes(types []api.AttrType) bool {
	for i, t := range types {
		if !isNewName(t.Name, types[:i], typeName) || t.Syntax < api.SyntaxText || t.Syntax > api.SyntaxTruth {
			return false
		}
	}
	return true
}

func areRightClasses(s api.Schema) bool {
	isNoType := func(name string) bool { return find(name, s.Types, typeName) < 0 }
	for i, c := range s.Classes {
		before := s.Classes[:i]
		if !isNewName(c.Name, before, className) || c.Kind < api.Abstract || c.Kind > api.Auxiliary || !isRightSup(c, before) {
			return false
		}
		if slices.ContainsFunc(c.Must, isNoType) || slices.ContainsFunc(c.May, isNoType) {
			return false
		}
	}
	return true
}

func isRightSup(c api.Class, before []api.Class) bool {
	if c.Sup == "" {
		return true
	}
	at := find(c.Sup, before, className)
	return at >= 0 && (before[at].Kind == api.Abstract || before[at].Kind == c.Kind)
}

// isNewName reports whether a name is one, and none of the items has it.
func isNewName[Item any](s string, items []Item, name func(Item) string) bool {
	return dn.Type(s) && find(s, items, name) < 0
}

// find returns the position of the item with this name, or -1.
func find[Item any](s string, items []Item, name func(Item) string) int {
	wanted := lower(s)
	return slices.IndexFunc(items, func(item Item) bool { return lower(name(item)) == wanted })
}

package schema_test

import (
	"regexp"
	"slices"
	"strings"
	"testing"

	"palatine/api"
	"palatine/dn"
	"palatine/schema"
)

// draws is a fixed sequence of numbers, the same in every run.
type draws uint64

func (r *draws) next() uint32 {
	*r = *r*6364136223846793005 + 1442695040888963407
	return uint32(*r >> 32)
}

func (r *draws) below(n int) int { return int(r.next() % uint32(n)) }

// one reports true in one of n cases.
func (r *draws) one(n int) bool { return r.below(n) == 0 }

func (r *draws) of(texts ...string) string { return texts[r.below(len(texts))] }

// some are texts of the list, each once at most, in drawn order.
func (r *draws) some(texts ...string) []string {
	rest := slices.Clone(texts)
	var taken []string
	for range r.below(len(texts) + 1) {
		at := r.below(len(rest))
		taken, rest = append(taken, rest[at]), slices.Delete(rest, at, at+1)
	}
	return taken
}

// cased is a text of which some letters have changed their case.
func (r *draws) cased(s string) string {
	b := []byte(s)
	for i, c := range b {
		if letter := c | 32; 'a' <= letter && letter <= 'z' && r.one(2) {
			b[i] = c ^ 32
		}
	}
	return string(b)
}

// text is one of so many letters at most, out of the alphabet.
func (r *draws) text(most int, alphabet string) string {
	b := make([]byte, r.below(most+1))
	for i := range b {
		b[i] = alphabet[r.below(len(alphabet))]
	}
	return string(b)
}

// allBytes are the 256 bytes in order.
func allBytes() string {
	b := make([]byte, 256)
	for i := range b {
		b[i] = byte(i)
	}
	return string(b)
}

// eachText calls visit with all texts of at most so many letters of the alphabet.
func eachText(most int, alphabet string, visit func(string)) {
	visit("")
	if most == 0 {
		return
	}
	for i := range len(alphabet) {
		eachText(most-1, alphabet, func(s string) { visit(alphabet[i:i+1] + s) })
	}
}

var lowered = strings.NewReplacer(strings.Split("AaBbCcDdEeFfGgHhIiJjKkLlMmNnOoPpQqRrSsTtUuVvWwXxYyZz", "")...)

func lowerByWords(s string) string { return lowered.Replace(s) }

func foldByWords(s string) string {
	s = lowerByWords(s)
	for strings.Contains(s, "  ") {
		s = strings.ReplaceAll(s, "  ", " ")
	}
	return strings.TrimPrefix(strings.TrimSuffix(s, " "), " ")
}

var (
	nameForm   = regexp.MustCompile(`^[A-Za-z][A-Za-z0-9-]{0,19}$`)
	numberForm = regexp.MustCompile(`^(0|-?[1-9][0-9]{0,8})$`)
	truthForm  = regexp.MustCompile(`^([Tt][Rr][Uu][Ee]|[Ff][Aa][Ll][Ss][Ee])$`)
)

func isAlike(a, b string) bool { return lowerByWords(a) == lowerByWords(b) }

func typeByWords(s api.Schema, name string) (api.AttrType, bool) {
	for _, t := range s.Types {
		if isAlike(t.Name, name) {
			return t, true
		}
	}
	return api.AttrType{}, false
}

func classByWords(s api.Schema, name string) (api.Class, bool) {
	for _, c := range s.Classes {
		if isAlike(c.Name, name) {
			return c, true
		}
	}
	return api.Class{}, false
}

// rightByWords follows the chapter's list of what a valid schema is.
func rightByWords(s api.Schema) bool {
	if len(s.Types) < 1 || len(s.Types) > 40 || len(s.Classes) > 20 {
		return false
	}
	first := s.Types[0]
	if !isAlike(first.Name, "objectClass") || first.Syntax != 1 || first.Single || first.Sealed || first.System || first.Shared {
		return false
	}
	for i, t := range s.Types {
		again := slices.ContainsFunc(s.Types[i+1:], func(other api.AttrType) bool { return isAlike(t.Name, other.Name) })
		if !nameForm.MatchString(t.Name) || again || t.Syntax < 1 || t.Syntax > 5 {
			return false
		}
	}
	for i, c := range s.Classes {
		again := slices.ContainsFunc(s.Classes[i+1:], func(other api.Class) bool { return isAlike(c.Name, other.Name) })
		if !nameForm.MatchString(c.Name) || again || c.Kind < 0 || c.Kind > 2 {
			return false
		}
		for _, name := range append(slices.Clone(c.Must), c.May...) {
			if _, ok := typeByWords(s, name); !ok {
				return false
			}
		}
		sup, ok := classByWords(api.Schema{Classes: s.Classes[:i]}, c.Sup)
		if c.Sup != "" && (!ok || sup.Kind != 0 && sup.Kind != c.Kind) {
			return false
		}
	}
	return true
}

func normByWords(s api.Schema, name, value string) (string, api.Errno) {
	t, ok := typeByWords(s, name)
	if !ok {
		return "", api.ErrType
	}
	n, e := dn.Parse(value)
	switch {
	case len(value) > 200:
	case t.Syntax == 1 && foldByWords(value) != "":
		return foldByWords(value), api.OK
	case t.Syntax == 2, t.Syntax == 3 && numberForm.MatchString(value):
		return value, api.OK
	case t.Syntax == 4 && e == api.OK:
		return dn.Key(n), api.OK
	case t.Syntax == 5 && truthForm.MatchString(value):
		return map[int]string{4: "TRUE", 5: "FALSE"}[len(value)], api.OK
	}
	return "", api.ErrSyntax
}

// lessByWords tells of two numbers which is less, by their signs and digits.
func lessByWords(a, b string) bool {
	x, y := strings.TrimPrefix(a, "-"), strings.TrimPrefix(b, "-")
	switch {
	case x != a && y == b:
		return true
	case x == a && y != b:
		return false
	case x != a:
		x, y = y, x
	}
	return len(x) < len(y) || len(x) == len(y) && x < y
}

func compareByWords(s api.Schema, name, a, b string) (int, api.Errno) {
	x, e := normByWords(s, name, a)
	if e != api.OK {
		return 0, e
	}
	y, e := normByWords(s, name, b)
	if e != api.OK {
		return 0, e
	}
	t, _ := typeByWords(s, name)
	switch less := t.Syntax == 3 && lessByWords(x, y) || t.Syntax != 3 && x < y; {
	case x == y:
		return 0, api.OK
	case less:
		return -1, api.OK
	}
	return 1, api.OK
}

// lineByWords are the names, in lower case, of a class and its superclasses, itself first.
func lineByWords(s api.Schema, name string) []string {
	c, ok := classByWords(s, name)
	if !ok {
		return nil
	}
	return append([]string{lowerByWords(c.Name)}, lineByWords(s, c.Sup)...)
}

// attrByWords is the first attribute of a type.
func attrByWords(entry []api.Attr, name string) (api.Attr, bool) {
	for _, attr := range entry {
		if isAlike(attr.Type, name) {
			return attr, true
		}
	}
	return api.Attr{}, false
}

// checkByWords goes through the chapter's five steps.
func checkByWords(s api.Schema, entry []api.Attr) api.Errno {
	for i, attr := range entry {
		t, ok := typeByWords(s, attr.Type)
		if _, before := attrByWords(entry[:i], attr.Type); before || !ok {
			return api.ErrType
		}
		if len(attr.Values) == 0 {
			return api.ErrSyntax
		}
		var norms []string
		for _, value := range attr.Values {
			norm, e := normByWords(s, attr.Type, value)
			if e != api.OK || slices.Contains(norms, norm) {
				return api.ErrSyntax
			}
			norms = append(norms, norm)
		}
		if t.Single && len(attr.Values) >= 2 {
			return api.ErrSingle
		}
	}
	kinds, ok := attrByWords(entry, "objectClass")
	if !ok {
		return api.ErrClass
	}
	var classes []string
	for _, value := range kinds.Values {
		line := lineByWords(s, foldByWords(value))
		if len(line) == 0 {
			return api.ErrClass
		}
		classes = append(classes, line...)
	}
	return checkClassesByWords(s, entry, classes)
}

func checkClassesByWords(s api.Schema, entry []api.Attr, classes []string) api.Errno {
	structural := 0
	for _, a := range classes {
		for _, b := range classes {
			x, _ := classByWords(s, a)
			y, _ := classByWords(s, b)
			if x.Kind != 1 || y.Kind != 1 {
				continue
			}
			structural++
			if !slices.Contains(lineByWords(s, a), b) && !slices.Contains(lineByWords(s, b), a) {
				return api.ErrClass
			}
		}
	}
	if structural == 0 {
		return api.ErrClass
	}
	permitted := []string{"objectclass"}
	for _, name := range classes {
		c, _ := classByWords(s, name)
		for _, must := range c.Must {
			if _, ok := attrByWords(entry, must); !ok {
				return api.ErrMust
			}
		}
		for _, name := range append(slices.Clone(c.Must), c.May...) {
			permitted = append(permitted, lowerByWords(name))
		}
	}
	for _, attr := range entry {
		if t, _ := typeByWords(s, attr.Type); !t.System && !slices.Contains(permitted, lowerByWords(attr.Type)) {
			return api.ErrMay
		}
	}
	return api.OK
}

func isAByWords(s api.Schema, entry []api.Attr, class string) bool {
	kinds, _ := attrByWords(entry, "objectClass")
	for _, value := range kinds.Values {
		if norm, e := normByWords(s, "objectClass", value); e == api.OK && slices.Contains(lineByWords(s, norm), lowerByWords(class)) {
			return true
		}
	}
	return false
}

// example is the schema of the chapter's examples.
func example() api.Schema {
	return api.Schema{
		Types: []api.AttrType{{Name: "objectClass", Syntax: 1}, {Name: "cn", Syntax: 1}, {Name: "age", Syntax: 3, Single: true}, {Name: "dc", Syntax: 1}},
		Classes: []api.Class{
			{Name: "top"}, {Name: "person", Kind: 1, Sup: "top", Must: []string{"cn"}, May: []string{"age"}},
			{Name: "domain", Kind: 1, Sup: "top", Must: []string{"dc"}}, {Name: "aged", Kind: 2, Must: []string{"age"}},
		},
	}
}

// plenty is a schema with types of all syntaxes, and with long and short lines of classes of all kinds.
func plenty() api.Schema {
	return api.Schema{
		Types: []api.AttrType{
			{Name: "OBJECTclass", Syntax: 1}, {Name: "text", Syntax: 1}, {Name: "Exact", Syntax: 2, Shared: true}, {Name: "num-1", Syntax: 3}, {Name: "boss", Syntax: 4},
			{Name: "flag", Syntax: 5, Sealed: true}, {Name: "one", Syntax: 1, Single: true}, {Name: "SYS", Syntax: 2, System: true}, {Name: "sysone", Syntax: 3, System: true, Single: true}, {Name: "a", Syntax: 2},
		},
		Classes: []api.Class{
			{Name: "top", May: []string{"A"}}, {Name: "base", Sup: "TOP", Must: []string{"objectClass"}}, {Name: "thing", Kind: 1, Sup: "base", Must: []string{"TEXT"}},
			{Name: "Person", Kind: 1, Sup: "thing", May: []string{"boss", "one"}}, {Name: "child", Kind: 1, Sup: "person", Must: []string{"num-1"}, May: []string{"flag"}},
			{Name: "pet", Kind: 1, Sup: "thing", May: []string{"num-1", "exact", "NUM-1"}}, {Name: "lone", Kind: 1},
			{Name: "mixed", Kind: 2, Sup: "base", May: []string{"EXACT", "sys"}}, {Name: "marked", Kind: 2, Sup: "mixed", Must: []string{"flag"}}, {Name: "text", Kind: 2, Must: []string{"sysone"}},
		},
	}
}

func attr(kind string, values ...string) api.Attr { return api.Attr{Type: kind, Values: values} }

func newSchema(t *testing.T, s api.Schema) *schema.Schema {
	t.Helper()
	made, e := schema.New(s)
	if made == nil || e != api.OK {
		t.Fatalf("New(%v): %v, %v", s, made, e)
	}
	return made
}

// checkNew holds New against the chapter's words.
func checkNew(t *testing.T, s api.Schema) bool {
	t.Helper()
	made, e := schema.New(s)
	right := rightByWords(s)
	if right != (made != nil) || right != (e == api.OK) || !right && e != api.ErrSchema {
		t.Errorf("New(%v): %v, %v", s, made, e)
	}
	return right
}

func checkNorm(t *testing.T, s *schema.Schema, words api.Schema, name, value string) {
	t.Helper()
	want, code := normByWords(words, name, value)
	if norm, e := s.Norm(name, value); norm != want || e != code {
		t.Errorf("Norm(%q, %q): got %q %v, want %q %v", name, value, norm, e, want, code)
	}
}

func checkCompare(t *testing.T, s *schema.Schema, words api.Schema, name, a, b string) {
	t.Helper()
	want, code := compareByWords(words, name, a, b)
	if n, e := s.Compare(name, a, b); n != want || e != code {
		t.Errorf("Compare(%q, %q, %q): got %v %v, want %v %v", name, a, b, n, e, want, code)
	}
}

func checkEntry(t *testing.T, s *schema.Schema, words api.Schema, entry []api.Attr) api.Errno {
	t.Helper()
	want := checkByWords(words, entry)
	if e := s.Check(entry); e != want {
		t.Errorf("Check(%q): got %v, want %v (schema %v)", entry, e, want, words)
	}
	return want
}

func checkIsA(t *testing.T, s *schema.Schema, words api.Schema, entry []api.Attr, class string) bool {
	t.Helper()
	want := isAByWords(words, entry, class)
	if got := s.IsA(entry, class); got != want {
		t.Errorf("IsA(%q, %q): got %v", entry, class, got)
	}
	return want
}

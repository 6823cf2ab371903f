package filter_test

import (
	"math/big"
	"regexp"
	"slices"
	"strings"
	"testing"

	"palatine/api"
	"palatine/filter"
	"palatine/schema"
)

// draws is a fixed sequence of numbers, the same in every run.
type draws uint64

func (r *draws) next() uint32 {
	*r = *r*6364136223846793005 + 1442695040888963407
	return uint32(*r >> 32)
}

func (r *draws) below(n int) int { return int(r.next() % uint32(n)) }

// one reports true in one of n cases.
func (r *draws) one(n int) bool { return r.below(n) == 0 }

func (r *draws) of(texts ...string) string { return texts[r.below(len(texts))] }

// list is one of so many texts at most.
func (r *draws) list(most int, texts ...string) []string {
	var list []string
	for range r.below(most + 1) {
		list = append(list, r.of(texts...))
	}
	return list
}

// cased is a text of which some letters have changed their case.
func (r *draws) cased(s string) string {
	b := []byte(s)
	for i, c := range b {
		if letter := c | 32; 'a' <= letter && letter <= 'z' && r.one(2) {
			b[i] = c ^ 32
		}
	}
	return string(b)
}

// text is one of so many letters at most, out of the alphabet.
func (r *draws) text(most int, alphabet string) string {
	b := make([]byte, r.below(most+1))
	for i := range b {
		b[i] = alphabet[r.below(len(alphabet))]
	}
	return string(b)
}

// allBytes are the 256 bytes in order.
func allBytes() string {
	b := make([]byte, 256)
	for i := range b {
		b[i] = byte(i)
	}
	return string(b)
}

// allTexts are all texts of at most so many letters of the alphabet.
func allTexts(most int, alphabet string) []string {
	all, last := []string{""}, []string{""}
	for range most {
		var longer []string
		for _, s := range last {
			for i := range len(alphabet) {
				longer = append(longer, s+alphabet[i:i+1])
			}
		}
		all, last = append(all, longer...), longer
	}
	return all
}

// allLists are all lists of at most so many of the items.
func allLists[Item any](most int, items ...Item) [][]Item {
	all, last := [][]Item{nil}, [][]Item{nil}
	for range most {
		var longer [][]Item
		for _, list := range last {
			for _, item := range items {
				longer = append(longer, append(slices.Clone(list), item))
			}
		}
		all, last = append(all, longer...), longer
	}
	return all
}

var (
	lowered = strings.NewReplacer(strings.Split("AaBbCcDdEeFfGgHhIiJjKkLlMmNnOoPpQqRrSsTtUuVvWwXxYyZz", "")...)
	blanks  = regexp.MustCompile(` +`)
)

func lowerByWords(s string) string { return lowered.Replace(s) }

func isAlike(a, b string) bool { return lowerByWords(a) == lowerByWords(b) }

func squeezeByWords(part string) string {
	return blanks.ReplaceAllLiteralString(lowerByWords(part), " ")
}

func foldByWords(value string) string {
	return strings.TrimPrefix(strings.TrimSuffix(squeezeByWords(value), " "), " ")
}

// wide is s with each byte as a rune, so that an expression matches bytes.
func wide(s string) string {
	var runes []rune
	for i := range len(s) {
		runes = append(runes, rune(s[i]))
	}
	return string(runes)
}

// partsByWords is an expression that matches the values that consist of a filter's parts. It says nothing of first occurrences: if the parts can be found in order at all, they can be found at those.
func partsByWords(f api.Filter, syntax int) *regexp.Regexp {
	first, last, squeeze := f.First, f.Last, func(part string) string { return part }
	if syntax == 1 {
		first = strings.TrimPrefix(squeezeByWords(first), " ")
		last = strings.TrimSuffix(squeezeByWords(last), " ")
		squeeze = squeezeByWords
	}
	form := `(?s)\A` + regexp.QuoteMeta(wide(first))
	for _, part := range f.Any {
		form += `.*` + regexp.QuoteMeta(wide(squeeze(part)))
	}
	return regexp.MustCompile(form + `.*` + regexp.QuoteMeta(wide(last)) + `\z`)
}

// isMatch holds a value against an expression of partsByWords.
func isMatch(parts *regexp.Regexp, value string, syntax int) bool {
	if syntax == 1 {
		value = foldByWords(value)
	}
	return parts.MatchString(wide(value))
}

// model has the words of a schema beside the schema itself, whose norms count.
type model struct {
	words api.Schema
	made  *schema.Schema
}

func newModel(t *testing.T, words api.Schema) model {
	t.Helper()
	made, e := schema.New(words)
	if made == nil || e != api.OK {
		t.Fatalf("New(%v): %v", words, e)
	}
	return model{words, made}
}

func (m model) syntax(name string) int {
	for _, x := range m.words.Types {
		if isAlike(x.Name, name) {
			return x.Syntax
		}
	}
	return 0
}

// values are those of the first attribute of a type, and whether there is one.
func (m model) values(entry []api.Attr, name string) ([]string, bool) {
	for _, attr := range entry {
		if isAlike(attr.Type, name) {
			return attr.Values, true
		}
	}
	return nil, false
}

func orderByWords(syntax int, a, b string) int {
	if syntax != 3 {
		return strings.Compare(a, b)
	}
	x, _ := new(big.Int).SetString(a, 10)
	y, _ := new(big.Int).SetString(b, 10)
	return x.Cmp(y)
}

// eval follows the chapter's table; level is 1 for the filter itself.
func (m model) eval(entry []api.Attr, f api.Filter, level int) int {
	if level > 6 || f.Kind < 0 || f.Kind > 7 {
		return api.Unknown
	}
	if f.Kind > 2 {
		return m.evalType(entry, f)
	}
	var counts [3]int
	for i, kid := range f.Kids {
		if result := m.eval(entry, kid, level+1); f.Kind != api.Not || i == 0 {
			counts[result]++
		}
	}
	switch {
	case f.Kind == api.Not && len(f.Kids) == 0:
		return api.Unknown
	case f.Kind == api.And && counts[api.False] > 0:
		return api.False
	case f.Kind == api.Or && counts[api.True] > 0:
		return api.True
	case counts[api.Unknown] > 0:
		return api.Unknown
	case f.Kind == api.And, f.Kind == api.Not && counts[api.False] > 0:
		return api.True
	}
	return api.False
}

func (m model) evalType(entry []api.Attr, f api.Filter) int {
	syntax := m.syntax(f.Type)
	if syntax == 0 {
		return api.Unknown
	}
	values, present := m.values(entry, f.Type)
	result := api.False
	if f.Kind == api.Present && present {
		result = api.True
	}
	norm, e := m.made.Norm(f.Type, f.Value)
	switch f.Kind {
	case api.Equal, api.AtLeast, api.AtMost:
		if e != api.OK || f.Kind != api.Equal && syntax > 3 {
			return api.Unknown
		}
		for _, value := range values {
			other, e := m.made.Norm(f.Type, value)
			if e != api.OK {
				continue
			}
			if order := orderByWords(syntax, other, norm); other == norm || f.Kind == api.AtLeast && order > 0 || f.Kind == api.AtMost && order < 0 {
				result = api.True
			}
		}
	case api.Sub:
		if syntax > 2 {
			return api.Unknown
		}
		parts := partsByWords(f, syntax)
		for _, value := range values {
			if isMatch(parts, value, syntax) {
				result = api.True
			}
		}
	}
	return result
}

func (m model) check(t *testing.T, entry []api.Attr, f api.Filter) int {
	t.Helper()
	want := m.eval(entry, f, 1)
	if got := filter.Eval(m.made, entry, f); got != want {
		t.Errorf("Eval(%q, %+v): got %v, want %v", entry, f, got, want)
	}
	return want
}

// printByWords follows E3; level is 1 for the filter itself.
func printByWords(f api.Filter, level int) string {
	escapes := strings.NewReplacer("(", `\28`, ")", `\29`, "*", `\2a`, `\`, `\5c`, "\x00", `\00`)
	value := escapes.Replace(f.Value)
	kids := ""
	for i, kid := range f.Kids {
		if level <= 6 && (f.Kind != api.Not || i == 0) {
			kids += printByWords(kid, level+1)
		}
	}
	parts := escapes.Replace(f.First) + "*"
	for _, part := range f.Any {
		parts += escapes.Replace(part) + "*"
	}
	parts += escapes.Replace(f.Last)
	forms := []string{"(&" + kids + ")", "(|" + kids + ")", "(!" + kids + ")", "(" + f.Type + "=" + value + ")", "(" + f.Type + "=" + parts + ")", "(" + f.Type + ">=" + value + ")", "(" + f.Type + "<=" + value + ")", "(" + f.Type + "=*)"}
	if level > 6 || f.Kind < 0 || f.Kind > 7 {
		return "(?)"
	}
	return forms[f.Kind]
}

func checkPrint(t *testing.T, f api.Filter) {
	t.Helper()
	want := printByWords(f, 1)
	if got := filter.Print(f); got != want {
		t.Errorf("Print(%+v): got %q, want %q", f, got, want)
	}
}

// example is the schema of chapter 13's examples.
func example() api.Schema {
	return api.Schema{
		Types: []api.AttrType{{Name: "objectClass", Syntax: 1}, {Name: "cn", Syntax: 1}, {Name: "age", Syntax: 3, Single: true}, {Name: "dc", Syntax: 1}},
		Classes: []api.Class{
			{Name: "top"}, {Name: "person", Kind: 1, Sup: "top", Must: []string{"cn"}, May: []string{"age"}},
			{Name: "domain", Kind: 1, Sup: "top", Must: []string{"dc"}}, {Name: "aged", Kind: 2, Must: []string{"age"}},
		},
	}
}

// plenty is a schema with types of all syntaxes, some of them with names that begin others' names.
func plenty() api.Schema {
	return api.Schema{Types: []api.AttrType{
		{Name: "OBJECTclass", Syntax: 1}, {Name: "text", Syntax: 1}, {Name: "Exact", Syntax: 2}, {Name: "num-1", Syntax: 3, Single: true}, {Name: "boss", Syntax: 4},
		{Name: "FLAG", Syntax: 5, Sealed: true}, {Name: "k", Syntax: 1, Shared: true}, {Name: "text2", Syntax: 2, System: true}, {Name: "num", Syntax: 3},
	}}
}

// pool has values of a syntax, with faulty ones among them.
func pool(syntax int) []string {
	return map[int][]string{
		1: {"a", "A", "b", " a ", "a b", "A  B", "ab", "b a", "", " ", "z", "A\tb", "\xffA", "\u212a", "k", "a\x00", "(*)", strings.Repeat("a", 200), strings.Repeat("a", 201), strings.Repeat(" ", 201)},
		2: {"a", "A", "b", " a ", "a b", "A  B", "ab", "b a", "", " ", "z", "A\tb", "\xffA", "\u212a", "k", "a\x00", "(*)", strings.Repeat("a", 200), strings.Repeat("a", 201), strings.Repeat(" ", 201)},
		3: {"0", "1", "-1", "9", "12", "-9", "-12", "999999999", "-999999999", "1000000000", "007", "-0", "+1", "", " 1", "x"},
		4: {"", "cn=a", "CN=A", "cn= a", "cn=b", "cn=\\20a\\20", "cn=a,dc=x", "cn=A, dc=x", "CN=a,DC=X", "a=1+b=2", "B=2+A=1", "dc=x", "x", "cn=" + strings.Repeat("a", 198)},
		5: {"TRUE", "true", "True", "FALSE", "false", "yes", "", " TRUE", "TRUE ", "0"},
	}[syntax]
}

func attr(kind string, values ...string) api.Attr { return api.Attr{Type: kind, Values: values} }

func of(kind int, kids ...api.Filter) api.Filter { return api.Filter{Kind: kind, Kids: kids} }

func not(f api.Filter) api.Filter { return of(api.Not, f) }

func about(kind int, name, value string) api.Filter {
	return api.Filter{Kind: kind, Type: name, Value: value}
}

func sub(name, first, last string, middle ...string) api.Filter {
	return api.Filter{Kind: api.Sub, Type: name, First: first, Any: middle, Last: last}
}

// entry draws attributes of the types, of types that the schema has not, and some types twice.
func (r *draws) entry(m model) []api.Attr {
	var entry []api.Attr
	for range r.below(8) {
		kind := m.words.Types[r.below(len(m.words.Types))]
		name := r.cased(kind.Name)
		if r.one(10) {
			name = r.of("", " ", "none", name+" ", name+"x", "\u212a", name[1:])
		}
		entry = append(entry, attr(name, r.list(3, pool(kind.Syntax)...)...))
	}
	return entry
}

// leaf draws a filter that asks for a type.
func (r *draws) leaf(m model) api.Filter {
	kind := m.words.Types[r.below(len(m.words.Types))]
	if r.one(8) {
		kind = api.AttrType{Name: r.of("none", "", kind.Name+" ", "\u212a"), Syntax: 1 + r.below(5)}
	}
	f := about(3+r.below(5), r.cased(kind.Name), r.of(pool(kind.Syntax)...))
	if f.Kind == api.Sub || r.one(10) {
		f.First, f.Last = r.text(2, "aAb "), r.text(2, "aAb ")
		f.Any = r.list(2, allTexts(2, "aB ")...)
	}
	if r.one(30) {
		f.Kind = int(r.next()) - 1<<31
	}
	return f
}

// filter draws one of so many levels at most.
func (r *draws) filter(m model, levels int) api.Filter {
	if levels <= 1 || r.one(5) {
		return r.leaf(m)
	}
	f := api.Filter{Kind: r.below(3)}
	for range r.below(4) {
		f.Kids = append(f.Kids, r.filter(m, levels-1))
	}
	return f
}

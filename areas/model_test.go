package areas_test

import (
	"fmt"
	"regexp"
	"slices"
	"strconv"
	"strings"
	"testing"

	"palatine/api"
	"palatine/areas"
	"palatine/dn"
	"palatine/schema"
)

// draws is a fixed sequence of numbers, the same in every run.
type draws uint64

func (r *draws) next() uint32 {
	*r = *r*6364136223846793005 + 1442695040888963407
	return uint32(*r >> 32)
}

func (r *draws) below(n int) int { return int(r.next() % uint32(n)) }

// one reports true in one of n cases.
func (r *draws) one(n int) bool { return r.below(n) == 0 }

func (r *draws) of(texts ...string) string { return texts[r.below(len(texts))] }

// list is one of so many texts at most.
func (r *draws) list(most int, texts ...string) []string {
	var list []string
	for range r.below(most + 1) {
		list = append(list, r.of(texts...))
	}
	return list
}

// cased is a text of which some letters have changed their case.
func (r *draws) cased(s string) string {
	b := []byte(s)
	for i, c := range b {
		if letter := c | 32; 'a' <= letter && letter <= 'z' && r.one(2) {
			b[i] = c ^ 32
		}
	}
	return string(b)
}

// text is one of so many letters at most, out of the alphabet.
func (r *draws) text(most int, alphabet string) string {
	b := make([]byte, r.below(most+1))
	for i := range b {
		b[i] = alphabet[r.below(len(alphabet))]
	}
	return string(b)
}

func attr(kind string, values ...string) api.Attr { return api.Attr{Type: kind, Values: values} }

// named is the name of a text.
func named(s string) api.Dn {
	n, e := dn.Parse(s)
	if e != api.OK {
		panic(fmt.Sprintf("no name: %q", s))
	}
	return n
}

func names(texts ...string) []api.Dn {
	var all []api.Dn
	for _, s := range texts {
		all = append(all, named(s))
	}
	return all
}

var lowered = strings.NewReplacer(strings.Split("AaBbCcDdEeFfGgHhIiJjKkLlMmNnOoPpQqRrSsTtUuVvWwXxYyZz", "")...)

func sameName(a, b string) bool { return lowered.Replace(a) == lowered.Replace(b) }

var kind = regexp.MustCompile(`\A[A-Za-z][A-Za-z0-9-]{0,19}\z`)

func isRightByWords(x api.Spec) bool {
	if !dn.Right(x.Base) || x.Min < 0 || x.Min > 16 || x.Max < -1 || x.Max > 16 {
		return false
	}
	if len(x.Before) > 4 || len(x.After) > 4 || len(x.Classes) > 4 {
		return false
	}
	for _, n := range slices.Concat(x.Before, x.After) {
		if !dn.Right(n) || len(n) < 1 {
			return false
		}
	}
	for _, class := range x.Classes {
		if !kind.MatchString(class) {
			return false
		}
	}
	return len(textByWords(x)) <= 300
}

func textByWords(x api.Spec) string {
	list := []string{"base=" + dn.Print(x.Base)}
	if x.Min != 0 {
		list = append(list, fmt.Sprintf("min=%d", x.Min))
	}
	if x.Max != -1 {
		list = append(list, fmt.Sprintf("max=%d", x.Max))
	}
	for _, n := range x.Before {
		list = append(list, "before="+dn.Print(n))
	}
	for _, n := range x.After {
		list = append(list, "after="+dn.Print(n))
	}
	for _, class := range x.Classes {
		list = append(list, "class="+class)
	}
	return strings.Join(list, ";")
}

// form is what a text looks like in which each byte is a rune; what names are isn't looked at.
var form = regexp.MustCompile(strings.ReplaceAll(`(?s)\Abase=(N)(?:;min=([1-9]|1[0-6]))?(?:;max=([0-9]|1[0-6]))?((?:;before=N){0,4})((?:;after=N){0,4})((?:;class=[A-Za-z][A-Za-z0-9-]{0,19}){0,4})\z`, "N", `(?:[^;\\]|\\.)*`))

// chop is a part of such a text for an element of Before or After.
var chop = regexp.MustCompile(`(?s);(?:before|after)=((?:[^;\\]|\\.)*)`)

// wide is s with each byte as a rune.
func wide(s string) string {
	var runes []rune
	for i := range len(s) {
		runes = append(runes, rune(s[i]))
	}
	return string(runes)
}

// narrow is s with each rune as a byte.
func narrow(s string) string {
	var b []byte
	for _, r := range s {
		b = append(b, byte(r))
	}
	return string(b)
}

// parseByWords is the specification that s is the text of, and whether there is one.
func parseByWords(s string) (x api.Spec, ok bool) {
	found := form.FindStringSubmatch(wide(s))
	if found == nil || len(s) > 300 {
		return api.Spec{}, false
	}
	x.Base, ok = nameByWords(found[1])
	fmt.Sscan(found[2], &x.Min)
	x.Max = -1
	fmt.Sscan(found[3], &x.Max)
	for _, part := range chop.FindAllStringSubmatch(found[4], -1) {
		n, right := nameByWords(part[1])
		ok = ok && right && len(n) > 0
		x.Before = append(x.Before, n)
	}
	for _, part := range chop.FindAllStringSubmatch(found[5], -1) {
		n, right := nameByWords(part[1])
		ok = ok && right && len(n) > 0
		x.After = append(x.After, n)
	}
	for _, text := range strings.Split(found[6], ";class=")[1:] {
		x.Classes = append(x.Classes, text)
	}
	return x, ok
}

// nameByWords is the valid name that s, with a rune for each byte, is the text of.
func nameByWords(s string) (api.Dn, bool) {
	n, e := dn.Parse(narrow(s))
	return n, e == api.OK && dn.Right(n) && dn.Print(n) == narrow(s)
}

// shown tells values apart, but not nil from empty lists.
func shown(x any) string { return strings.ReplaceAll(fmt.Sprintf("%#v", x), "(nil)", "{}") }

func checkSpec(t *testing.T, x api.Spec) bool {
	t.Helper()
	want := isRightByWords(x)
	if got := areas.Right(x); got != want {
		t.Errorf("Right(%+v): got %v", x, got)
	}
	text := textByWords(x)
	if got := areas.Print(x); got != text {
		t.Errorf("Print(%+v): got %q, want %q", x, got, text)
	}
	if got, e := areas.Parse(text); want && (e != api.OK || shown(got) != shown(x)) {
		t.Errorf("Parse(%q): got %+v %v", text, got, e)
	}
	checkText(t, text)
	return want
}

func checkText(t *testing.T, s string) bool {
	t.Helper()
	x, ok := parseByWords(s)
	e := api.ErrSpec
	if ok {
		e = api.OK
	} else {
		x = api.Spec{}
	}
	if got, gotE := areas.Parse(s); gotE != e || shown(got) != shown(x) {
		t.Errorf("Parse(%q): got %+v %v, want %+v %v", s, got, gotE, x, e)
	}
	return ok
}

// steps are those of a name from the last one on, as they are compared.
func steps(n api.Dn) []string {
	var list []string
	for _, step := range dn.Norm(n) {
		text := ""
		for _, ava := range step {
			text += strconv.Quote(ava.Type) + strconv.Quote(ava.Value)
		}
		list = append(list, text)
	}
	slices.Reverse(list)
	return list
}

// isUnder reports whether one list begins with another one.
func isUnder(name, base []string) bool {
	return len(name) >= len(base) && slices.Equal(name[:len(base)], base)
}

func meansByWords(s *schema.Schema, point api.Dn, x api.Spec, name api.Dn, entry []api.Attr) bool {
	base, asked := append(steps(point), steps(x.Base)...), steps(name)
	if !isUnder(asked, base) || len(asked)-len(base) < x.Min || x.Max >= 0 && len(asked)-len(base) > x.Max {
		return false
	}
	for _, n := range x.Before {
		if isUnder(asked, slices.Concat(base, steps(n))) {
			return false
		}
	}
	for _, n := range x.After {
		if chop := slices.Concat(base, steps(n)); isUnder(asked, chop) && !slices.Equal(asked, chop) {
			return false
		}
	}
	of := 0
	for _, class := range x.Classes {
		if s.IsA(entry, class) {
			of++
		}
	}
	return len(x.Classes) == 0 || of > 0
}

func checkMeans(t *testing.T, s *schema.Schema, point api.Dn, x api.Spec, name api.Dn, entry []api.Attr) bool {
	t.Helper()
	want := meansByWords(s, point, x, name, entry)
	if got := areas.Means(s, point, x, name, entry); got != want {
		t.Errorf("Means(%q, %+v, %q, %q): got %v", point, x, name, entry, got)
	}
	return want
}

func isShared(s *schema.Schema, name string) bool {
	x, ok := s.Type(name)
	return ok && x.Shared
}

func excludedByWords(entry []api.Attr, name string) bool {
	for _, a := range entry {
		if !sameName(a.Type, "sharedExclusions") {
			continue
		}
		for _, value := range a.Values {
			if sameName(value, "all") || sameName(value, name) {
				return true
			}
		}
		return false
	}
	return false
}

// mergeByWords keeps a list of what is shared: for each value, of what attribute it is and its norm.
func mergeByWords(s *schema.Schema, name api.Dn, entry []api.Attr, subs []api.Subentry) []api.Attr {
	var all, shared []api.Attr
	for _, a := range entry {
		if !isShared(s, a.Type) {
			all = append(all, a)
		}
	}
	for _, sub := range subs {
		for _, a := range sub.Attrs {
			if !meansByWords(s, sub.Point, sub.Spec, name, entry) || !isShared(s, a.Type) || excludedByWords(entry, a.Type) {
				continue
			}
			for _, value := range a.Values {
				shared = addByWords(s, shared, a.Type, value)
			}
		}
	}
	return append(all, shared...)
}

func addByWords(s *schema.Schema, shared []api.Attr, name, value string) []api.Attr {
	norm, e := s.Norm(name, value)
	if e != api.OK {
		return shared
	}
	for i, a := range shared {
		if !sameName(a.Type, name) {
			continue
		}
		for _, other := range a.Values {
			if there, _ := s.Norm(name, other); there == norm {
				return shared
			}
		}
		shared[i].Values = append(a.Values, value)
		return shared
	}
	return append(shared, attr(name, value))
}

func checkMerge(t *testing.T, s *schema.Schema, name api.Dn, entry []api.Attr, subs ...api.Subentry) []api.Attr {
	t.Helper()
	want := mergeByWords(s, name, entry, subs)
	got := areas.Merge(s, name, entry, subs...)
	if shown(got) != shown(want) {
		t.Errorf("Merge(%q, %q, %+v): got %q, want %q", name, entry, subs, got, want)
	}
	return got
}

func made(t *testing.T, words api.Schema) *schema.Schema {
	t.Helper()
	s, e := schema.New(words)
	if s == nil || e != api.OK {
		t.Fatalf("New(%v): %v", words, e)
	}
	return s
}

// plenty is a schema with shared and own types of all syntaxes, and classes in a line.
func plenty() api.Schema {
	return api.Schema{
		Types: []api.AttrType{
			{Name: "objectClass", Syntax: 1}, {Name: "cn", Syntax: 1}, {Name: "City", Syntax: 1, Shared: true}, {Name: "code", Syntax: 2, Shared: true}, {Name: "floor", Syntax: 3, Single: true, Shared: true},
			{Name: "boss", Syntax: 4, Shared: true, Sealed: true}, {Name: "open", Syntax: 5, Shared: true, System: true}, {Name: "note", Syntax: 2}, {Name: "sharedExclusions", Syntax: 1}, {Name: "K", Syntax: 1, Shared: true}, {Name: "zip", Syntax: 2, Shared: true},
		},
		Classes: []api.Class{{Name: "top"}, {Name: "person", Kind: 1, Sup: "top"}, {Name: "member", Kind: 1, Sup: "person"}, {Name: "place", Kind: 1}, {Name: "known", Kind: 2}},
	}
}

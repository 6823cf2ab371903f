package schema_test

import (
	"math"
	"reflect"
	"strconv"
	"strings"
	"sync"
	"testing"

	"palatine/api"
	"palatine/schema"
)

// wrongNames are no names of types or classes.
func wrongNames() []string {
	return []string{"", " ", "1", "-", "1a", "-a", "a_", " a", "a ", "a=", "a.b", "é", "aé", "a\u212a", "ſ", "a\xff", "a\x00", "objectClass\x00", strings.Repeat("q", 21), strings.Repeat("q", 4000)}
}

func TestJ1Right(t *testing.T) {
	for _, s := range []api.Schema{
		example(), plenty(),
		{Types: []api.AttrType{{Name: "objectClass", Syntax: 1}}},
		{Types: []api.AttrType{{Name: "OBJECTCLASS", Syntax: 1}}, Classes: []api.Class{{Name: "objectclass", Must: []string{"objectClass", "ObjectClass"}, May: []string{"OBJECTCLASS"}}}},
		{Types: []api.AttrType{{Name: "objectclass", Syntax: 1}, {Name: strings.Repeat("z", 20), Syntax: 5}}, Classes: []api.Class{{Name: "Z" + strings.Repeat("-", 19)}}},
	} {
		if !checkNew(t, s) {
			t.Errorf("%v isn't valid", s)
		}
	}
}

func TestJ1Wrong(t *testing.T) {
	for _, s := range []api.Schema{
		{},
		{Types: []api.AttrType{}, Classes: []api.Class{}},
		{Types: []api.AttrType{{}}},
		{Types: []api.AttrType{{Name: "cn", Syntax: 1}}},
		{Types: []api.AttrType{{Name: "cn", Syntax: 1}, {Name: "objectClass", Syntax: 1}}},
		{Types: []api.AttrType{{Name: "objectClas", Syntax: 1}}},
		{Types: []api.AttrType{{Name: "objectClass ", Syntax: 1}}},
		{Types: []api.AttrType{{Name: "objectClaſs", Syntax: 1}}},
		{Classes: []api.Class{{Name: "top"}}},
	} {
		if checkNew(t, s) {
			t.Errorf("%v is valid", s)
		}
	}
}

func TestJ1Counts(t *testing.T) {
	for types := range 45 {
		for classes := range 25 {
			var s api.Schema
			for i := range types {
				s.Types = append(s.Types, api.AttrType{Name: "t" + strconv.Itoa(i), Syntax: 1 + i%5})
			}
			if types > 0 {
				s.Types[0] = api.AttrType{Name: "objectClass", Syntax: 1}
			}
			for i := range classes {
				s.Classes = append(s.Classes, api.Class{Name: "c" + strconv.Itoa(i), Kind: i % 3})
			}
			if got := checkNew(t, s); got != (types >= 1 && types <= 40 && classes <= 20) {
				t.Errorf("%d types, %d classes: %v", types, classes, got)
			}
		}
	}
	long := make([]api.AttrType, 1<<20)
	long[0] = api.AttrType{Name: "objectClass", Syntax: 1}
	checkNew(t, api.Schema{Types: long})
	checkNew(t, api.Schema{Types: long[:1], Classes: make([]api.Class, 1<<20)})
}

// TestJ1FirstType: each thing that the first type must be or not be, alone and together with others.
func TestJ1FirstType(t *testing.T) {
	for flags := range 16 {
		for syntax := range 7 {
			for _, name := range []string{"objectClass", "OBJECTCLASS", "cn"} {
				s := plenty()
				s.Types[0] = api.AttrType{Name: name, Syntax: syntax, Single: flags&1 > 0, Sealed: flags&2 > 0, System: flags&4 > 0, Shared: flags&8 > 0}
				s.Classes[1].Must = nil
				if got := checkNew(t, s); got != (flags == 0 && syntax == 1 && name != "cn") {
					t.Errorf("%v: %v", s.Types[0], got)
				}
			}
		}
	}
}

// TestJ1OtherTypes: other types may have all flags, and all syntaxes from 1 to 5.
func TestJ1OtherTypes(t *testing.T) {
	for at := 1; at < len(plenty().Types); at++ {
		for _, syntax := range []int{math.MinInt, -1, 0, 1, 2, 3, 4, 5, 6, 7, 255, 256, 257, 1<<32 + 1, math.MaxInt} {
			s := plenty()
			s.Types[at] = api.AttrType{Name: s.Types[at].Name, Syntax: syntax, Single: true, Sealed: true, System: true, Shared: true}
			if got := checkNew(t, s); got != (syntax >= 1 && syntax <= 5) {
				t.Errorf("type %d, syntax %d: %v", at, syntax, got)
			}
		}
	}
}

func TestJ1Names(t *testing.T) {
	for _, wrong := range wrongNames() {
		for at := range plenty().Types {
			s := api.Schema{Types: plenty().Types}
			s.Types[at].Name = wrong
			if checkNew(t, s) {
				t.Errorf("type %d named %q", at, wrong)
			}
		}
		for at := range plenty().Classes {
			s := plenty()
			for i := range s.Classes {
				s.Classes[i].Sup = ""
			}
			s.Classes[at].Name = wrong
			if checkNew(t, s) {
				t.Errorf("class %d named %q", at, wrong)
			}
		}
	}
}

// TestJ1SameNames: each pair of types and of classes with one name, in several cases; but types and classes may share names.
func TestJ1SameNames(t *testing.T) {
	r := draws(1)
	for range 3 {
		for i := range 10 {
			for j := range 10 {
				var s api.Schema
				for at := range 10 {
					s.Types = append(s.Types, api.AttrType{Name: "t" + strconv.Itoa(at), Syntax: 1})
					s.Classes = append(s.Classes, api.Class{Name: "T" + strconv.Itoa(at)})
				}
				s.Types[0].Name, s.Classes[9].Name = "objectClass", "objectClass"
				if !checkNew(t, s) {
					t.Fatal("the same names in both lists")
				}
				s.Classes[i].Name = r.cased(s.Classes[j].Name)
				if checkNew(t, s) != (i == j) {
					t.Errorf("classes %d and %d", i, j)
				}
				s.Classes = nil
				s.Types[i].Name = r.cased(s.Types[j].Name)
				if checkNew(t, s) != (i == j) {
					t.Errorf("types %d and %d", i, j)
				}
			}
		}
	}
}

func TestJ1Kinds(t *testing.T) {
	for at := range example().Classes {
		for _, kind := range []int{math.MinInt, -2, -1, 0, 1, 2, 3, 4, 256, 1 << 32, math.MaxInt} {
			s := example()
			for i := range s.Classes {
				s.Classes[i].Sup = ""
			}
			s.Classes[at].Kind = kind
			if got := checkNew(t, s); got != (kind >= 0 && kind <= 2) {
				t.Errorf("class %d, kind %d: %v", at, kind, got)
			}
		}
	}
}

// TestJ1Sups: classes of all kinds above and below one another, ahead and behind.
func TestJ1Sups(t *testing.T) {
	for kinds := range 81 {
		for at := range 4 {
			for _, sup := range []string{"", "a", "B", "c", "D", "e", " a", "a ", "\u212a", "cn", "objectClass"} {
				s := example()
				s.Classes = []api.Class{{Name: "A", Kind: kinds % 3}, {Name: "b", Kind: kinds / 3 % 3}, {Name: "c", Kind: kinds / 9 % 3}, {Name: "d", Kind: kinds / 27}}
				s.Classes[at].Sup = sup
				above := strings.Index("abcd", strings.ToLower(sup))
				right := sup == "" || above >= 0 && above < at && (s.Classes[above].Kind == 0 || s.Classes[above].Kind == s.Classes[at].Kind)
				if got := checkNew(t, s); got != right {
					t.Errorf("%v: %v", s.Classes, got)
				}
			}
		}
	}
	s := example()
	s.Classes = []api.Class{{Name: "k"}, {Name: "l", Sup: "\u212a"}}
	if checkNew(t, s) {
		t.Error("a letter beyond ASCII in the name of a superclass")
	}
}

// TestJ1Lists: Must and May name types, however often.
func TestJ1Lists(t *testing.T) {
	names := append(wrongNames(), "cn", "CN", "aGe", "objectclass", "person", "top", "none", "cn ", "\u212a")
	for at := range example().Classes {
		for _, name := range names {
			right := strings.Contains(" cn CN aGe objectclass ", " "+name+" ") && name != ""
			for _, list := range [][]string{{name}, {"cn", name}, {name, "dc"}, {"cn", "CN", "cn", name, "age"}} {
				s, other := example(), example()
				s.Classes[at].Must, other.Classes[at].May = list, list
				if checkNew(t, s) != right || checkNew(t, other) != right {
					t.Errorf("class %d with %q", at, list)
				}
			}
		}
	}
	s := example()
	for range 10000 {
		s.Classes[1].May = append(s.Classes[1].May, "cn", "DC")
	}
	if checkNew(t, s); newSchema(t, s).Check([]api.Attr{attr("objectClass", "person"), attr("cn", "A"), attr("dc", "x")}) != api.OK {
		t.Error("a long list")
	}
	s.Classes[1].May = append(s.Classes[1].May, "x")
	checkNew(t, s)
}

// TestJ1Drawn: schemas that are valid, and that have been changed in a few places.
func TestJ1Drawn(t *testing.T) {
	r := draws(2)
	right := 0
	for range 20000 {
		s := r.schema()
		for range r.below(3) {
			r.spoil(&s)
		}
		if checkNew(t, s) {
			right++
		}
	}
	if right < 5000 || right > 17000 {
		t.Errorf("%d valid schemas", right)
	}
}

func TestJ1Lookup(t *testing.T) {
	r := draws(3)
	letters := api.Schema{Types: example().Types, Classes: []api.Class{{Name: "abcdefghijklmnopqrst"}, {Name: "UVWXYZ-0123456789"}}}
	letters.Types = append(letters.Types, api.AttrType{Name: "ABCDEFGHIJKLMNOPQRST", Syntax: 1}, api.AttrType{Name: "uvwxyz-0123456789", Syntax: 2})
	for _, words := range []api.Schema{example(), plenty(), r.schema(), r.schema(), full(), letters} {
		s := newSchema(t, words)
		for _, kind := range words.Types {
			for _, name := range []string{kind.Name, strings.ToLower(kind.Name), strings.ToUpper(kind.Name), r.cased(kind.Name)} {
				if got, ok := s.Type(name); !ok || got != kind {
					t.Errorf("Type(%q): %v, %v", name, got, ok)
				}
			}
		}
		for _, class := range words.Classes {
			for _, name := range []string{class.Name, strings.ToLower(class.Name), strings.ToUpper(class.Name), r.cased(class.Name)} {
				if got, ok := s.Class(name); !ok || !isSameClass(got, class) {
					t.Errorf("Class(%q): %v, %v", name, got, ok)
				}
			}
		}
	}
}

func isSameClass(a, b api.Class) bool {
	lists := func(c api.Class) []any {
		return []any{c.Name, c.Kind, c.Sup, append([]string{}, c.Must...), append([]string{}, c.May...)}
	}
	return reflect.DeepEqual(lists(a), lists(b))
}

// TestJ1NoSuch: what is near to a name, but not that name.
func TestJ1NoSuch(t *testing.T) {
	s := newSchema(t, plenty())
	names := append(wrongNames(), "none", "objectClas", "objectClasss", "tex", "text ", " text", "te xt", "text\x00", "texts", "b", "num1", "num-", "ſys", "o\u212ae", "FLAG,", "TOP ", "\xfftop")
	for _, name := range names {
		if got, ok := s.Type(name); ok || got != (api.AttrType{}) {
			t.Errorf("Type(%q): %v, %v", name, got, ok)
		}
		if got, ok := s.Class(name); ok || !isSameClass(got, api.Class{}) {
			t.Errorf("Class(%q): %v, %v", name, got, ok)
		}
	}
	if _, ok := s.Type("top"); ok {
		t.Error("a class is no type")
	}
	if _, ok := s.Class("boss"); ok {
		t.Error("a type is no class")
	}
	none := newSchema(t, api.Schema{Types: example().Types})
	if got, ok := none.Class("top"); ok || !isSameClass(got, api.Class{}) {
		t.Errorf("without classes: %v, %v", got, ok)
	}
	k := newSchema(t, api.Schema{Types: []api.AttrType{{Name: "objectClass", Syntax: 1}, {Name: "k", Syntax: 1}, {Name: "s", Syntax: 1}}, Classes: []api.Class{{Name: "k"}, {Name: "S"}}})
	for _, name := range []string{"\u212a", "ſ", "Ｋ", "{", "\x0b", "\x13"} {
		if _, ok := k.Type(name); ok {
			t.Errorf("Type(%q)", name)
		}
		if _, ok := k.Class(name); ok {
			t.Errorf("Class(%q)", name)
		}
	}
}

// TestJ1FirstUse: each method may be the first one that is called.
func TestJ1FirstUse(t *testing.T) {
	person := []api.Attr{attr("objectClass", "person"), attr("cn", "A")}
	for i, use := range []func(*schema.Schema) bool{
		func(s *schema.Schema) bool { _, ok := s.Type("CN"); return ok },
		func(s *schema.Schema) bool { _, ok := s.Class("TOP"); return ok },
		func(s *schema.Schema) bool { norm, e := s.Norm("cn", " A"); return norm == "a" && e == api.OK },
		func(s *schema.Schema) bool { n, e := s.Compare("age", "9", "10"); return n == -1 && e == api.OK },
		func(s *schema.Schema) bool { return s.Check(person) == api.OK },
		func(s *schema.Schema) bool { return s.IsA(person, "top") },
		func(s *schema.Schema) bool { _, ok := s.Type("none"); return !ok },
		func(s *schema.Schema) bool { return !s.IsA(nil, "top") && s.Check(nil) == api.ErrClass },
	} {
		s := newSchema(t, example())
		if !use(s) || !use(s) {
			t.Errorf("use %d", i)
		}
	}
}

// TestJ1UsesAtOnce: many may be the first at the same time.
func TestJ1UsesAtOnce(t *testing.T) {
	person := []api.Attr{attr("objectClass", "person"), attr("cn", "A")}
	for range 200 {
		s := newSchema(t, example())
		var group sync.WaitGroup
		wrong := make([]bool, 8)
		for i := range wrong {
			group.Go(func() { wrong[i] = s.Check(person) != api.OK || !s.IsA(person, "TOP") })
		}
		group.Wait()
		for i := range wrong {
			if wrong[i] {
				t.Fatal("a wrong answer")
			}
		}
	}
}

// TestR5Arguments: what is done to an argument or a result reaches neither the schema nor another result.
func TestR5Arguments(t *testing.T) {
	given, names := example(), []string{"cn", "age"}
	given.Classes[1].Must, given.Classes[1].May = names[:1], names
	s := newSchema(t, given)
	names[0], names[1] = "x", "y"
	given.Types[1].Name, given.Classes[0].Name, given.Classes[2] = "x", "x", api.Class{}
	entry := []api.Attr{attr("objectClass", "person"), attr("cn", "A"), attr("age", "1")}
	if s.Check(entry) != api.OK || !s.IsA(entry, "top") {
		t.Error("the argument is kept")
	}
	for range 3 {
		c, ok := s.Class("person")
		if !ok || !isSameClass(c, api.Class{Name: "person", Kind: 1, Sup: "top", Must: []string{"cn"}, May: []string{"cn", "age"}}) {
			t.Fatalf("got %v", c)
		}
		if c.Must = append(c.Must[:0], "u", "v"); c.May[0] != "cn" || c.May[1] != "age" {
			t.Errorf("the lists share memory: %v", c)
		}
		c.May[0], c.May[1] = "u", "v"
	}
	if s.Check(entry) != api.OK || !reflect.DeepEqual(entry, []api.Attr{attr("objectClass", "person"), attr("cn", "A"), attr("age", "1")}) {
		t.Errorf("got %v", entry)
	}
}

// TestR5Unchanged: New leaves its argument as it is.
func TestR5Unchanged(t *testing.T) {
	given := plenty()
	s := newSchema(t, given)
	s.Check([]api.Attr{attr("OBJECTCLASS", " PERSON", "MARKED"), attr("TEXT", " A ")})
	if !reflect.DeepEqual(given, plenty()) {
		t.Errorf("got %v", given)
	}
}

// TestR4Nil: a nil slice and an empty one are the same.
func TestR4Nil(t *testing.T) {
	s := api.Schema{Types: []api.AttrType{{Name: "objectClass", Syntax: 1}}, Classes: []api.Class{{Name: "a", Kind: 1, Must: []string{}, May: nil}, {Name: "b", Kind: 1, Must: nil, May: []string{}}}}
	made := newSchema(t, s)
	for _, name := range []string{"a", "b"} {
		if c, ok := made.Class(name); !ok || len(c.Must) > 0 || len(c.May) > 0 {
			t.Errorf("got %v", c)
		}
		if e := made.Check([]api.Attr{attr("objectClass", name)}); e != api.OK {
			t.Errorf("Check: %v", e)
		}
	}
	for _, none := range [][]api.Attr{nil, {}, {{Type: "objectClass"}}, {{Type: "objectClass", Values: []string{}}}} {
		if made.IsA(none, "a") || made.Check(none) == api.OK {
			t.Errorf("%#v", none)
		}
	}
}

// TestR6Schemas: schemas beside one another don't touch each other.
func TestR6Schemas(t *testing.T) {
	a, b := newSchema(t, example()), newSchema(t, plenty())
	for range 2 {
		if _, ok := a.Type("boss"); ok {
			t.Error("a type of another schema")
		}
		if _, ok := b.Class("domain"); ok {
			t.Error("a class of another schema")
		}
		checkNorm(t, a, example(), "CN", "A")
		checkNorm(t, b, plenty(), "TEXT", "A")
	}
}

package schema_test

import (
	"slices"
	"strconv"
	"strings"
	"testing"

	"palatine/api"
	"palatine/schema"
)

// check is a call of Check and what it returns.
type check struct {
	want  api.Errno
	entry []api.Attr
}

func checkAll(t *testing.T, words api.Schema, checks ...check) {
	t.Helper()
	s := newSchema(t, words)
	for _, x := range checks {
		if e := s.Check(x.entry); e != x.want {
			t.Errorf("Check(%q): got %v, want %v", x.entry, e, x.want)
		}
		checkEntry(t, s, words, x.entry)
	}
}

func TestJ3Examples(t *testing.T) {
	person, a := attr("objectClass", "person"), attr("cn", "A")
	checkAll(t, example(),
		check{api.OK, []api.Attr{person, a}},
		check{api.ErrClass, []api.Attr{attr("objectClass", "person", "domain"), a, attr("dc", "x")}},
		check{api.ErrClass, []api.Attr{attr("objectClass", "top"), a}},
		check{api.ErrMust, []api.Attr{person}},
		check{api.ErrMay, []api.Attr{person, a, attr("dc", "x")}},
		check{api.ErrSingle, []api.Attr{person, a, attr("age", "1", "2")}},
	)
	if s := newSchema(t, example()); !s.IsA([]api.Attr{person}, "TOP") {
		t.Error("a person is no top")
	}
}

// TestJ3Attrs: each attribute by itself, behind others and ahead of others.
func TestJ3Attrs(t *testing.T) {
	kinds, text := attr("objectClass", "thing"), attr("text", "x")
	long := strings.Repeat(" ", 200)
	for _, x := range []struct {
		want api.Errno
		attr api.Attr
	}{
		{api.ErrType, attr("none", "x")}, {api.ErrType, attr("")}, {api.ErrType, attr("TEXT", "x")}, {api.ErrType, attr("text")}, {api.ErrType, attr("OBJECTclass", "thing")}, {api.ErrType, attr("sys ", "x")}, {api.ErrType, attr("sy\u017f", "x")},
		{api.ErrSyntax, attr("sys")}, {api.ErrSyntax, attr("sysOne")}, {api.ErrSyntax, attr("one")}, {api.ErrSyntax, attr("exact")},
		{api.ErrSyntax, attr("sysone", "x")}, {api.ErrSyntax, attr("sysone", "1", "x")}, {api.ErrSyntax, attr("sysone", "1", "1")}, {api.ErrSingle, attr("sysone", "1", "-1")}, {api.ErrSingle, attr("sysone", "1", "2", "3")}, {api.ErrSyntax, attr("sysone", "1", "2", "2")}, {api.ErrSyntax, attr("sysone", "1", "2", "02")},
		{api.ErrSyntax, attr("sys", "x", "x")}, {api.ErrSyntax, attr("sys", "", "")}, {api.OK, attr("sys", "x", "X", "", " ", "x ")}, {api.OK, attr("SYS", strings.Repeat("x", 200))}, {api.ErrSyntax, attr("sys", strings.Repeat("x", 201))}, {api.OK, attr("SysOne", "-7")},
		{api.ErrSingle, attr("one", "a", "b")}, {api.ErrSyntax, attr("one", "a", " A")}, {api.ErrSyntax, attr("one", " ")}, {api.ErrSyntax, attr("one", "a", "")}, {api.ErrSyntax, attr("one", "a", long+"b")}, {api.ErrMay, attr("one", "a")},
		{api.ErrSyntax, attr("boss", "a=1+b=2", "B=2+A=1")}, {api.ErrSyntax, attr("boss", "", "")}, {api.ErrMay, attr("boss", "a=1", "")}, {api.ErrSyntax, attr("flag", "true", "TRUE")}, {api.ErrMay, attr("flag", "true", "FALSE")}, {api.ErrSyntax, attr("flag", "true", "FALSE", "maybe")},
		{api.ErrSyntax, attr("num-1", "1", "1")}, {api.ErrMay, attr("num-1", "1", "-1", "0")}, {api.OK, attr("a", "x", "y")}, {api.OK, attr("A", "")},
	} {
		checkAll(t, plenty(), check{x.want, []api.Attr{kinds, text, x.attr}}, check{x.want, []api.Attr{text, kinds, x.attr}})
		if x.want != api.ErrType {
			checkAll(t, plenty(), check{x.want, []api.Attr{x.attr, kinds, text}}, check{x.want, []api.Attr{kinds, x.attr, text}})
		}
	}
}

// TestJ3ObjectClassValues: objectClass is an attribute like others ahead of all that is said of classes.
func TestJ3ObjectClassValues(t *testing.T) {
	text := attr("text", "x")
	blanks := strings.Repeat(" ", 195)
	checkAll(t, plenty(),
		check{api.OK, []api.Attr{attr("OBJECTCLASS", " THING"), text}},
		check{api.OK, []api.Attr{attr("objectClass", "top", "base", "thing"), text}},
		check{api.OK, []api.Attr{attr("objectClass", "thing"+blanks), text}},
		check{api.ErrSyntax, []api.Attr{attr("objectClass", "thing"+blanks+" "), text}},
		check{api.ErrSyntax, []api.Attr{attr("objectClass"), text}},
		check{api.ErrSyntax, []api.Attr{attr("objectClass", ""), text}},
		check{api.ErrSyntax, []api.Attr{attr("objectClass", "thing", " Thing "), text}},
		check{api.ErrSyntax, []api.Attr{attr("objectClass", "none", "none"), text}},
		check{api.ErrSyntax, []api.Attr{attr("objectClass", "none"), attr("text", " ")}},
		check{api.ErrClass, []api.Attr{attr("objectClass", "none"), text}},
		check{api.ErrClass, []api.Attr{attr("objectClass", "thing", "none"), text}},
		check{api.ErrClass, []api.Attr{attr("objectClass", "none", "thing"), text}},
		check{api.ErrClass, []api.Attr{attr("objectClass", "thing", "th ing"), text}},
		check{api.ErrClass, []api.Attr{attr("objectClass", "thing", "boss"), text}},
		check{api.ErrClass, []api.Attr{attr("objectClass", "thing", "bas\u00e9"), text}},
		check{api.ErrClass, []api.Attr{attr("objectClass", "thing", "thing\x00"), text}},
		check{api.ErrClass, []api.Attr{attr("objectClass", "thing", "ba\u017fe"), text}},
		check{api.ErrClass, []api.Attr{attr("objectClass", "thing", strings.Repeat("x", 200)), text}},
		check{api.ErrClass, nil}, check{api.ErrClass, []api.Attr{}}, check{api.ErrClass, []api.Attr{text}}, check{api.ErrClass, []api.Attr{attr("sys", "x")}},
	)
}

// TestJ3Lines: which classes may come together.
func TestJ3Lines(t *testing.T) {
	rest := []api.Attr{attr("text", "x"), attr("num-1", "1"), attr("flag", "TRUE"), attr("sysone", "1")}
	for _, x := range []struct {
		want  api.Errno
		kinds string
	}{
		{api.OK, "child"}, {api.OK, "child person thing base top"}, {api.OK, "top thing child"}, {api.OK, "CHILD THING"}, {api.OK, "person child"}, {api.OK, "child marked"}, {api.OK, "marked mixed person child text"}, {api.OK, "child text"},
		{api.ErrClass, "top"}, {api.ErrClass, "top base"}, {api.ErrClass, "mixed"}, {api.ErrClass, "marked text top"}, {api.ErrClass, "text"},
		{api.ErrClass, "child pet"}, {api.ErrClass, "pet child"}, {api.ErrClass, "person pet"}, {api.ErrClass, "pet thing person"}, {api.ErrClass, "lone thing"}, {api.ErrClass, "thing lone"}, {api.ErrClass, "lone pet"}, {api.ErrClass, "child lone marked"}, {api.ErrClass, "person pet lone child"},
		{api.ErrMay, "thing"}, {api.ErrMay, "person"}, {api.ErrMay, "pet"}, {api.ErrMay, "lone"}, {api.OK, "pet marked"}, {api.ErrMay, "lone text"}, {api.OK, "thing pet marked"},
	} {
		kinds := strings.Split(x.kinds, " ")
		checkAll(t, plenty(), check{x.want, append([]api.Attr{attr("objectClass", kinds...)}, rest...)})
		slices.Reverse(kinds)
		checkAll(t, plenty(), check{x.want, append(slices.Clone(rest), attr("objectClass", kinds...))})
	}
}

// TestJ3AllClasses: all sets of three classes, with the types that they ask for.
func TestJ3AllClasses(t *testing.T) {
	words := plenty()
	s, seen := newSchema(t, words), map[api.Errno]int{}
	for _, a := range words.Classes {
		for _, b := range words.Classes {
			for _, c := range words.Classes {
				kinds := slices.Compact([]string{a.Name, b.Name, c.Name})
				entry := []api.Attr{attr("objectClass", kinds...)}
				seen[checkEntry(t, s, words, entry)]++
				for _, more := range []api.Attr{attr("text", "x"), attr("num-1", "1"), attr("flag", "TRUE"), attr("sysone", "1"), attr("exact", "x")} {
					entry = append(entry, more)
					seen[checkEntry(t, s, words, entry)]++
				}
			}
		}
	}
	for _, e := range []api.Errno{api.OK, api.ErrSyntax, api.ErrClass, api.ErrMust, api.ErrMay} {
		if seen[e] < 20 {
			t.Errorf("%v: %d times", e, seen[e])
		}
	}
}

// TestJ3MustMay: each class of a line asks for and permits types, and so do the auxiliary ones and their superclasses.
func TestJ3MustMay(t *testing.T) {
	text, num, flag, sysone := attr("Text", "x"), attr("num-1", "1"), attr("FLAG", "true"), attr("sysone", "1")
	kinds := func(names ...string) api.Attr { return attr("objectClass", names...) }
	checkAll(t, plenty(),
		check{api.OK, []api.Attr{kinds("thing"), text}}, check{api.ErrMust, []api.Attr{kinds("thing")}}, check{api.ErrMust, []api.Attr{kinds("person")}}, check{api.OK, []api.Attr{kinds("person"), text}},
		check{api.ErrMust, []api.Attr{kinds("child"), text}}, check{api.ErrMust, []api.Attr{kinds("child"), num}}, check{api.OK, []api.Attr{kinds("child"), num, text}},
		check{api.ErrMust, []api.Attr{kinds("child"), attr("a", "x"), attr("exact", "x")}}, check{api.ErrMust, []api.Attr{kinds("person", "marked"), text}}, check{api.OK, []api.Attr{kinds("person", "marked"), flag, text}},
		check{api.ErrMust, []api.Attr{kinds("person", "text"), text}}, check{api.OK, []api.Attr{kinds("person", "text"), text, sysone}}, check{api.ErrMust, []api.Attr{kinds("person", "text"), sysone}},
		check{api.OK, []api.Attr{kinds("person"), text, attr("boss", ""), attr("one", "x"), attr("A", "x")}}, check{api.OK, []api.Attr{kinds("child"), text, num, attr("boss", ""), attr("one", "x"), flag}},
		check{api.ErrMay, []api.Attr{kinds("person"), text, flag}}, check{api.ErrMay, []api.Attr{kinds("person"), text, num}}, check{api.ErrMay, []api.Attr{kinds("person"), text, attr("exact", "x")}}, check{api.OK, []api.Attr{kinds("person", "mixed"), text, attr("exact", "x")}},
		check{api.OK, []api.Attr{kinds("lone")}}, check{api.OK, []api.Attr{kinds("lone"), sysone, attr("sys", "x")}}, check{api.ErrMay, []api.Attr{kinds("lone"), attr("a", "x")}}, check{api.OK, []api.Attr{kinds("lone", "top"), attr("a", "x")}}, check{api.ErrMay, []api.Attr{kinds("lone"), text}},
		check{api.OK, []api.Attr{kinds("pet"), text, num, attr("exact", "")}},
	)
}

// TestJ3First: of several faults the first one counts; of those in one attribute, too.
func TestJ3First(t *testing.T) {
	faults := []struct {
		e    api.Errno
		attr api.Attr
	}{
		{api.ErrType, attr("none", "x")}, {api.ErrSyntax, attr("boss")}, {api.ErrSyntax, attr("num-1", "x")}, {api.ErrSyntax, attr("sys", "x", "x")}, {api.ErrSingle, attr("one", "a", "b")}, {api.ErrSingle, attr("sysone", "1", "2")},
	}
	for _, a := range faults {
		for _, b := range faults {
			for _, kinds := range []api.Attr{attr("objectClass", "thing"), attr("objectClass", "none"), attr("objectClass", "top"), attr("objectClass", "lone", "thing"), attr("text", "x")} {
				want := a.e
				if a.attr.Type != b.attr.Type || a.e != api.ErrType {
					checkAll(t, plenty(), check{want, []api.Attr{a.attr, b.attr, kinds}})
				}
				checkAll(t, plenty(), check{want, []api.Attr{kinds, a.attr, b.attr}}, check{want, []api.Attr{a.attr, kinds, b.attr}})
			}
		}
	}
	checkAll(t, plenty(),
		check{api.ErrClass, []api.Attr{attr("objectClass", "none"), attr("flag", "true")}},
		check{api.ErrClass, []api.Attr{attr("objectClass", "lone", "thing"), attr("flag", "true")}},
		check{api.ErrClass, []api.Attr{attr("flag", "true")}},
		check{api.ErrClass, []api.Attr{attr("objectClass", "lone", "thing", "none"), attr("flag", "true")}},
		check{api.ErrMust, []api.Attr{attr("objectClass", "thing"), attr("flag", "true")}},
		check{api.ErrMay, []api.Attr{attr("objectClass", "thing"), attr("text", "x"), attr("flag", "true")}},
	)
}

// TestJ3ManyValues: so many that each must be found again at once.
func TestJ3ManyValues(t *testing.T) {
	s := newSchema(t, plenty())
	many := attr("sys")
	for i := range 100000 {
		many.Values = append(many.Values, strconv.Itoa(i))
	}
	entry := []api.Attr{attr("objectClass", "lone"), many}
	if e := s.Check(entry); e != api.OK {
		t.Errorf("got %v", e)
	}
	entry[1].Values = append(many.Values, "77777")
	if e := s.Check(entry); e != api.ErrSyntax {
		t.Errorf("a value twice: got %v", e)
	}
	if s.IsA([]api.Attr{attr("objectClass", many.Values...)}, "top") || !s.IsA([]api.Attr{attr("objectClass", append(many.Values, "child")...)}, "top") {
		t.Error("classes among many values")
	}
	if e := s.Check(slices.Repeat([]api.Attr{attr("sys", "x")}, 100000)); e != api.ErrType {
		t.Errorf("an attribute many times: got %v", e)
	}
}

// TestJ3Full: the longest line of classes, and all types.
func TestJ3Full(t *testing.T) {
	words := full()
	s := newSchema(t, words)
	entry := []api.Attr{attr("objectClass", "c19")}
	for at, kind := range words.Types[1:] {
		want := api.ErrMust
		if at >= 20 {
			want = api.OK
		}
		if got := checkEntry(t, s, words, entry); got != want {
			t.Errorf("%d types: %v", at, got)
		}
		entry = append(entry, attr(strings.ToUpper(kind.Name), "x"))
	}
	if checkEntry(t, s, words, entry) != api.OK {
		t.Error("all types")
	}
	for at := range 20 {
		if !checkIsA(t, s, words, entry, "C"+strconv.Itoa(at)) {
			t.Errorf("class %d", at)
		}
		if checkIsA(t, s, words, []api.Attr{attr("objectClass", "c"+strconv.Itoa(at))}, "c19") != (at == 19) {
			t.Errorf("class %d is the last one", at)
		}
	}
}

// TestJ3Drawn: entries that conform, and that have been changed in a few places.
func TestJ3Drawn(t *testing.T) {
	r, seen := draws(20), map[api.Errno]int{}
	for i := range 4000 {
		words := r.schema()
		if i%4 == 0 {
			words = plenty()
		}
		s := newSchema(t, words)
		for range 8 {
			entry := r.entry(words)
			seen[checkEntry(t, s, words, entry)]++
			for range r.below(3) {
				entry = r.twist(words, entry)
				seen[checkEntry(t, s, words, entry)]++
			}
			for _, class := range append(words.Classes, api.Class{Name: "none"}, api.Class{}) {
				checkIsA(t, s, words, entry, r.cased(class.Name))
			}
		}
	}
	for _, e := range []api.Errno{api.OK, api.ErrType, api.ErrSyntax, api.ErrClass, api.ErrMust, api.ErrMay, api.ErrSingle} {
		if seen[e] < 500 {
			t.Errorf("%v: %d times", e, seen[e])
		}
	}
}

func TestJ3IsA(t *testing.T) {
	s := newSchema(t, plenty())
	blanks := strings.Repeat(" ", 200)
	for _, x := range []struct {
		want  bool
		class string
		entry []api.Attr
	}{
		{true, "thing", []api.Attr{attr("objectClass", "thing")}}, {true, "THING", []api.Attr{attr("OBJECTCLASS", " thing ")}}, {true, "top", []api.Attr{attr("objectClass", "child")}}, {true, "person", []api.Attr{attr("objectClass", "child")}}, {true, "PERSON", []api.Attr{attr("text", "x"), attr("objectclass", "CHILD")}},
		{false, "child", []api.Attr{attr("objectClass", "person")}}, {false, "pet", []api.Attr{attr("objectClass", "child")}}, {false, "thing", []api.Attr{attr("objectClass", "lone", "mixed")}}, {true, "base", []api.Attr{attr("objectClass", "lone", "mixed")}}, {true, "lone", []api.Attr{attr("objectClass", "mixed", "lone")}},
		{true, "mixed", []api.Attr{attr("objectClass", "none", "", " ", "marked", "x")}}, {false, "none", []api.Attr{attr("objectClass", "none")}}, {false, "", []api.Attr{attr("objectClass", "")}}, {false, "", []api.Attr{attr("objectClass", "child")}}, {false, " thing", []api.Attr{attr("objectClass", " thing")}}, {false, "thing ", []api.Attr{attr("objectClass", "thing")}},
		{false, "thing", []api.Attr{attr("objectClass", "thing"+blanks)}}, {true, "thing", []api.Attr{attr("objectClass", "thing"+blanks, "person")}}, {true, "thing", []api.Attr{attr("objectClass", "thing", "THING", "thing")}}, {false, "thing", []api.Attr{attr("objectClass", "th ing")}}, {false, "base", []api.Attr{attr("objectClass", "ba\u017fe")}}, {false, "ba\u017fe", []api.Attr{attr("objectClass", "base")}},
		{true, "thing", []api.Attr{attr("objectClass", "thing"), attr("objectClass", "lone")}}, {false, "lone", []api.Attr{attr("objectClass", "thing"), attr("OBJECTCLASS", "lone")}}, {false, "lone", []api.Attr{attr("objectClass"), attr("objectClass", "lone")}}, {false, "lone", []api.Attr{attr("objectClass", "none"), attr("objectClass", "lone")}},
		{false, "top", nil}, {false, "top", []api.Attr{attr("text", "top")}}, {false, "top", []api.Attr{attr("none", "top"), attr("", "top"), attr("objectClass ", "top")}}, {true, "top", []api.Attr{attr("none", "x"), attr("text"), attr("text"), attr("objectClass", "pet")}}, {true, "text", []api.Attr{attr("objectClass", "text")}}, {false, "boss", []api.Attr{attr("objectClass", "boss")}},
	} {
		if got := s.IsA(x.entry, x.class); got != x.want {
			t.Errorf("IsA(%q, %q): got %v", x.entry, x.class, got)
		}
		checkIsA(t, s, plenty(), x.entry, x.class)
	}
}

// TestJ3IsAAll: each class as a value, and each as the one that is asked for.
func TestJ3IsAAll(t *testing.T) {
	r := draws(21)
	for _, words := range []api.Schema{example(), plenty(), full(), r.schema(), r.schema()} {
		s := newSchema(t, words)
		for _, a := range words.Classes {
			for _, b := range words.Classes {
				checkIsA(t, s, words, []api.Attr{attr(r.cased("objectClass"), r.cased(a.Name))}, r.cased(b.Name))
			}
		}
	}
}

// recased is a schema whose names are in other cases.
func recased(r *draws, s api.Schema) api.Schema {
	all := func(names []string) (changed []string) {
		for _, name := range names {
			changed = append(changed, r.cased(name))
		}
		return changed
	}
	var other api.Schema
	for _, kind := range s.Types {
		kind.Name = r.cased(kind.Name)
		other.Types = append(other.Types, kind)
	}
	for _, c := range s.Classes {
		other.Classes = append(other.Classes, api.Class{Name: r.cased(c.Name), Kind: c.Kind, Sup: r.cased(c.Sup), Must: all(c.Must), May: all(c.May)})
	}
	return other
}

// TestJ4Case: the case of names matters neither in the schema, nor in an entry, nor in a call.
func TestJ4Case(t *testing.T) {
	r := draws(22)
	for range 1000 {
		words := r.schema()
		s, other := newSchema(t, words), newSchema(t, recased(&r, words))
		for range 4 {
			entry := r.twist(words, r.entry(words))
			var changed []api.Attr
			for _, x := range entry {
				values := slices.Clone(x.Values)
				for i := range values {
					if isAlike(x.Type, "objectClass") {
						values[i] = r.cased(values[i])
					}
				}
				changed = append(changed, attr(r.cased(x.Type), values...))
			}
			if s.Check(entry) != other.Check(changed) {
				t.Errorf("Check(%q) and Check(%q): %v and %v", entry, changed, s.Check(entry), other.Check(changed))
			}
			for _, c := range words.Classes {
				if s.IsA(entry, c.Name) != other.IsA(changed, r.cased(c.Name)) {
					t.Errorf("IsA(%q, %q)", entry, c.Name)
				}
			}
			for _, x := range entry {
				checkSameNorms(t, s, other, x, r.cased(x.Type))
			}
		}
	}
}

func checkSameNorms(t *testing.T, s, other *schema.Schema, x api.Attr, name string) {
	t.Helper()
	for _, value := range x.Values {
		a, e := s.Norm(x.Type, value)
		b, f := other.Norm(name, value)
		if a != b || e != f {
			t.Errorf("Norm(%q, %q): %q %v and %q %v", x.Type, value, a, e, b, f)
		}
		m, e := s.Compare(x.Type, value, x.Values[0])
		n, f := other.Compare(name, value, x.Values[0])
		if m != n || e != f {
			t.Errorf("Compare(%q, %q): %v %v and %v %v", x.Type, value, m, e, n, f)
		}
	}
}

// TestJ4Chain: what Class tells of the Structural classes of an entry that passes is one chain, and there is a lowest one.
func TestJ4Chain(t *testing.T) {
	r, passed := draws(23), 0
	for i := range 4000 {
		words := r.schema()
		if i%2 == 0 {
			words = plenty()
		}
		s, entry := newSchema(t, words), r.entry(words)
		if s.Check(entry) != api.OK {
			continue
		}
		passed++
		var structural []string
		for _, c := range words.Classes {
			if c.Kind == api.Structural && s.IsA(entry, c.Name) {
				structural = append(structural, c.Name)
			}
		}
		ends := 0
		for _, low := range structural {
			all := true
			for _, name := range structural {
				all = all && s.IsA([]api.Attr{attr("objectClass", low)}, name)
			}
			if all {
				ends++
			}
		}
		if ends != 1 {
			t.Errorf("%q: %d lowest ones of %q", entry, ends, structural)
		}
	}
	if passed < 300 {
		t.Errorf("only %d entries passed", passed)
	}
}

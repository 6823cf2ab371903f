package filter_test

import (
	"fmt"
	"slices"
	"strings"
	"testing"

	"palatine/api"
	"palatine/filter"
)

// checkParts holds a filter against all values at once, each one in an entry of its own.
func checkParts(t *testing.T, m model, f api.Filter, values []string) (matches int) {
	t.Helper()
	syntax := m.syntax(f.Type)
	parts := partsByWords(f, syntax)
	for _, value := range values {
		want := api.False
		if isMatch(parts, value, syntax) {
			want = api.True
			matches++
		}
		if got := filter.Eval(m.made, []api.Attr{attr(f.Type, value)}, f); got != want {
			t.Errorf("Eval(%q, %+v): got %v", value, f, got)
		}
	}
	return matches
}

// TestE2Exact: all values, first and last parts of a short alphabet, and all lists of up to two parts between them.
func TestE2Exact(t *testing.T) {
	m, values := newModel(t, plenty()), allTexts(5, "ab")
	ends := allTexts(2, "ab")
	for _, middle := range allLists(2, ends...) {
		for _, first := range ends {
			for _, last := range ends {
				checkParts(t, m, sub("exact", first, last, middle...), values)
			}
		}
	}
}

// TestE2ExactParts: what is folded in texts counts here.
func TestE2ExactParts(t *testing.T) {
	m, values, parts := newModel(t, plenty()), allTexts(4, "aA "), allTexts(2, "aA ")
	for _, a := range parts {
		for _, b := range parts {
			checkParts(t, m, sub("exact", a, b), values)
			checkParts(t, m, sub("exact", a, "", b), values)
			checkParts(t, m, sub("exact", "", a, b), values)
		}
	}
}

// TestE2Text: all values and parts of a short alphabet with blanks and capitals.
func TestE2Text(t *testing.T) {
	m, parts, short, values := newModel(t, plenty()), allTexts(2, "aB "), allTexts(4, "aB "), allTexts(5, "aB ")
	for _, a := range parts {
		for _, b := range parts {
			checkParts(t, m, sub("text", a, b), values)
			for _, c := range []string{"", " ", "a", "b ", "  "} {
				checkParts(t, m, sub("text", a, c, b), short)
				checkParts(t, m, sub("text", c, a, b), short)
				checkParts(t, m, sub("text", "", "", a, b, c), short)
			}
		}
	}
}

// TestE2TextBlanks: blanks at the ends of parts, inside them, and between the words of a value.
func TestE2TextBlanks(t *testing.T) {
	m := newModel(t, plenty())
	values, parts := allTexts(6, "a "), allTexts(4, "A ")
	for _, part := range parts {
		for _, f := range []api.Filter{sub("text", part, ""), sub("text", "", part), sub("text", "", "", part), sub("text", "a", "a", part), sub("text", "", "a ", part, part), sub("text", part, part)} {
			checkParts(t, m, f, values)
		}
	}
}

// TestE2Edges: single matches and misses.
func TestE2Edges(t *testing.T) {
	m := newModel(t, plenty())
	for i, x := range []struct {
		value string
		f     api.Filter
		want  int
	}{
		{"abc", sub("exact", "", ""), 1}, {"", sub("exact", "", ""), 1}, {"", sub("exact", "", "", ""), 1}, {"", sub("exact", "a", ""), 0}, {"", sub("exact", "", "", "a"), 0},
		{"aba", sub("exact", "ab", "ba"), 0}, {"abba", sub("exact", "ab", "ba"), 1}, {"a", sub("exact", "a", "a"), 0}, {"aa", sub("exact", "a", "a"), 1},
		{"aba", sub("exact", "ab", "", "ba"), 0}, {"aba", sub("exact", "", "ba", "ab"), 0}, {"aba", sub("exact", "", "", "ab", "ba"), 0}, {"ab", sub("exact", "", "", "b", "a"), 0},
		{"abcabc", sub("exact", "", "bc", "c"), 1}, {"abcab", sub("exact", "", "ab", "ab"), 1}, {"xabab", sub("exact", "", "ab", "ab", "ab"), 0}, {"a*b", sub("exact", "a", "b", "*"), 1}, {"ab", sub("exact", "", "", "*"), 0},
		{"a\nb\x00c", sub("exact", "a", "c", "b"), 1}, {"\xff\xfe", sub("exact", "\xff", "\xfe"), 1}, {"\u00e9", sub("exact", "\xc3", "\xa9"), 1}, {"Ab", sub("exact", "a", ""), 0}, {"a.c", sub("exact", "", "", "b"), 0},
		{"", sub("text", "", ""), 1}, {"   ", sub("text", "", ""), 1}, {"   ", sub("text", "  ", " "), 1}, {"   ", sub("text", "", "", " "), 0}, {" A  B ", sub("text", " a ", " b "), 0}, {" A  B  C ", sub("text", "  a  ", "  c  "), 1},
		{"al bo", sub("text", "AL ", "O"), 1}, {"al", sub("text", "al ", ""), 0}, {"al", sub("text", " al", ""), 1}, {"al", sub("text", "", " al"), 0}, {"al", sub("text", "", "al "), 1}, {"x al", sub("text", "", " al "), 1},
		{"a b c", sub("text", "", "", "  b  "), 1}, {"ab c", sub("text", "", "", " b"), 0}, {"a b", sub("text", "a ", " b"), 0}, {"a b", sub("text", "a", "b", " "), 1}, {"a  b", sub("text", "a", "b", " ", " "), 0},
		{"a\tb", sub("text", "a", "b", "\t"), 1}, {"a\tb", sub("text", "a", "b", " "), 0}, {"\u212a", sub("text", "k", ""), 0}, {"\u00c9", sub("text", "\u00e9", ""), 0}, {"\xc3A", sub("text", "\xc3", "a"), 1},
		{"a.b", sub("text", ".", ""), 0}, {"a.b", sub("text", "a.", ".b"), 0}, {".", sub("text", ".", ""), 1}, {".", sub("text", ".", "."), 0}, {"a b", sub("text", "", "", "."), 0},
	} {
		got := filter.Eval(m.made, []api.Attr{attr("other"), attr(strings.ToUpper(x.f.Type), x.value)}, x.f)
		if got != x.want || got != m.eval([]api.Attr{attr(x.f.Type, x.value)}, x.f, 1) {
			t.Errorf("%v: Eval(%q, %+v): got %v", i, x.value, x.f, got)
		}
	}
}

// TestE2Syntaxes: parts are found in texts and in exact values alone, whatever the entry has.
func TestE2Syntaxes(t *testing.T) {
	m := newModel(t, plenty())
	for _, x := range m.words.Types {
		want := api.True
		if x.Syntax > 2 {
			want = api.Unknown
		}
		for _, value := range pool(x.Syntax) {
			checkEval(t, m, []api.Attr{attr(x.Name, value)}, sub(strings.ToLower(x.Name), "", ""), want)
			m.check(t, []api.Attr{attr(x.Name, "zz", value)}, sub(x.Name, "", value))
			m.check(t, []api.Attr{attr(x.Name, value)}, sub(x.Name, value, value))
		}
		m.check(t, nil, sub(x.Name, "", ""))
	}
	checkEval(t, m, []api.Attr{attr("none", "a")}, sub("none", "a", ""), api.Unknown)
}

// TestE2Bytes: each byte as a part of each kind, against each value of one such byte among letters.
func TestE2Bytes(t *testing.T) {
	m := newModel(t, plenty())
	var values []string
	for i := range 256 {
		values = append(values, string([]byte{byte(i)}), string([]byte{'x', byte(i), 'x'}))
	}
	for i := range 256 {
		part := string([]byte{byte(i)})
		for _, name := range []string{"text", "exact"} {
			checkParts(t, m, sub(name, part, ""), values)
			checkParts(t, m, sub(name, "", part), values)
			if n := checkParts(t, m, sub(name, "x", "x", part), values); n == 0 {
				t.Errorf("%q isn't found", part)
			}
		}
	}
}

// TestE2Many: many values, and many parts in a long one.
func TestE2Many(t *testing.T) {
	m := newModel(t, plenty())
	var words, values []string
	for i := range 500 {
		words = append(words, fmt.Sprintf("Word%v", i))
		values = append(values, fmt.Sprintf("none %v", i))
	}
	long := strings.Join(words, "  ")
	for _, name := range []string{"text", "exact"} {
		entry := []api.Attr{attr(name, append(values, long)...)}
		checkEval(t, m, entry, sub(name, words[0], words[499], words[1:499]...), api.True)
		checkEval(t, m, entry, sub(name, "", "", words...), api.True)
		checkEval(t, m, entry, sub(name, words[0], "", words...), api.False)
		slices.Reverse(words)
		checkEval(t, m, entry, sub(name, "", "", words...), api.False)
		slices.Reverse(words)
	}
}

// TestE3Squeeze: blanks are the byte 32 alone, and letters those of ASCII.
func TestE3Squeeze(t *testing.T) {
	check := func(part, want string) {
		t.Helper()
		if got := filter.Squeeze(part); got != want || got != squeezeByWords(part) {
			t.Errorf("Squeeze(%q): got %q, want %q", part, got, want)
		}
	}
	for part, want := range map[string]string{
		"": "", " ": " ", "     ": " ", " A  b ": " a b ", "AZaz@[`{": "azaz@[`{", "a\t \tB": "a\t \tb", "\u00a0  \u00a0": "\u00a0 \u00a0", "\u212a\u00c9\u0130": "\u212a\u00c9\u0130", "\xff  \xc3  ": "\xff \xc3 ", "..": "..", " . ": " . ", "\x00  \x00": "\x00 \x00",
	} {
		check(part, want)
	}
	for i := range 256 {
		part := string([]byte{byte(i)})
		check(part, squeezeByWords(part))
		check(part+part, squeezeByWords(part+part))
	}
	check(allBytes(), lowerByWords(allBytes()))
	for _, part := range allTexts(6, "aA .") {
		check(part, squeezeByWords(part))
	}
	check(strings.Repeat(" ", 100000)+strings.Repeat("A ", 100000), " "+strings.Repeat("a ", 100000))
}

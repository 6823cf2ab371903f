package dn_test

import (
	"fmt"
	"regexp"
	"slices"
	"sort"
	"strings"
	"testing"

	"palatine/api"
	"palatine/dn"
)

// draws is a fixed sequence of numbers, the same in every run.
type draws uint64

func (r *draws) next() uint32 {
	*r = *r*6364136223846793005 + 1442695040888963407
	return uint32(*r >> 32)
}

func (r *draws) below(n int) int { return int(r.next() % uint32(n)) }

// text is one of so many letters at most, out of the alphabet.
func (r *draws) text(most int, alphabet string) string {
	b := make([]byte, r.below(most+1))
	for i := range b {
		b[i] = alphabet[r.below(len(alphabet))]
	}
	return string(b)
}

// name draws a name of few steps whose types and values are out of alphabets; the types of a step differ.
func (r *draws) name(steps, avas int, types []string, most int, alphabet string) api.Dn {
	var n api.Dn
	for range r.below(steps + 1) {
		var step api.Rdn
		for range 1 + r.below(avas) {
			step = append(step, api.Ava{Type: types[r.below(len(types))], Value: r.text(most, alphabet)})
		}
		step = slices.DeleteFunc(step, func(a api.Ava) bool {
			first := slices.IndexFunc(step, func(b api.Ava) bool { return strings.EqualFold(a.Type, b.Type) })
			return step[first] != a
		})
		n = append(n, slices.Clip(step))
	}
	return n
}

// allBytes are the 256 bytes in order.
func allBytes() string {
	b := make([]byte, 256)
	for i := range b {
		b[i] = byte(i)
	}
	return string(b)
}

// eachText calls visit with all texts of at most so many letters of the alphabet.
func eachText(most int, alphabet string, visit func(string)) {
	visit("")
	if most == 0 {
		return
	}
	for i := range len(alphabet) {
		eachText(most-1, alphabet, func(s string) { visit(alphabet[i:i+1] + s) })
	}
}

// wide is s with each byte as a rune, so that an expression matches bytes.
func wide(s string) string {
	var runes []rune
	for i := range len(s) {
		runes = append(runes, rune(s[i]))
	}
	return string(runes)
}

func narrow(s string) string {
	var b []byte
	for _, r := range s {
		b = append(b, byte(r))
	}
	return string(b)
}

const (
	typeForm   = `[A-Za-z][A-Za-z0-9-]{0,19}`
	escapeForm = `\\["+,;<>\\#= ]|\\[0-9a-fA-F]{2}`
	firstForm  = `(?:[^\x00"+,;<>\\# ]|` + escapeForm + `)`
	midForm    = `(?:[^\x00"+,;<>\\]|` + escapeForm + `)`
	lastForm   = `(?:[^\x00"+,;<>\\ ]|` + escapeForm + `)`
	valueForm  = `(?:` + firstForm + `(?:` + midForm + `*` + lastForm + `)?)?`
	avaForm    = typeForm + `=` + valueForm
)

var (
	typeWhole   = regexp.MustCompile(`^` + typeForm + `$`)
	nameWhole   = regexp.MustCompile(`^(?s:` + avaForm + `(?:[,+]` + avaForm + `)*)$`)
	avaBegin    = regexp.MustCompile(`^(?s:(` + typeForm + `)=(` + valueForm + `)([,+]|$))`)
	escapeFound = regexp.MustCompile(escapeForm)
	blanks      = regexp.MustCompile(` +`)
)

func typeByWords(s string) bool { return typeWhole.MatchString(wide(s)) }

// builtByWords: a valid name, whatever the length of its text.
func builtByWords(n api.Dn) bool {
	if len(n) > 16 {
		return false
	}
	for _, step := range n {
		seen := map[string]bool{}
		for _, ava := range step {
			if !typeByWords(ava.Type) || seen[strings.ToLower(ava.Type)] {
				return false
			}
			seen[strings.ToLower(ava.Type)] = true
		}
		if len(step) == 0 || len(step) > 4 {
			return false
		}
	}
	return true
}

func rightByWords(n api.Dn) bool { return builtByWords(n) && len(textByWords(n)) <= 400 }

func valueByWords(value string) string {
	text := ""
	for len(value) > 0 {
		c := value[:1]
		begins := text == ""
		value = value[1:]
		if strings.Contains("\"+,;<>\\", c) || begins && strings.Contains("# ", c) || c == " " && value == "" {
			c = "\\" + c
		} else if c < " " || c == "\x7f" {
			c = fmt.Sprintf("\\%02x", c)
		}
		text += c
	}
	return text
}

func stepByWords(step api.Rdn) string {
	var texts []string
	for _, ava := range step {
		texts = append(texts, ava.Type+"="+valueByWords(ava.Value))
	}
	return strings.Join(texts, "+")
}

func textByWords(n api.Dn) string {
	var texts []string
	for _, step := range n {
		texts = append(texts, stepByWords(step))
	}
	return strings.Join(texts, ",")
}

// parsedByWords reads by expressions: first whether all of s is a text, then one type and value after the other.
func parsedByWords(s string) (api.Dn, api.Errno) {
	if len(s) > 400 {
		return nil, api.ErrLong
	}
	if s == "" {
		return nil, api.OK
	}
	s = wide(s)
	if !nameWhole.MatchString(s) {
		return nil, api.ErrName
	}
	n := api.Dn{{}}
	for s != "" {
		found := avaBegin.FindStringSubmatch(s)
		last := len(n) - 1
		n[last] = append(n[last], api.Ava{Type: found[1], Value: escapeFound.ReplaceAllStringFunc(found[2], meant)})
		if found[3] == "," {
			n = append(n, api.Rdn{})
		}
		s = s[len(found[0]):]
	}
	for _, step := range n {
		for i := range step {
			step[i].Value = narrow(step[i].Value)
		}
	}
	if !builtByWords(n) {
		return nil, api.ErrName
	}
	return n, api.OK
}

// meant is the byte of an escape, as a rune.
func meant(escape string) string {
	if len(escape) == 2 {
		return escape[1:]
	}
	var b byte
	fmt.Sscanf(escape[1:], "%x", &b)
	return string(rune(b))
}

func lowerByWords(s string) string {
	for c := 'A'; c <= 'Z'; c++ {
		s = strings.ReplaceAll(s, string(c), string(c+32))
	}
	return s
}

func foldByWords(value string) string {
	return narrow(strings.Trim(blanks.ReplaceAllString(wide(lowerByWords(value)), " "), " "))
}

func normByWords(n api.Dn) api.Dn {
	norm := api.Dn{}
	for _, step := range n {
		folded := api.Rdn{}
		for _, ava := range step {
			folded = append(folded, api.Ava{Type: lowerByWords(ava.Type), Value: foldByWords(ava.Value)})
		}
		sort.SliceStable(folded, func(i, j int) bool { return folded[i].Type < folded[j].Type })
		norm = append(norm, folded)
	}
	return norm
}

func keyByWords(n api.Dn) string {
	key := ""
	for _, step := range normByWords(n) {
		key = stepByWords(step) + "\x00" + key
	}
	return key
}

// equal tells names apart, but not nil slices from empty ones.
func equal(a, b api.Dn) bool {
	return slices.EqualFunc(a, b, func(x, y api.Rdn) bool { return slices.Equal(x, y) })
}

// copied is a name that shares no slices with n.
func copied(n api.Dn) api.Dn {
	var c api.Dn
	for _, step := range n {
		c = append(c, slices.Clone(step))
	}
	return c
}

func checkParse(t *testing.T, s string, want api.Dn, code api.Errno) {
	t.Helper()
	if n, e := dn.Parse(s); !equal(n, want) || e != code {
		t.Errorf("Parse(%q): got %q %v, want %q %v", s, n, e, want, code)
	}
}

// checkText holds one text against the chapter's words.
func checkText(t *testing.T, s string) {
	t.Helper()
	want, e := parsedByWords(s)
	checkParse(t, s, want, e)
}

// checkName holds all that is said of one name against the chapter's words.
func checkName(t *testing.T, n api.Dn) {
	t.Helper()
	before := copied(n)
	if got := dn.Right(n); got != rightByWords(n) {
		t.Errorf("Right(%q): got %v", n, got)
	}
	if got := dn.Print(n); got != textByWords(n) {
		t.Errorf("Print(%q): got %q", n, got)
	}
	if got := dn.Norm(n); !equal(got, normByWords(n)) {
		t.Errorf("Norm(%q): got %q", n, got)
	}
	if got := dn.Key(n); got != keyByWords(n) {
		t.Errorf("Key(%q): got %q", n, got)
	}
	if !dn.Same(n, n) || !dn.Under(n, n) || !dn.Under(n, nil) {
		t.Errorf("%q: not the same as itself, or not under itself, or not under the name without steps", n)
	}
	if !equal(n, before) {
		t.Errorf("%q was changed to %q", before, n)
	}
}

// checkPair holds what is said of two names against the chapter's words.
func checkPair(t *testing.T, a, b api.Dn) {
	t.Helper()
	x, y := normByWords(a), normByWords(b)
	if got := dn.Same(a, b); got != equal(x, y) {
		t.Errorf("Same(%q, %q): got %v", a, b, got)
	}
	under := len(y) <= len(x) && equal(x[len(x)-len(y):], y)
	if got := dn.Under(a, b); got != under {
		t.Errorf("Under(%q, %q): got %v", a, b, got)
	}
}

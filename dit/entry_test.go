package dit_test

import (
	"math"
	"slices"
	"strings"
	"testing"

	"palatine/api"
	"palatine/dit"
	"palatine/dn"
)

// cut takes an element with this tag off, by chapter 9's words.
func cut(s string, tag byte) (contents, rest string, ok bool) {
	for size := range min(len(s), 401) {
		for _, head := range []int{2, 3, 4} {
			if head+size > len(s) {
				break
			}
			contents, rest = s[head:head+size], s[head+size:]
			if element(tag, contents) == s[:head+size] {
				return contents, rest, true
			}
		}
	}
	return "", "", false
}

func cutNumber(s string) (n int, rest string, ok bool) {
	body, rest, ok := cut(s, 0x02)
	if !ok || body == "" || len(body) > 4 {
		return 0, "", false
	}
	n = int(int8(body[0]))
	for i := 1; i < len(body); i++ {
		n = n<<8 | int(body[i])
	}
	return n, rest, bytesOf(n) == body
}

func cutTexts(s string) (texts []string, ok bool) {
	for s != "" {
		text, rest, ok := cut(s, 0x04)
		if !ok {
			return nil, false
		}
		texts, s = append(texts, text), rest
	}
	return texts, true
}

func cutAttrs(s string) (attrs []api.Attr, ok bool) {
	for s != "" {
		one, rest, ok := cut(s, 0x30)
		kind, list, isText := cut(one, 0x04)
		values, end, isList := cut(list, 0x31)
		texts, areTexts := cutTexts(values)
		if !ok || !isText || !isList || !areTexts || end != "" {
			return nil, false
		}
		attrs, s = append(attrs, attr(kind, texts...)), rest
	}
	return attrs, true
}

// decodedByWords is the entry whose bytes s are, if there is one.
func decodedByWords(s string) (x api.Entry, ok bool) {
	if len(s) > 400 {
		return api.Entry{}, false
	}
	body, end, isEntry := cut(s, 0x30)
	tenant, rest, isTenant := cutNumber(body)
	id, rest, isId := cutNumber(rest)
	above, rest, isAbove := cutNumber(rest)
	text, rest, isText := cut(rest, 0x04)
	list, more, isList := cut(rest, 0x30)
	if !isEntry || end != "" || !isTenant || !isId || !isAbove || !isText || !isList || more != "" {
		return api.Entry{}, false
	}
	attrs, areAttrs := cutAttrs(list)
	name, e := dn.Parse(text)
	x = api.Entry{Tenant: tenant, Id: id, Above: above, Name: name, Attrs: attrs}
	return x, areAttrs && e == api.OK && dn.Print(name) == text && isStorable(x)
}

// checkEncode holds Encode against W1's words, and Decode against its result.
func checkEncode(t *testing.T, x api.Entry) api.Errno {
	t.Helper()
	want, wanted := entryByWords(x), api.OK
	if !isShort(x) {
		want, wanted = "", api.ErrLong
	} else if !isStorable(x) {
		want, wanted = "", api.ErrName
	}
	got, e := dit.Encode(x)
	if got != want || e != wanted {
		t.Errorf("Encode(%+v): got %x, %v, want %x, %v", x, got, e, want, wanted)
	}
	if e == api.OK {
		if y, f := dit.Decode(got); f != api.OK || !isSameEntry(x, y) {
			t.Errorf("Decode(%x): got %+v, %v, want %+v", got, y, f, x)
		}
	} else if _, f := dit.Decode(entryByWords(x)); f != api.ErrName && e == api.ErrLong {
		t.Errorf("Decode of %+v, which Encode refuses: %v", x, f)
	}
	return e
}

func checkDecode(t *testing.T, s string) bool {
	t.Helper()
	want, ok := decodedByWords(s)
	wanted := api.OK
	if !ok {
		want, wanted = api.Entry{}, api.ErrName
	}
	if got, e := dit.Decode(s); e != wanted || !isSameEntry(got, want) {
		t.Errorf("Decode(%x): got %+v, %v, want %+v, %v", s, got, e, want, wanted)
	}
	return ok
}

func plain(t *testing.T) api.Entry {
	t.Helper()
	return api.Entry{Id: 300, Tenant: 1, Above: 3, Name: named(t, `CN=A\, b+sn=\00`), Attrs: []api.Attr{attr("cn", "A", ""), attr("dc"), attr("", "\x00\xff")}}
}

func TestW1Bytes(t *testing.T) {
	x := api.Entry{Id: 2, Tenant: 1, Above: 300, Name: named(t, "cn=A"), Attrs: []api.Attr{attr("cn", "A", "b"), attr("x")}}
	want := "\x30\x27\x02\x01\x01\x02\x01\x02\x02\x02\x01\x2c\x04\x04cn=A" + "\x30\x15\x30\x0c\x04\x02cn\x31\x06\x04\x01A\x04\x01b" + "\x30\x05\x04\x01x\x31\x00"
	if got, e := dit.Encode(x); e != api.OK || got != want {
		t.Errorf("got %x, %v, want %x", got, e, want)
	}
	for _, x := range []api.Entry{
		{Id: 1}, plain(t), {Id: 1, Name: named(t, "dc=x,dc=y,dc=z")}, {Id: 1, Attrs: []api.Attr{{}}},
		{Id: 1, Attrs: []api.Attr{attr("cn", "a"), attr("cn", "a"), attr("CN", "a", "a")}},
		{Id: 1, Name: api.Dn{}, Attrs: []api.Attr{}}, {Id: 1, Attrs: []api.Attr{attr(strings.Repeat("t", 300), "\xff")}},
	} {
		if e := checkEncode(t, x); e != api.OK {
			t.Errorf("Encode(%+v): %v", x, e)
		}
	}
}

func TestW1Numbers(t *testing.T) {
	edges := []int{math.MinInt, -1 << 32, -1 << 31, -300, -129, -128, -1, 0, 1, 2, 14, 15, 16, 17, 127, 128, 255, 256, 32767, 32768, 1<<23 - 1, 1 << 23, 1<<31 - 2, 1<<31 - 1, 1 << 31, 1<<32 - 1, 1 << 32, 1<<32 + 1, math.MaxInt}
	for _, n := range edges {
		for _, wrong := range []bool{false, true} {
			x := api.Entry{Id: 1, Name: api.Dn{{{Type: "cn", Value: "a"}}}}
			if wrong {
				x.Name = api.Dn{{}}
			}
			for i, field := range []*int{&x.Id, &x.Above, &x.Tenant} {
				kept := *field
				*field = n
				right := n >= 0 && n <= []int{1<<31 - 1, 1<<31 - 1, 15}[i] && (n > 0 || i > 0)
				want := api.OK
				if !right {
					want = api.ErrLong
				} else if wrong {
					want = api.ErrName
				}
				if e := checkEncode(t, x); e != want {
					t.Errorf("the field %d is %d, wrong name %v: %v", i, n, wrong, e)
				}
				*field = kept
			}
		}
	}
}

// TestW1Lengths: all lengths around those at which the form of a length changes, and around the greatest one.
func TestW1Lengths(t *testing.T) {
	longest := 0
	for size := range 420 {
		for _, x := range []api.Entry{
			{Id: 1, Name: named(t, "cn=a"), Attrs: []api.Attr{attr("cn", strings.Repeat("v", size))}},
			{Id: 1, Attrs: []api.Attr{attr(strings.Repeat("t", size))}},
			{Id: 1, Name: api.Dn{{{Type: "cn", Value: strings.Repeat("q", size)}}}},
			{Id: 1, Attrs: []api.Attr{attr("cn", slices.Repeat([]string{""}, size)...)}},
			{Id: 1, Attrs: make([]api.Attr, size)},
		} {
			want, n := api.OK, len(entryByWords(x))
			if n > 400 {
				want = api.ErrLong
			}
			if e := checkEncode(t, x); e != want {
				t.Errorf("%d bytes: %v", n, e)
			}
			if want == api.OK {
				longest = max(longest, n)
			}
			x.Name = api.Dn{{{Type: "1"}}}
			checkEncode(t, x)
		}
	}
	if longest != 400 {
		t.Errorf("the longest has %d bytes", longest)
	}
	for _, size := range []int{3990, 4000, 4001, 70000} {
		checkEncode(t, api.Entry{Id: 1, Attrs: []api.Attr{attr("cn", strings.Repeat("v", size))}})
	}
}

func TestW1WrongNames(t *testing.T) {
	step := api.Rdn{{Type: "a", Value: "1"}}
	for _, n := range []api.Dn{
		{nil}, {{}}, {step, {}}, {{{Type: "", Value: "a"}}}, {{{Type: "1", Value: "a"}}}, {{{Type: "a=1,b", Value: "a"}}},
		{{{Type: "a"}, {Type: "A"}}}, {{{Type: "a"}, {Type: "b"}, {Type: "c"}, {Type: "d"}, {Type: "e"}}},
		slices.Repeat(api.Dn{step}, 17), {{{Type: strings.Repeat("t", 21), Value: "a"}}},
	} {
		if e := checkEncode(t, api.Entry{Id: 1, Name: n}); e != api.ErrName {
			t.Errorf("%v: %v", n, e)
		}
		if e := checkEncode(t, api.Entry{Id: 0, Name: n}); e != api.ErrLong {
			t.Errorf("%v and the number 0: %v", n, e)
		}
	}
	if e := checkEncode(t, api.Entry{Id: 1, Name: slices.Repeat(api.Dn{step}, 16)}); e != api.OK {
		t.Error(e)
	}
	long := api.Dn{{{Type: "a", Value: strings.Repeat("q", 399)}}}
	if e := checkEncode(t, api.Entry{Id: 1, Name: long}); e != api.ErrLong {
		t.Errorf("a name that is too long: %v", e)
	}
}

// TestW1Pieces: the bytes cut off at each place, with more bytes, and with each byte changed to each other one.
func TestW1Pieces(t *testing.T) {
	s, _ := dit.Encode(plain(t))
	if !checkDecode(t, s) {
		t.Fatal("the entry itself")
	}
	for i := range len(s) {
		if checkDecode(t, s[:i]) || checkDecode(t, s[i+1:]) {
			t.Errorf("a piece at %d", i)
		}
		for c := range 256 {
			checkDecode(t, s[:i]+string([]byte{byte(c)})+s[i+1:])
		}
		checkDecode(t, s[:i]+s[i+1:])
		checkDecode(t, s[:i]+"\x00"+s[i:])
	}
	for _, more := range []string{"x", "\x00", s, "\x30\x00"} {
		if checkDecode(t, s+more) || checkDecode(t, more+s) {
			t.Errorf("with %q", more)
		}
	}
}

// TestW1Parts: elements that are missing, in other places, twice there, or others.
func TestW1Parts(t *testing.T) {
	right := []string{element(2, "\x01"), element(2, "\x05"), element(2, "\x00"), element(4, "cn=a"), element(0x30, element(0x30, element(4, "cn"), element(0x31, element(4, "A"))))}
	if !checkDecode(t, element(0x30, right...)) {
		t.Fatal("the entry itself")
	}
	others := []string{
		"", element(2), element(2, "\x00\x01"), element(2, "\x00\x00\x00\x00\x01"), element(2, "\x7f\xff\xff\xff"), element(2, "\x00\x80\x00\x00\x00"), element(2, "\x0f"), element(2, "\x10"), element(2, "\xff"), element(0x0a, "\x01"),
		element(4), element(4, "CN=a"), element(4, " cn=a"), element(4, `cn=\61`), element(4, `cn=\5c`), element(4, `cn=\\`), element(4, `cn=a\20`), element(4, `cn=\0A`), element(4, `cn=\0a`), element(4, "cn"), element(4, "cn=a,"), element(4, "dc=x,dc=y"), element(4, "a=1+A=2"), element(4, "cn=\x00"), element(4, "cn="+strings.Repeat("q", 400)),
		element(0x31), element(0x30), element(0x30, element(0x30)), element(0x30, element(4, "cn")), element(0x30, element(2, "\x01"), element(2, "\x01")),
		element(0x30, element(0x30, element(4, "cn"), element(0x31), element(0x31))), element(0x30, element(0x30, element(4, "cn"))), element(0x30, element(0x30, element(0x31), element(4, "cn"))), element(0x30, element(0x30, element(4, "cn"), element(0x30))), element(0x30, element(0x30, element(4, "cn"), element(0x31, element(2, "A")))), element(0x30, element(0x31, element(4, "cn"), element(0x31))), element(0x30, element(0x30, element(4, "cn"), element(4, "A"))), element(0x30, element(0x30, element(4, "cn"), element(0x31, element(0x31)))), element(0x30, element(0x30, element(0x30), element(0x31))),
	}
	for i := range right {
		for _, other := range append(others, right...) {
			checkDecode(t, element(0x30, slices.Concat(right[:i], []string{other}, right[i+1:])...))
			checkDecode(t, element(0x30, slices.Concat(right[:i], []string{other}, right[i:])...))
		}
	}
	checkDecode(t, element(0x30, append(slices.Clone(right), element(2, "\x01"))...))
	checkDecode(t, element(0x31, right...))
	for _, s := range []string{"", "\x30", "\x30\x00", "\x02\x01\x01", element(4, "cn=a"), element(0x30, right[:4]...), "\x30\x81\x05" + element(2, "\x01"), "\x1f\x00", "\xff"} {
		if checkDecode(t, s) {
			t.Errorf("%x", s)
		}
	}
}

// TestW1Drawn: entries of all kinds, and their bytes with a few changes.
func TestW1Drawn(t *testing.T) {
	r := draws(7)
	right, changed := 0, 0
	for range 20000 {
		x := api.Entry{Id: int(r.next()) - 1<<28, Tenant: r.below(18) - 1, Above: r.below(1<<31) - 1<<28, Attrs: r.attrs()}
		for range r.below(3) {
			x.Name = append(x.Name, r.step())
		}
		if checkEncode(t, x) == api.OK {
			right++
		}
		b := []byte(entryByWords(x))
		for range 1 + r.below(2) {
			b[r.below(len(b))] = "\x00\x01\x02\x04\x30\x31\x7f\x80\xffa"[r.below(10)]
		}
		if checkDecode(t, string(b)) {
			changed++
		}
	}
	if right < 2000 || changed < 200 {
		t.Errorf("%d entries, %d changed ones", right, changed)
	}
}

package store_test

import (
	"slices"
	"strings"
	"testing"

	"palatine/api"
	"palatine/store"
)

// bytesOf is the bytes of changes by the chapter's words, whether a record may contain them or not.
func bytesOf(changes ...api.Change) string {
	var b strings.Builder
	for _, c := range changes {
		first := 0
		if c.Gone {
			first = 1
		}
		for _, n := range []int{first, len(c.Key), len(c.Value) % 256, len(c.Value) / 256} {
			b.WriteByte(byte(n))
		}
		b.WriteString(c.Key + c.Value)
	}
	return b.String()
}

func wantRecord(t *testing.T, changes ...api.Change) {
	t.Helper()
	record, e := store.Encode(changes...)
	if record != bytesOf(changes...) || e != api.OK {
		t.Errorf("Encode(%.60v): got %.60q, %d", changes, record, e)
	}
	got, e := store.Decode(record)
	if !slices.Equal(got, changes) || e != api.OK {
		t.Errorf("Decode(%.60q): got %.60v, %d", record, got, e)
	}
}

func wantNotEncoded(t *testing.T, want api.Errno, changes ...api.Change) {
	t.Helper()
	if record, e := store.Encode(changes...); record != "" || e != want {
		t.Errorf("Encode(%.60v): got %.60q, %d, want nothing, %d", changes, record, e, want)
	}
}

func wantNotDecoded(t *testing.T, record string) {
	t.Helper()
	if got, e := store.Decode(record); len(got) != 0 || e != api.ErrRecord {
		t.Errorf("Decode(%.60q): got %.60v, %d, want nothing, %d", record, got, e, api.ErrRecord)
	}
}

func TestH1Bytes(t *testing.T) {
	for _, x := range []struct {
		record  string
		changes []api.Change
	}{
		{"", nil},
		{"", []api.Change{}},
		{"\x00\x01\x01\x00a1", []api.Change{put("a", "1")}},
		{"\x00\x01\x00\x00a", []api.Change{put("a", "")}},
		{"\x01\x01\x00\x00a", []api.Change{gone("a")}},
		{"\x01\x02\x00\x00ab\x00\x01\x02\x00cde\x00\x01\x00\x00\x00", []api.Change{gone("ab"), put("c", "de"), put("\x00", "")}},
		{"\x00\x03\x02\x00abcde", []api.Change{put("abc", "de")}},
		{"\x00\x02\x03\x00abcde", []api.Change{put("ab", "cde")}},
		{"\x00\x01\xff\x00k" + text(255), []api.Change{put("k", text(255))}},
		{"\x00\x01\x00\x01k" + text(256), []api.Change{put("k", text(256))}},
		{"\x00\x01\x90\x01k" + text(400), []api.Change{put("k", text(400))}},
		{"\x00\x40\x00\x00" + text(64), []api.Change{put(text(64), "")}},
		{"\x01\x40\x00\x00" + text(64), []api.Change{gone(text(64))}},
	} {
		if got, e := store.Encode(x.changes...); got != x.record || e != api.OK {
			t.Errorf("Encode(%.60v): got %.60q, %d", x.changes, got, e)
		}
		if got, e := store.Decode(x.record); !slices.Equal(got, x.changes) || e != api.OK {
			t.Errorf("Decode(%.60q): got %.60v, %d", x.record, got, e)
		}
	}
}

func TestH1Keys(t *testing.T) {
	for _, key := range []string{"a", "\x00", "\xff", "ä", text(2), text(63), text(64)} {
		wantRecord(t, put(key, ""))
		wantRecord(t, put(key, key))
		wantRecord(t, gone(key))
		wantRecord(t, put("a", "1"), gone(key), put(key, text(400)))
	}
	for _, key := range []string{"", text(65), text(66), text(255), text(256), text(257), text(320), text(100000)} {
		for _, c := range []api.Change{put(key, ""), put(key, "1"), gone(key), put(key, text(401))} {
			wantNotEncoded(t, api.ErrKey, c)
			wantNotEncoded(t, api.ErrKey, put("a", "1"), c)
			wantNotEncoded(t, api.ErrKey, c, put("a", "1"))
		}
	}
}

func TestH1Values(t *testing.T) {
	for _, n := range []int{0, 1, 255, 256, 257, 399, 400} {
		wantRecord(t, put("k", text(n)))
		wantRecord(t, put(text(64), text(n)), put("k", text(n)))
	}
	for _, n := range []int{401, 402, 512, 65535, 65536, 65537, 65936} {
		wantNotEncoded(t, api.ErrKey, put("k", text(n)))
		wantNotEncoded(t, api.ErrKey, put("a", "1"), put("k", text(n)), put("b", "2"))
	}
	for _, n := range []int{1, 400, 401, 65536} {
		wantNotEncoded(t, api.ErrKey, api.Change{Key: "k", Value: text(n), Gone: true})
		wantNotEncoded(t, api.ErrKey, gone("k"), api.Change{Key: "k", Value: text(n), Gone: true})
	}
}

func TestH1Counts(t *testing.T) {
	for _, n := range []int{0, 1, 2, 31, 32} {
		wantRecord(t, slices.Repeat([]api.Change{put("k", "v")}, n)...)
		wantRecord(t, slices.Repeat([]api.Change{gone("k")}, n)...)
	}
	for _, n := range []int{33, 34, 64, 65, 1000} {
		list := slices.Repeat([]api.Change{gone("k")}, n)
		wantNotEncoded(t, api.ErrLong, list...)
		wantNotDecoded(t, bytesOf(list...))
		list[n-1].Key = ""
		wantNotEncoded(t, api.ErrLong, list...)
		list[0].Value = text(401)
		wantNotEncoded(t, api.ErrLong, list...)
	}
}

func TestH1Lengths(t *testing.T) {
	for _, n := range []int{5, 405, 406, 410, 1000, 1999, 2000} {
		list := manyKeys(n)
		if len(bytesOf(list...)) != n {
			t.Fatalf("%d bytes instead of %d", len(bytesOf(list...)), n)
		}
		wantRecord(t, list...)
		wantRecord(t, manyTimes(n)...)
	}
	for _, n := range []int{2001, 2002, 2048, 10000} {
		list := manyKeys(n)
		wantNotEncoded(t, api.ErrLong, list...)
		wantNotDecoded(t, bytesOf(list...))
		wantNotEncoded(t, api.ErrKey, append(list, put("", ""))...)
		wantNotEncoded(t, api.ErrKey, append(list, put("k", text(401)))...)
	}
	wantRecord(t, slices.Repeat([]api.Change{put("k", text(57))}, 32)...)
	wantRecord(t, append(slices.Repeat([]api.Change{put("k", text(57))}, 31), put("k", text(73)))...)
	wantNotEncoded(t, api.ErrLong, append(slices.Repeat([]api.Change{put("k", text(57))}, 31), put("k", text(74)))...)
	wantNotEncoded(t, api.ErrLong, slices.Repeat([]api.Change{put(text(64), text(400))}, 32)...)
}

func TestH1NoRecord(t *testing.T) {
	for _, record := range []string{
		"\x00", "\x01", "a", "\x00\x00", "\x00\x01\x01\x00", "\x00\x00\x00\x00", "\x01\x00\x00\x00", "\x00\x00\x01\x00a",
		"\x00\x01\x01\x00a", "\x00\x01\x01\x00a12", "\x00\x01\x01\x00a1\x00", "\x00\x01\x00\x01a1",
		"\x02\x01\x01\x00a1", "\x80\x01\x00\x00a", "\xff\x01\x00\x00a", "\x03\x01\x00\x00a",
		"\x01\x01\x01\x00a1", "\x01\x01\x01\x00a",
		"\x00\x41\x00\x00" + text(65), "\x01\x41\x00\x00" + text(65), "\x00\xff\x00\x00" + text(255),
		"\x00\x01\x91\x01k" + text(401), "\x00\x01\xff\xffk" + text(65535), "\x00\x01\x00\x02k" + text(512),
		"\x00\x01\x00\x80k" + text(1000), "\x00\xff\xff\xff", "\x00\x01\x90\x01k" + text(399),
	} {
		wantNotDecoded(t, record)
		wantNotDecoded(t, "\x00\x01\x01\x00a1"+record)
	}
	for first := 2; first < 256; first++ {
		wantNotDecoded(t, string([]byte{byte(first), 1, 0, 0, 'a'}))
	}
	whole := bytesOf(put("a", "1"), gone("bc"), put("d", ""), put("e", text(260)))
	for n := range whole {
		switch n {
		case 0, 6, 12, 17:
			continue // whole changes
		}
		wantNotDecoded(t, whole[:n])
	}
}

// draws is a fixed sequence of numbers, the same in every run.
type draws uint64

func (r *draws) below(n int) int {
	*r = *r*6364136223846793005 + 1442695040888963407
	return int(uint64(*r) >> 33 % uint64(n))
}

// change draws one that is seldom wrong.
func (r *draws) change() api.Change {
	c := put(text(1+r.below(4)), text(r.below(6)))
	switch r.below(40) {
	case 0:
		c.Key = text([]int{0, 64, 65}[r.below(3)])
	case 1:
		c.Value = text([]int{255, 256, 399, 400, 401}[r.below(5)])
	case 2:
		c.Gone = true
	default:
		if r.below(4) == 0 {
			c = gone(c.Key)
		}
	}
	return c
}

// wrong is H1's list of errors, in its order.
func wrong(changes []api.Change) api.Errno {
	if len(changes) > 32 {
		return api.ErrLong
	}
	for _, c := range changes {
		if len(c.Key) < 1 || len(c.Key) > 64 || len(c.Value) > 400 || c.Gone && len(c.Value) > 0 {
			return api.ErrKey
		}
	}
	if len(bytesOf(changes...)) > 2000 {
		return api.ErrLong
	}
	return api.OK
}

func TestH1Mixtures(t *testing.T) {
	seen := map[api.Errno]int{}
	r := draws(1)
	for range 20000 {
		list := make([]api.Change, r.below(35))
		for i := range list {
			list[i] = r.change()
		}
		if r.below(3) == 0 {
			list = list[:min(len(list), r.below(6))]
		}
		want := wrong(list)
		seen[want]++
		if want == api.OK {
			wantRecord(t, list...)
			continue
		}
		wantNotEncoded(t, want, list...)
		// No other changes have these bytes, unless a length doesn't fit into its own bytes.
		wantNotDecoded(t, bytesOf(list...))
	}
	if seen[api.OK] < 1000 || seen[api.ErrKey] < 1000 || seen[api.ErrLong] < 100 {
		t.Errorf("the mixtures have %v", seen)
	}
}

// Whatever Decode returns is what Encode makes these bytes of, and it returns nothing only if no cut makes changes of them.
func TestH1AnyBytes(t *testing.T) {
	r := draws(2)
	records := 0
	for range 20000 {
		b := []byte(bytesOf(put(text(1+r.below(3)), text(r.below(4))), gone(text(1+r.below(3))), put("k", text(r.below(9)))))
		for range r.below(3) {
			b[r.below(len(b))] = byte([]int{0, 1, 2, 3, 4, 5, r.below(256)}[r.below(7)])
		}
		b = b[:len(b)-r.below(2)*r.below(len(b))]
		got, e := store.Decode(string(b))
		if want := cutsInto(string(b)); (e == api.OK) != want {
			t.Errorf("Decode(%q): got %d, want a record: %v", b, e, want)
		}
		if e != api.OK {
			wantNotDecoded(t, string(b))
			continue
		}
		records++
		if again, e := store.Encode(got...); again != string(b) || e != api.OK {
			t.Errorf("Encode(Decode(%q)): got %q, %d", b, again, e)
		}
	}
	if records < 4000 || records > 16000 {
		t.Errorf("%d of 20000 were records", records)
	}
}

// cutsInto tells whether s is the bytes of allowed changes, by taking off every change that s may begin with.
func cutsInto(s string) bool {
	if s == "" {
		return true
	}
	for key := 1; 4+key <= len(s) && key <= 64; key++ {
		for value := 0; 4+key+value <= len(s) && value <= 400; value++ {
			c := put(s[4:4+key], s[4+key:4+key+value])
			for _, c.Gone = range []bool{false, true} {
				b := bytesOf(c)
				if wrong([]api.Change{c}) == api.OK && strings.HasPrefix(s, b) && cutsInto(s[len(b):]) {
					return true
				}
			}
		}
	}
	return false
}

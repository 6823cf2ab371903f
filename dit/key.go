package dit

import (
	"strconv"
	"strings"

	"palatine/api"
	"palatine/dn"
	"palatine/sum"
	"palatine/tree"
)

// nextKey is the key of the number of the next entry.
const nextKey = "c"

// How many hexadecimal digits numbers have in keys.
const (
	idDigits     = 8
	tenantDigits = 2
)

func usageKey(tenant int) string { return "q" + hex(tenant, tenantDigits) }

func entryKey(id int) string { return "e" + hex(id, idDigits) }

// kidsPrefix is what the keys of all children of an entry begin with.
func kidsPrefix(id int) string { return "k" + hex(id, idDigits) }

func suffixKey(tenant int) string { return "s" + hex(tenant, tenantDigits) }

// kidKey returns the key of a child, whose own step alone is the name.
func kidKey(above int, own api.Dn) string { return kidsPrefix(above) + dn.Key(own) }

// placeKey returns the key that leads to an entry.
func placeKey(x api.Entry) string {
	if x.Above == 0 {
		return suffixKey(x.Tenant)
	}
	return kidKey(x.Above, x.Name)
}

// termsPrefix is what the terms of all entries begin with that have a value of this norm; values of other norms may have the same checksum.
func termsPrefix(kind, norm string) string {
	return "i" + hex(int(sum.Text(kind+"\x00"+norm)), idDigits)
}

// hex returns a number as hexadecimal digits.
func hex(n, digits int) string {
	s := strconv.FormatInt(int64(n), 16)
	return strings.Repeat("0", max(digits-len(s), 0)) + s
}

// idIn returns the number that hexadecimal digits denote, or 0 if they denote none.
func idIn(digits string) int {
	id, err := strconv.ParseUint(digits, 16, 31)
	if err != nil {
		return 0
	}
	return int(id)
}

// numberIn returns the number that decimal digits denote, or 0 if they denote none.
func numberIn(digits string) int {
	n, err := strconv.Atoi(digits)
	if err != nil {
		return 0
	}
	return n
}

// usageIn returns the numbers of entries and bytes in the value of a tenant's key.
func usageIn(value string) (entries, bytes int) {
	first, second, _ := strings.Cut(value, " ")
	return numberIn(first), numberIn(second)
}

// within returns the keys that begin with a prefix, with their values; no more than the first most of them. The prefix ends in a digit.
func within(t *tree.Tree, prefix string, most int) []api.Pair {
	end := []byte(prefix)
	end[len(end)-1]++
	return t.Scan(prefix, string(end), most)
}

package dn

import (
	"strconv"
	"strings"

	"palatine/api"
)

// Parse returns the name that s is a text of. The name's own text may be longer than s, and even too long.
func Parse(s string) (api.Dn, api.Errno) {
	if len(s) > api.MaxName {
		return nil, api.ErrLong
	}
	n, ok := read(s)
	if !ok || !isBuilt(n) {
		return nil, api.ErrName
	}
	return n, api.OK
}

// read returns the steps that s consists of, however many there are, and whatever bytes are in the places of their types.
func read(s string) (n api.Dn, ok bool) {
	if s == "" {
		return nil, true
	}
	var step api.Rdn
	for {
		ava, rest, ok := readAva(s)
		if !ok {
			return nil, false
		}
		step = append(step, ava)
		if rest == "" {
			return append(n, step), true
		}
		if rest[0] == ',' {
			n, step = append(n, step), nil
		}
		s = rest[1:]
	}
}

// readAva returns the type and value that s begins with, and the rest of s, which is empty or begins with a separator.
func readAva(s string) (ava api.Ava, rest string, ok bool) {
	kind, s, found := strings.Cut(s, "=")
	if !found {
		return api.Ava{}, "", false
	}
	value, rest, ok := readValue(s)
	return api.Ava{Type: kind, Value: value}, rest, ok
}

func readValue(s string) (value, rest string, ok bool) {
	var denoted []byte
	blank := false // whether the last byte is an unescaped blank
scan:
	for rest = s; rest != ""; {
		c, size := rest[0], 1
		switch c {
		case ',', '+':
			break scan
		case '\\':
			c, size = escaped(rest[1:])
		case '"', ';', '<', '>', 0:
			size = 0
		case '#', ' ':
			if len(denoted) == 0 {
				size = 0
			}
		}
		if size == 0 {
			return "", "", false
		}
		blank = rest[0] == ' '
		denoted, rest = append(denoted, c), rest[size:]
	}
	return string(denoted), rest, !blank
}

// escaped returns the byte that an escape denotes, and the size of the escape with its \, behind which s is. The size is 0 if there is no escape.
func escaped(s string) (c byte, size int) {
	if s != "" && strings.IndexByte(special+"#= ", s[0]) >= 0 {
		return s[0], 2
	}
	if len(s) >= 2 {
		if number, err := strconv.ParseUint(s[:2], 16, 8); err == nil {
			return byte(number), 3
		}
	}
	return 0, 0
}

package store

import "palatine/api"

// headBytes is how many bytes of a change are ahead of its key.
const headBytes = 4

// Encode returns the record of changes.
func Encode(changes ...api.Change) (string, api.Errno) {
	if len(changes) > api.MaxChanges {
		return "", api.ErrLong
	}
	var record []byte
	for _, c := range changes {
		if !allowed(c) {
			return "", api.ErrKey
		}
		record = add(record, c)
	}
	if len(record) > api.MaxRecord {
		return "", api.ErrLong
	}
	return string(record), api.OK
}

// Decode returns the changes of a record.
func Decode(record string) ([]api.Change, api.Errno) {
	if len(record) > api.MaxRecord {
		return nil, api.ErrRecord
	}
	var changes []api.Change
	for record != "" {
		c, rest, ok := cut(record)
		if !ok || len(changes) == api.MaxChanges {
			return nil, api.ErrRecord
		}
		changes = append(changes, c)
		record = rest
	}
	return changes, api.OK
}

// allowed tells whether a record may contain a change.
func allowed(c api.Change) bool {
	if c.Key == "" || len(c.Key) > api.MaxKey || len(c.Value) > api.MaxValue {
		return false
	}
	return !c.Gone || c.Value == ""
}

// size returns the number of bytes of the change that puts a key.
func size(key, value string) int { return headBytes + len(key) + len(value) }

// add appends the bytes of a change that is allowed.
func add(b []byte, c api.Change) []byte {
	gone := byte(0)
	if c.Gone {
		gone = 1
	}
	b = append(b, gone, byte(len(c.Key)), byte(len(c.Value)), byte(len(c.Value)>>8))
	b = append(b, c.Key...)
	return append(b, c.Value...)
}

// cut returns the change whose bytes s begins with, and what follows them; ok is whether there is one and it is allowed.
func cut(s string) (c api.Change, rest string, ok bool) {
	if len(s) < headBytes || s[0] > 1 {
		return api.Change{}, "", false
	}
	value := headBytes + int(s[1])
	end := value + int(s[2]) + int(s[3])<<8
	if end > len(s) {
		return api.Change{}, "", false
	}
	c = api.Change{Key: s[headBytes:value], Value: s[value:end], Gone: s[0] == 1}
	if !allowed(c) {
		return api.Change{}, "", false
	}
	return c, s[end:], true
}

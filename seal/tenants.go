package seal

import "palatine/api"

// tenant seals and opens the values of one tenant: all that the two sealers differ in. The nonce is given by its bytes.
type tenant interface {
	seal(nonce, plain string) (string, api.Errno)
	open(sealed string) (string, api.Errno)
}

// tenants are those of a sealer, each at the place of its number.
type tenants []tenant

func (t tenants) seal(number int, nonce uint64, plain string) (string, api.Errno) {
	if !t.has(number) {
		return "", api.ErrTenant
	}
	if len(plain) > api.MaxPlain {
		return "", api.ErrLong
	}
	return t[number].seal(bytesOf(nonce), plain)
}

func (t tenants) open(number int, sealed string) (string, api.Errno) {
	if !t.has(number) {
		return "", api.ErrTenant
	}
	return t[number].open(sealed)
}

func (t tenants) has(number int) bool { return number >= 0 && number < len(t) }

// bytesOf returns the eight bytes of a number, the most significant one first.
func bytesOf(n uint64) string {
	var b [8]byte
	for i := range b {
		b[i] = byte(n >> (56 - 8*i))
	}
	return string(b[:])
}

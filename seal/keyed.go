package seal

import (
	"palatine/aes"
	"palatine/api"
	"palatine/sha"
)

const (
	blockBytes = 16
	keyBytes   = 32
)

// keyed is a tenant with a key.
type keyed struct {
	number         byte
	encryption     [blockBytes]byte
	authentication [keyBytes - blockBytes]byte
}

// newKeyed returns the tenant with a key of 32 bytes.
func newKeyed(number int, key string) keyed {
	k := keyed{number: byte(number)}
	copy(k.encryption[:], key[:blockBytes])
	copy(k.authentication[:], key[blockBytes:])
	return k
}

func (k keyed) seal(nonce, plain string) (string, api.Errno) {
	parts := nonce + k.combine(nonce, plain)
	return parts + k.tag(parts), api.OK
}

// open looks at the tag ahead of the length, so that a text without the right one is never called too long.
func (k keyed) open(sealed string) (string, api.Errno) {
	if len(sealed) < Long(0) {
		return "", api.ErrSeal
	}
	end := len(sealed) - tagBytes
	parts, tag := sealed[:end], sealed[end:]
	if k.tag(parts) != tag {
		return "", api.ErrSeal
	}
	if len(sealed) > Long(api.MaxPlain) {
		return "", api.ErrLong
	}
	return k.combine(parts[:nonceBytes], parts[nonceBytes:]), api.OK
}

// combine returns the exclusive or of a text and the nonce's stream. It undoes itself.
func (k keyed) combine(nonce, text string) string {
	b := []byte(text)
	var block [blockBytes]byte
	for i := range b {
		if i%blockBytes == 0 {
			block = k.streamed(nonce, i/blockBytes)
		}
		b[i] ^= block[i%blockBytes]
	}
	return string(b)
}

// streamed returns block i of the nonce's stream.
func (k keyed) streamed(nonce string, i int) [blockBytes]byte {
	var block [blockBytes]byte
	copy(block[:], nonce+bytesOf(uint64(i)))
	return aes.Encrypt(k.encryption, block)
}

// tag depends on the tenant's number too, so that tenants with one key don't open each other's texts.
func (k keyed) tag(parts string) string {
	mac := sha.Mac(k.authentication[:], append([]byte{k.number}, parts...)...)
	return string(mac[:tagBytes])
}

package seal

import "palatine/api"

// remembered is a tenant whose values are kept here, by the bytes of their nonces.
type remembered struct {
	number byte
	values map[string]value
}

type value struct{ plain string }

func newRemembered(number int) remembered {
	return remembered{number: byte(number), values: map[string]value{}}
}

func (r remembered) seal(nonce, plain string) (string, api.Errno) {
	if _, ok := r.values[nonce]; ok {
		return "", api.ErrSeal
	}
	r.values[nonce] = value{plain}
	return r.text(nonce, len(plain)), api.OK
}

func (r remembered) open(sealed string) (string, api.Errno) {
	if len(sealed) < nonceBytes {
		return "", api.ErrSeal
	}
	nonce := sealed[:nonceBytes]
	v, ok := r.values[nonce]
	if !ok || sealed != r.text(nonce, len(v.plain)) {
		return "", api.ErrSeal
	}
	return v.plain, api.OK
}

// text is given a value's length alone, so that it can't depend on anything else of the value.
func (r remembered) text(nonce string, length int) string {
	b := make([]byte, length+tagBytes)
	b[length] = r.number
	return nonce + string(b)
}

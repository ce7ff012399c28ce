package hash

import "retcon/api"

const (
	digits   = "0123456789abcdef"
	textSize = 64 // bytes of an ID's text
)

// Text tells an ID as a text.
func Text(id api.ID) string {
	var text [textSize]byte
	for i, x := range id {
		text[2*i], text[2*i+1] = digits[x/16], digits[x%16]
	}
	return string(text[:])
}

// Parse tells the ID of a text.
// What is no digit is told ahead of what is too long: so all of it is looked at first.
func Parse(s string) (api.ID, api.Fault) {
	for i := range len(s) {
		if _, ok := digit(s[i]); !ok {
			return api.ID{}, api.Fault{Err: api.ErrBytes, At: i}
		}
	}
	if len(s) != textSize {
		return api.ID{}, api.Fault{Err: api.ErrBytes, At: min(len(s), textSize)}
	}
	var id api.ID
	for i := range id {
		high, _ := digit(s[2*i])
		low, _ := digit(s[2*i+1])
		id[i] = 16*high + low
	}
	return id, api.Fault{}
}

// digit tells which number a digit is, and whether it is one.
func digit(c byte) (byte, bool) {
	switch {
	case '0' <= c && c <= '9':
		return c - '0', true
	case 'a' <= c && c <= 'f':
		return c - 'a' + 10, true
	}
	return 0, false
}

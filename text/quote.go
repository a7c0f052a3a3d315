package text

import "warden/api"

const (
	hexDigits    = "0123456789abcdef"
	escapedBytes = 4 // a backslash, an x, two digits
)

// broken: with what the reader of a quoted form gives up: the place of the first byte at which it is none.
type broken int

// placeOf: the place with which a reader gave up.
func placeOf(fault any) int { return int(fault.(broken)) }

// Quote: in quotes; each byte but 0x20 to 0x7e without quote and backslash as a backslash, x and two digits.
func Quote(b []byte) string {
	form := make([]byte, 0, len(b)+2)
	form = append(form, '"')
	for _, c := range b {
		if itself(c) {
			form = append(form, c)
		} else {
			form = append(form, '\\', 'x', hexDigits[c>>4], hexDigits[c&15])
		}
	}
	return string(append(form, '"'))
}

// Unquote: just what Quote gives; ErrQuote.
func Unquote(s string) (b []byte, e api.Errno) {
	defer func() {
		if fault := recover(); fault != nil {
			b, e = nil, api.ErrQuote
		}
	}()
	if s == "" || s[0] != '"' {
		panic(broken(0))
	}
	b, behind := unquoted(s, 0)
	if behind < len(s) {
		panic(broken(behind))
	}
	return b, api.OK
}

// unquoted: the bytes whose quoted form begins with the quote at that place, and the place behind the form; gives up if it is broken.
func unquoted(s string, at int) (b []byte, behind int) {
	at++
form:
	for {
		if at == len(s) {
			panic(broken(at))
		}
		switch c := s[at]; {
		case c == '"':
			break form
		case c == '\\':
			b = append(b, escaped(s, at))
			at += escapedBytes
		case itself(c):
			b = append(b, c)
			at++
		default:
			panic(broken(at))
		}
	}
	return b, at + 1
}

// escaped: the byte that stands behind the backslash at that place as x and two digits; gives up if none does, or one that stands for itself.
func escaped(s string, at int) byte {
	if at+escapedBytes > len(s) || s[at+1] != 'x' {
		panic(broken(at))
	}
	high, ok := hexValue(s[at+2])
	low, also := hexValue(s[at+3])
	c := high<<4 | low
	if !ok || !also || itself(c) {
		panic(broken(at))
	}
	return c
}

// itself: does the byte stand for itself in a quoted form?
func itself(c byte) bool { return ' ' <= c && c <= '~' && c != '"' && c != '\\' }

// hexValue: of a hex digit; false for every other byte.
func hexValue(c byte) (value byte, ok bool) {
	switch {
	case digit(c):
		return c - '0', true
	case 'a' <= c && c <= 'f':
		return c - 'a' + 10, true
	}
	return 0, false
}

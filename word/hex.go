package word

import "warden/api"

const (
	hexDigits  = "0123456789abcdef"
	wordDigits = 8
)

// Hex: eight digits, 0 to 9 and a to f.
func Hex(w uint32) string {
	return HexAll([]uint32{w})
}

// ParseHex: just what Hex gives. ErrHex.
func ParseHex(s string) (uint32, api.Errno) {
	if len(s) != wordDigits {
		return 0, api.ErrHex
	}
	var w uint32
	for i := range wordDigits {
		v, ok := digitValue(s[i])
		if !ok {
			return 0, api.ErrHex
		}
		w = w<<4 | v
	}
	return w, api.OK
}

// HexAll: lists of words, one behind the other, without a blank.
func HexAll(words []uint32) string {
	out := make([]byte, wordDigits*len(words))
	for i := range len(words) {
		for j := range wordDigits {
			out[wordDigits*i+j] = hexDigits[cut(words[i], 28-4*j, 4)]
		}
	}
	return string(out)
}

// ParseAll: just what HexAll gives. ErrLong (above 8 MaxWords digits), ErrHex.
func ParseAll(s string) ([]uint32, api.Errno) {
	if len(s) > wordDigits*api.MaxWords {
		return nil, api.ErrLong
	}
	if len(s)%wordDigits != 0 {
		return nil, api.ErrHex
	}
	out := make([]uint32, len(s)/wordDigits)
	for i := range len(out) {
		w, e := ParseHex(s[wordDigits*i : wordDigits*(i+1)])
		if e != api.OK {
			return nil, e
		}
		out[i] = w
	}
	return out, api.OK
}

// The library's readers take capitals, signs and prefixes too: here each word has one text alone.
func digitValue(c byte) (v uint32, ok bool) {
	switch {
	case c >= '0' && c <= '9':
		return uint32(c - '0'), true
	case c >= 'a' && c <= 'f':
		return uint32(c-'a') + 10, true
	}
	return 0, false
}

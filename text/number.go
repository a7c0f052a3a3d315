package text

import (
	"math"
	"strconv"
	"strings"

	"warden/api"
)

const (
	mostTens   = 10 // digits of the greatest word in tens
	wordDigits = 8  // digits of a whole word in hex
)

// Number: tens without a zero ahead, or 0x and one to eight digits 0 to 9, a to f: a word. ErrNumber.
func Number(s string) (uint32, api.Errno) {
	if digits, ok := strings.CutPrefix(s, "0x"); ok {
		return hexed(digits)
	}
	return tens(s, math.MaxUint32)
}

// Signed: as Number in tens, or a minus and tens from 1 on: from -2147483648 to 2147483647. ErrNumber.
func Signed(s string) (int32, api.Errno) {
	digits, below := strings.CutPrefix(s, "-")
	if !below {
		n, e := tens(digits, math.MaxInt32)
		return int32(n), e
	}
	n, e := tens(digits, 1<<31)
	if e == api.OK && n == 0 {
		e = api.ErrNumber
	}
	return int32(-n), e
}

// Tens: the text of a word in tens.
func Tens(w uint32) string { return strconv.FormatUint(uint64(w), 10) }

// Hexed: the text of a word as 0x and eight digits.
func Hexed(w uint32) string {
	form := []byte("0x")
	for i := range wordDigits {
		form = append(form, hexDigits[w>>(28-4*i)&15])
	}
	return string(form)
}

// Minus: the text of a number in tens, with a minus ahead, if it is below 0.
func Minus(n int32) string { return strconv.FormatInt(int64(n), 10) }

// tens: the number that the text is in tens, up to the greatest that may be.
func tens(s string, most uint64) (uint32, api.Errno) {
	if s == "" || len(s) > mostTens || s[0] == '0' && len(s) > 1 {
		return 0, api.ErrNumber
	}
	var n uint64
	for i := range len(s) {
		if !digit(s[i]) {
			return 0, api.ErrNumber
		}
		n = n*10 + uint64(s[i]-'0')
	}
	if n > most {
		return 0, api.ErrNumber
	}
	return uint32(n), api.OK
}

// hexed: the word that one to eight hex digits are.
func hexed(digits string) (uint32, api.Errno) {
	if digits == "" || len(digits) > wordDigits {
		return 0, api.ErrNumber
	}
	var w uint32
	for i := range len(digits) {
		v, ok := hexValue(digits[i])
		if !ok {
			return 0, api.ErrNumber
		}
		w = w<<4 | uint32(v)
	}
	return w, api.OK
}

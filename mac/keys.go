package mac

import (
	"slices"

	"warden/api"
	"warden/word"
)

const (
	tagBytes = 32

	// Of RFC 5869: the number of a tag is one byte, from 1 on.
	mostOut = 255 * tagBytes
)

// Extract: a key of eight words out of a salt and a secret.
func Extract(salt, secret []byte) [8]uint32 { return TagBytes(salt, secret) }

// Expand: n bytes out of a key and a word of what they are for. ErrSize: n below 0 or above 8160; ErrLong: info above MaxBytes.
func Expand(key [8]uint32, info []byte, n int) ([]byte, api.Errno) {
	if n < 0 || n > mostOut {
		return nil, api.ErrSize
	}
	if len(info) > api.MaxBytes {
		return nil, api.ErrLong
	}
	k := word.Bytes(key[:])
	var out, last []byte
	for i := byte(1); len(out) < n; i++ {
		tag := TagBytes(k, slices.Concat(last, info, []byte{i}))
		last = word.Bytes(tag[:])
		out = append(out, last...)
	}
	return out[:n:n], api.OK
}

package mac_test

import (
	"crypto/hkdf"
	"crypto/sha256"
	"slices"
	"testing"

	"warden/api"
	"warden/mac"
)

const mostOut = 8160

// expand: of arguments that may be.
func expand(t *testing.T, key tag, info []byte, n int) []byte {
	t.Helper()
	b, e := mac.Expand(key, info, n)
	if e != api.OK || len(b) != n {
		t.Fatalf("P3.6: Expand with %d bytes of info, n %d: %d bytes, %d", len(info), n, len(b), e)
	}
	return b
}

// counted: the bytes first, first + 1, and so on up to last.
func counted(first, last int) []byte {
	var b []byte
	for x := first; x <= last; x++ {
		b = append(b, byte(x))
	}
	return b
}

// The three cases of RFC 5869 with SHA-256; the first is the chapter's example 4.
func TestKeysExamples(t *testing.T) {
	for i, c := range []struct {
		salt, secret, info []byte
		key, out           string
	}{
		{counted(0, 0x0c), slices.Repeat([]byte{0x0b}, 22), counted(0xf0, 0xf9),
			"07770936 2c2e32df 0ddc3f0d c47bba63 90b6c73b b50f9c31 22ec844a d7c2b3e5",
			"3cb25f25faacd57a90434f64d0362f2a2d2d0a90cf1a5a4c5db02d56ecc4c5bf34007208d5b887185865"},
		{counted(0x60, 0xaf), counted(0, 0x4f), counted(0xb0, 0xff),
			"06a6b88c 5853361a 06104c9c eb35b45c ef760014 90467101 4a193f40 c15fc244",
			"b11e398dc80327a1c8e7f78c596a49344f012eda2d4efad8a050cc4c19afa97c59045a99cac7827271cb41c65e590e09da3275600c2f09b8367793a9aca3db71cc30c58179ec3e87c14c01d5c1f3434f1d87"},
		{nil, slices.Repeat([]byte{0x0b}, 22), nil,
			"19ef24a3 2c717b16 7f33a91d 6f648bdf 96596776 afdb6377 ac434c1c 293ccb04",
			"8da4e775a563c18f715f802a063c5a31b8a11f5c5ee1879ec3454e5f3c738d2d9d201395faa4b61a96c8"},
	} {
		key := mac.Extract(c.salt, c.secret)
		if want := tag(wordsOf(fromHex(t, c.key))); key != want {
			t.Errorf("P3.5: case %d: Extract = %08x, want %08x", i+1, key, want)
		}
		out := fromHex(t, c.out)
		if got := expand(t, key, c.info, len(out)); !slices.Equal(got, out) {
			t.Errorf("P3.6: case %d: Expand = %x, want %x", i+1, got, out)
		}
	}
}

func TestExtract(t *testing.T) {
	for n := range 140 {
		for _, m := range []int{0, 1, 55, 64, 100} {
			salt, secret := scatter(n, 1), scatter(m, 2)
			if got, want := mac.Extract(salt, secret), other(salt, secret); got != want || got != mac.TagBytes(salt, secret) {
				t.Errorf("P3.5: Extract of %d and %d bytes = %08x, want %08x", n, m, got, want)
			}
		}
	}
	secret := []byte("secret")
	want := mac.Extract(make([]byte, 32), secret)
	if mac.Extract(nil, secret) != want || mac.Extract([]byte{}, secret) != want {
		t.Errorf("P3.5: a salt of no bytes doesn't count as 32 zeros")
	}
}

func TestExpandByLibrary(t *testing.T) {
	key := tag(wordsOf(scatter(32, 3)))
	for _, k := range []tag{key, {}} {
		for _, m := range []int{0, 1, 20, 31, 32, 55, 100} {
			info := scatter(m, 4)
			want, err := hkdf.Expand(sha256.New, bytesOf(k), string(info), mostOut)
			if err != nil {
				t.Fatal(err)
			}
			for _, n := range []int{0, 1, 2, 31, 32, 33, 63, 64, 65, 96, 1000, 4096, 8127, 8128, 8129, 8159, mostOut} {
				if got := expand(t, k, info, n); !slices.Equal(got, want[:n]) {
					t.Errorf("P3.6: Expand with %d bytes of info, n %d: not the first bytes of all that there are", m, n)
				}
			}
		}
	}
	most := scatter(api.MaxBytes, 5)
	want, err := hkdf.Expand(sha256.New, bytesOf(key), string(most), 65)
	if err != nil {
		t.Fatal(err)
	}
	if got := expand(t, key, most, 65); !slices.Equal(got, want) {
		t.Errorf("P3.6: Expand with MaxBytes bytes of info = %x, want %x", got, want)
	}
}

func TestExpandRefuses(t *testing.T) {
	most, over := make([]byte, api.MaxBytes), make([]byte, api.MaxBytes+1)
	const least, greatest = -1 << 63, 1<<63 - 1
	for _, c := range []struct {
		info []byte
		n    int
		want api.Errno
	}{
		{nil, -1, api.ErrSize},
		{nil, least, api.ErrSize},
		{nil, greatest, api.ErrSize},
		{nil, mostOut + 1, api.ErrSize},
		{nil, mostOut + 32, api.ErrSize},
		{most, mostOut + 1, api.ErrSize},
		{over, -1, api.ErrSize},
		{over, mostOut + 1, api.ErrSize},
		{over, 0, api.ErrLong},
		{over, 1, api.ErrLong},
		{over, mostOut, api.ErrLong},
		{most, 0, api.OK},
		{nil, 0, api.OK},
		{[]byte{}, 0, api.OK},
	} {
		for _, key := range []tag{{}, {1, 2, 3, 4, 5, 6, 7, 8}} {
			b, e := mac.Expand(key, c.info, c.n)
			if e != c.want || len(b) != 0 {
				t.Errorf("P3.6: Expand with %d bytes of info, n %d: %d bytes, %d, want %d", len(c.info), c.n, len(b), e, c.want)
			}
			if e != api.OK && b != nil {
				t.Errorf("P3.6: Expand with %d bytes of info, n %d: a list beside an error", len(c.info), c.n)
			}
		}
	}
}

func TestExpandLeavesWhatItIsHanded(t *testing.T) {
	for _, n := range []int{0, 1, 32, 33, 100} {
		info := scatter(200, 6)
		key := tag{1, 2, 3}
		out := expand(t, key, info[:50], n)
		if !slices.Equal(info, scatter(200, 6)) || key != (tag{1, 2, 3}) {
			t.Fatalf("P3.7: Expand of %d bytes wrote into what it was handed or behind it", n)
		}
		clear(info)
		if again := expand(t, key, scatter(50, 6), n); !slices.Equal(out, again) {
			t.Fatalf("P3.7: Expand of %d bytes answers what it was handed", n)
		}
	}
}

func TestExpandAnswersNewMemory(t *testing.T) {
	key := tag{1, 2, 3}
	for _, n := range []int{1, 32, 33, 100, mostOut} {
		a, b := expand(t, key, nil, n), expand(t, key, nil, n)
		was := slices.Clone(b)
		clear(a[:cap(a)])
		if !slices.Equal(b, was) || !slices.Equal(expand(t, key, nil, n), was) {
			t.Errorf("P3.7: two answers of %d bytes share their memory", n)
		}
	}
}

// Package wire encodes values as bytes (layer 1, shared/doc/01-wire.md).
//
// Every value has exactly one encoding, and the encodings of integers have the same order as the integers.
package wire

import (
	"math"

	"gantry/api"
)

const (
	middle   = 128 // the first byte of 0; those of greater integers are greater
	maxWidth = 8   // the most bytes after the first one
)

// flip returns what turns the bytes of a non-negative integer into those of an integer of the given sign.
// A negative n is written as -1 - n with each byte subtracted from 255, which is the same as inverting its bits.
func flip(negative bool) byte {
	if negative {
		return 255
	}
	return 0
}

// Int returns the encoding of an integer.
func Int(n int) []byte {
	return appendInt(nil, n)
}

// appendInt adds the encoding of an integer to b.
func appendInt(b []byte, n int) []byte {
	mask := flip(n < 0)
	m := uint64(n)
	if n < 0 {
		m = ^m
	}
	var room [1 + maxWidth]byte
	first := len(room)
digits:
	for {
		switch m {
		case 0:
			break digits
		default:
			first--
			room[first] = byte(m) ^ mask
			m >>= 8
		}
	}
	width := len(room) - first
	first--
	room[first] = byte(middle+width) ^ mask
	return append(b, room[first:]...)
}

// GetInt decodes an integer at the beginning of a byte sequence.
func GetInt(b []byte) (int, int, api.Errno) {
	if len(b) == 0 {
		return 0, 0, api.ErrMore
	}
	mask := flip(b[0] < middle)
	width := int(b[0]^mask) - middle
	if width > maxWidth {
		return 0, 0, api.ErrForm
	}
	used := 1 + width
	if len(b) < used {
		return 0, 0, api.ErrMore
	}
	m := uint64(0)
	for _, c := range b[1:used] {
		m = m<<8 | uint64(c^mask)
	}
	// A leading zero would be a second encoding of the same integer.
	padded := width > 0 && b[1] == mask
	if padded || m > math.MaxInt {
		return 0, 0, api.ErrForm
	}
	n := int(m)
	if mask != 0 {
		n = -1 - n
	}
	return n, used, api.OK
}

// getLength decodes the length of something whose elements take at least size bytes each.
// It refuses a length for which b is too short, so that no memory is allocated for elements that cannot be there.
func getLength(b []byte, size int) (int, int, api.Errno) {
	n, used, e := GetInt(b)
	if e != api.OK {
		return 0, 0, e
	}
	if n < 0 {
		return 0, 0, api.ErrForm
	}
	// A product of n and size might wrap around.
	if n > (len(b)-used)/size {
		return 0, 0, api.ErrMore
	}
	return n, used, api.OK
}

// Bytes returns the encoding of a byte string.
func Bytes(s string) []byte {
	return append(Int(len(s)), s...)
}

// GetBytes decodes a byte string at the beginning of a byte sequence.
func GetBytes(b []byte) (string, int, api.Errno) {
	n, used, e := getLength(b, 1)
	if e != api.OK {
		return "", 0, e
	}
	end := used + n
	return string(b[used:end]), end, api.OK
}

// getList decodes a list whose elements, which get decodes, take at least size bytes each.
func getList[T any](b []byte, size int, get func([]byte) (T, int, api.Errno)) ([]T, int, api.Errno) {
	n, used, e := getLength(b, size)
	if e != api.OK {
		return nil, 0, e
	}
	next := func() (T, api.Errno) {
		x, more, e := get(b[used:])
		used += more
		return x, e
	}
	l := make([]T, 0, n)
	for range n {
		x, e := next()
		if e != api.OK {
			return nil, 0, e
		}
		l = append(l, x)
	}
	return l, used, api.OK
}

// Ints returns the encoding of a list of integers.
func Ints(l []int) []byte {
	b := Int(len(l))
	for _, n := range l {
		b = appendInt(b, n)
	}
	return b
}

// GetInts decodes a list of integers at the beginning of a byte sequence.
func GetInts(b []byte) ([]int, int, api.Errno) {
	return getList(b, 1, GetInt)
}

// Strings returns the encoding of a list of byte strings.
func Strings(l []string) []byte {
	b := Int(len(l))
	for _, s := range l {
		b = append(appendInt(b, len(s)), s...)
	}
	return b
}

// GetStrings decodes a list of byte strings at the beginning of a byte sequence.
func GetStrings(b []byte) ([]string, int, api.Errno) {
	return getList(b, 1, GetBytes)
}

// Digests returns the encoding of a list of digests.
func Digests(l []api.Digest) []byte {
	b := Int(len(l))
	for _, d := range l {
		b = append(b, d[:]...)
	}
	return b
}

// GetDigests decodes a list of digests at the beginning of a byte sequence.
func GetDigests(b []byte) ([]api.Digest, int, api.Errno) {
	return getList(b, api.DigestSize, getDigest)
}

// getDigest decodes a digest at the beginning of a byte sequence. getLength has made sure that it is there.
func getDigest(b []byte) (api.Digest, int, api.Errno) {
	return api.Digest(b[:api.DigestSize]), api.DigestSize, api.OK
}

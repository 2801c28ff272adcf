package poly_test

import (
	"bytes"
	"math"
	"math/big"
	"slices"
	"testing"

	"gantry/api"
	"gantry/integer"
	"gantry/poly"
	"gantry/rat"
	"gantry/wire"
)

// read decodes a list of numbers as the chapter describes it, and returns the error that is to be expected.
func read(b []byte) ([]api.Rat, int, api.Errno) {
	n, used, e := wire.GetInt(b)
	if e != api.OK {
		return nil, 0, e
	}
	if n < 0 {
		return nil, 0, api.ErrForm
	}
	var l []api.Rat
	for len(l) < n {
		a, more, e := rat.Decode(b[used:])
		if e != api.OK {
			return nil, 0, e
		}
		l, used = append(l, a), used+more
	}
	if n > 0 && equalNumbers(l[n-1], api.Rat{}) {
		return nil, 0, api.ErrForm
	}
	return l, used, api.OK
}

// refused tests that a byte sequence has an error.
func refused(t *testing.T, b []byte, want api.Errno) {
	t.Helper()
	if p, used, e := poly.Decode(b); e != want || used != 0 || len(p) != 0 {
		t.Fatal("P6.5: Decode", b, e, "not", want, used, texts(p))
	}
}

// join returns the encodings of a number of elements and of elements.
func join(n int, l ...api.Rat) []byte {
	b := wire.Int(n)
	for _, a := range l {
		b = append(b, rat.Encode(a)...)
	}
	return b
}

// P6.5, P6.9.
func TestEncode(t *testing.T) {
	singles("Encode", 250, func(m model) {
		p := m.poly()
		b := poly.Encode(p)
		if !bytes.Equal(b, join(len(p), p...)) {
			t.Fatal("P6.5: Encode", text(m), b)
		}
		kept(t, p, m)
		for _, more := range [][]byte{nil, {0}, {129, 1, 128, 129, 1, 128}, {255, 255}, b} {
			data := slices.Concat(b, more)
			back, used, e := poly.Decode(data)
			if e != api.OK || used != len(b) || !equal(back, p) {
				t.Fatal("P6.5, P6.9: Decode", text(m), more, e, used, texts(back))
			}
			// What was decoded does not change with the bytes.
			clear(data)
			agree(t, "P6.5: Decode keeps no bytes", back, p, m)
		}
		for i := range b {
			_, _, e := read(b[:i])
			if e == api.OK {
				t.Fatal("P6.9: a beginning is accepted:", text(m), i)
			}
			refused(t, b[:i], e)
		}
	})
	if b := poly.Encode(of(0, -1).poly()); !bytes.Equal(b, []byte{129, 2, 129, 1, 128, 129, 1, 128, 129, 2, 127, 129, 1, 129, 1, 128}) {
		t.Error("P6.5: Encode of -x:", b)
	}
	for _, p := range []api.Poly{nil, {}} {
		if b := poly.Encode(p); !bytes.Equal(b, []byte{128}) {
			t.Error("P6.5: Encode of 0:", b)
		}
	}
}

// P6.5.
func TestDecodeErrors(t *testing.T) {
	one, half, zero := rat.Of(1, 1), rat.Of(-1, 2), api.Rat{}
	// The number of elements cannot be decoded, or is negative, whatever follows.
	for _, b := range [][]byte{nil, {129}, {130, 1}, {137}, {0}, {255}, {118}, {129, 0}} {
		_, _, e := wire.GetInt(b)
		if e == api.OK {
			t.Fatal("an integer:", b)
		}
		refused(t, b, e)
	}
	for _, n := range []int{-1, -2, -300, math.MinInt} {
		refused(t, wire.Int(n), api.ErrForm)
		refused(t, join(n, one, one), api.ErrForm)
	}
	// Elements are missing, of which there can be any number; the last one there is does not have to be another one than 0.
	for _, n := range []int{3, 4, 1000, 1 << 40, math.MaxInt} {
		refused(t, join(n), api.ErrMore)
		refused(t, join(n, one), api.ErrMore)
		refused(t, join(n, one, zero), api.ErrMore)
		refused(t, append(join(n, one), 129), api.ErrMore)
		refused(t, append(join(n, half), 0), api.ErrForm)
	}
	// The last element is 0.
	for _, l := range [][]api.Rat{{zero}, {one, zero}, {half, one, zero}, {zero, zero}, {zero, one, zero, zero}} {
		refused(t, join(len(l), l...), api.ErrForm)
		refused(t, append(join(len(l), l...), join(1, one)...), api.ErrForm)
		// With one element more, it is a polynomial.
		p, used, e := poly.Decode(join(len(l)+1, append(slices.Clone(l), half)...))
		if e != api.OK || len(p) != len(l)+1 || used != len(join(0, l...))+len(rat.Encode(half))+1 {
			t.Error("P6.5: Decode", texts(l), e, used)
		}
	}
	// Elements that are not canonical, or whose encoding is malformed.
	two := integer.Encode(integer.Of(2))
	for _, bad := range [][]byte{
		slices.Concat(two, two),
		slices.Concat(two, integer.Encode(integer.Of(1))),
		slices.Concat(two, integer.Encode(integer.Of(-3))),
		slices.Concat(integer.Encode(integer.Of(0)), two),
		{128},
		{129, 1, 127},
		{129, 2, 129, 1, 128},
		two,
		two[:1],
		{},
	} {
		for _, before := range [][]api.Rat{nil, {one}, {zero, half}} {
			for _, n := range []int{len(before) + 1, len(before) + 2} {
				b := append(join(n, before...), bad...)
				_, _, e := rat.Decode(bad)
				if e == api.OK {
					t.Fatal("a number:", bad)
				}
				refused(t, b, e)
			}
		}
	}
}

// P6.5, P6.9: whatever is decoded has been read from its only encoding.
func TestDecodeAny(t *testing.T) {
	r := source("DecodeAny")
	numbers := []*big.Rat{new(big.Rat), big.NewRat(1, 1), big.NewRat(-1, 2), big.NewRat(1<<40, 3)}
	parts := [][]byte{{128}, {129, 1}, {129, 2}, {129, 3}, {127}, {129, 1, 128, 129, 1}, {0}}
	for _, a := range numbers {
		parts = append(parts, rat.Encode(canonical(a)), rat.Encode(canonical(a)))
	}
	accepted := 0
	for range 60000 {
		b := wire.Int(r.IntN(5))
		if r.IntN(8) == 0 {
			b = nil
		}
		for range r.IntN(7) {
			b = append(b, parts[r.IntN(len(parts))]...)
		}
		was := slices.Clone(b)
		l, length, want := read(b)
		if want != api.OK {
			refused(t, b, want)
			continue
		}
		accepted++
		p, used, e := poly.Decode(b)
		if e != api.OK || used != length || !equal(p, l) || !poly.Valid(p) {
			t.Fatal("P6.5: Decode", b, e, used, texts(p))
		}
		if !bytes.Equal(poly.Encode(p), b[:used]) || !bytes.Equal(b, was) {
			t.Fatal("P6.9: Encode of Decode", b, texts(p))
		}
	}
	if accepted < 5000 {
		t.Error("just a few sequences were encodings:", accepted)
	}
}

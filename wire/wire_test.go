package wire_test

import (
	"bytes"
	"cmp"
	"fmt"
	"math"
	"math/big"
	"runtime"
	"slices"
	"strings"
	"testing"

	"gantry/api"
	"gantry/wire"
)

// edges returns the integers at which the encoding changes, and their neighbours, in order.
func edges() []int {
	l := []int{math.MinInt, math.MinInt + 1, math.MinInt + 2, math.MaxInt - 2, math.MaxInt - 1, math.MaxInt}
	power := 1
	for range 8 {
		for d := -2; d <= 2; d++ {
			l = append(l, power+d, -power+d)
		}
		l = append(l, 127*power, 128*power, 255*power, -127*power, -128*power, -255*power)
		power *= 256
	}
	x := uint64(1)
	for shift := range 64 {
		x = x*6364136223846793005 + 1442695040888963407
		l = append(l, int(x)>>shift, int(x>>shift))
	}
	slices.Sort(l)
	return slices.Compact(l)
}

// encoded returns the encoding of an integer as P1.1 describes it, with other means than the program.
func encoded(n int) []byte {
	m := big.NewInt(int64(n))
	if n >= 0 {
		return append([]byte{byte(128 + len(m.Bytes()))}, m.Bytes()...)
	}
	m.Sub(big.NewInt(-1), m)
	b := []byte{byte(127 - len(m.Bytes()))}
	for _, c := range m.Bytes() {
		b = append(b, 255-c)
	}
	return b
}

// coder is a kind of values with its two functions.
type coder[T any] struct {
	name string
	put  func(T) []byte
	get  func([]byte) (T, int, api.Errno)
	same func(a, b T) bool
}

func equal[T comparable](a, b T) bool { return a == b }

func ints() coder[int] {
	return coder[int]{"P1.2", wire.Int, wire.GetInt, equal[int]}
}

func texts() coder[string] {
	return coder[string]{"P1.3", wire.Bytes, wire.GetBytes, equal[string]}
}

func intLists() coder[[]int] {
	return coder[[]int]{"P1.4", wire.Ints, wire.GetInts, slices.Equal[[]int]}
}

func textLists() coder[[]string] {
	return coder[[]string]{"P1.5", wire.Strings, wire.GetStrings, slices.Equal[[]string]}
}

func digestLists() coder[[]api.Digest] {
	return coder[[]api.Digest]{"P1.8", wire.Digests, wire.GetDigests, slices.Equal[[]api.Digest]}
}

// short returns the beginning of the text of a value.
func short(x any) string {
	s := fmt.Sprint(x)
	return s[:min(len(s), 200)]
}

// value tests the encoding of x, and its decoding with all that P1.6 says of it.
func (c coder[T]) value(t *testing.T, x T, want []byte) {
	t.Helper()
	b := c.put(x)
	if !bytes.Equal(b, want) {
		t.Fatalf("%s: encoding of %s: %s, not %s", c.name, short(x), short(b), short(want))
	}
	for _, after := range [][]byte{nil, {0}, {128}, {255, 255}, want} {
		y, used, e := c.get(slices.Concat(want, after))
		if !c.same(x, y) || used != len(want) || e != api.OK {
			t.Fatalf("P1.6, %s: %s and after it %s: %s, %d, %d", c.name, short(want), short(after), short(y), used, e)
		}
	}
	for i := range want {
		c.fails(t, want[:i:i], api.ErrMore)
		c.fails(t, want[:i], api.ErrMore)
	}
}

// fails tests that b is refused with an error, and that the other results are zero.
func (c coder[T]) fails(t *testing.T, b []byte, want api.Errno) {
	t.Helper()
	var zero T
	y, used, e := c.get(b)
	if e != want || used != 0 || !c.same(y, zero) {
		t.Fatalf("%s: decoding of %s: %s, %d, %d, not the error %d", c.name, short(b), short(y), used, e, want)
	}
}

// canonical tests that b is refused, or begins with the encoding of what is decoded.
func (c coder[T]) canonical(t *testing.T, b []byte) {
	t.Helper()
	x, used, e := c.get(b)
	switch e {
	case api.OK:
		if used <= 0 || used > len(b) || !bytes.Equal(c.put(x), b[:used]) {
			t.Fatalf("P1.6, %s: %s is decoded as %s, %d", c.name, short(b), short(x), used)
		}
	case api.ErrForm, api.ErrMore:
		c.fails(t, b, e)
	default:
		t.Fatalf("%s: %v: error %d", c.name, b, e)
	}
}

func allCanonical(t *testing.T, b []byte) {
	t.Helper()
	ints().canonical(t, b)
	texts().canonical(t, b)
	intLists().canonical(t, b)
	textLists().canonical(t, b)
	digestLists().canonical(t, b)
}

func TestExamples(t *testing.T) {
	for _, x := range []struct{ got, want []byte }{
		{wire.Int(0), []byte{128}},
		{wire.Int(1), []byte{129, 1}},
		{wire.Int(255), []byte{129, 255}},
		{wire.Int(256), []byte{130, 1, 0}},
		{wire.Int(-1), []byte{127}},
		{wire.Int(-2), []byte{126, 254}},
		{wire.Int(-256), []byte{126, 0}},
		{wire.Int(-257), []byte{125, 254, 255}},
		{wire.Bytes("ab"), []byte{129, 2, 97, 98}},
		{wire.Ints([]int{1, -1}), []byte{129, 2, 129, 1, 127}},
		{wire.Strings([]string{"", "a"}), []byte{129, 2, 128, 129, 1, 97}},
	} {
		if !bytes.Equal(x.got, x.want) {
			t.Errorf("P1.1, P1.3 to P1.5: %v, not %v", x.got, x.want)
		}
	}
	c := ints()
	c.fails(t, []byte{129, 0}, api.ErrForm)
	c.fails(t, []byte{130, 1}, api.ErrMore)
	c.fails(t, []byte{137}, api.ErrForm)
	c.fails(t, nil, api.ErrMore)
}

// P1.1, P1.2, P1.6.
func TestInt(t *testing.T) {
	for _, n := range edges() {
		ints().value(t, n, encoded(n))
	}
	for n := -70000; n <= 70000; n += 7 {
		ints().value(t, n, encoded(n))
	}
	ints().value(t, math.MaxInt, []byte{136, 127, 255, 255, 255, 255, 255, 255, 255})
	ints().value(t, math.MinInt, []byte{119, 128, 0, 0, 0, 0, 0, 0, 0})
}

// P1.7.
func TestOrder(t *testing.T) {
	l := edges()
	for _, m := range l {
		if k := len(wire.Int(m)); k > 9 {
			t.Errorf("P1.7: the encoding of %d has %d bytes", m, k)
		}
		for _, n := range l {
			if bytes.Compare(wire.Int(m), wire.Int(n)) != cmp.Compare(m, n) {
				t.Errorf("P1.7: the order of %d and %d", m, n)
			}
		}
	}
}

// P1.2: the errors of each first byte, in their order.
func TestGetIntErrors(t *testing.T) {
	c := ints()
	c.fails(t, []byte{}, api.ErrMore)
	long := make([]byte, 300)
	for first := range 256 {
		long[0] = byte(first)
		if first < 119 || first > 136 {
			c.fails(t, long[:1], api.ErrForm)
			c.fails(t, long, api.ErrForm)
			continue
		}
		k, zero := first-128, byte(0)
		if first < 128 {
			k, zero = 127-first, 255
		}
		// Bytes that are missing are named before leading zeros.
		for have := range k {
			c.fails(t, append([]byte{byte(first)}, bytes.Repeat([]byte{zero}, have)...), api.ErrMore)
		}
		if k == 0 {
			continue
		}
		c.fails(t, append([]byte{byte(first)}, bytes.Repeat([]byte{zero}, k)...), api.ErrForm)
		c.fails(t, append([]byte{byte(first), zero}, bytes.Repeat([]byte{17}, 20)...), api.ErrForm)
	}
	for _, b := range [][]byte{
		{136, 128, 0, 0, 0, 0, 0, 0, 0},
		{136, 128, 0, 0, 0, 0, 0, 0, 1},
		{136, 255, 255, 255, 255, 255, 255, 255, 255},
		{136, 0, 255, 255, 255, 255, 255, 255, 255},
		{119, 127, 255, 255, 255, 255, 255, 255, 255},
		{119, 127, 255, 255, 255, 255, 255, 255, 254},
		{119, 0, 0, 0, 0, 0, 0, 0, 0},
		{119, 255, 0, 0, 0, 0, 0, 0, 0},
	} {
		c.fails(t, b, api.ErrForm)
		c.fails(t, append(b, 128), api.ErrForm)
		c.fails(t, b[:8:8], api.ErrMore)
	}
}

// P1.3.
func TestBytes(t *testing.T) {
	c := texts()
	c.value(t, "", []byte{128})
	c.value(t, "\x00", []byte{129, 1, 0})
	c.value(t, "\xff\x80\x00\xfe", []byte{129, 4, 255, 128, 0, 254})
	c.value(t, "h\u00f6he", []byte{129, 5, 'h', 0xc3, 0xb6, 'h', 'e'})
	for _, n := range []int{127, 128, 254, 255, 256, 257, 8192} {
		s := strings.Repeat("\x81", n)
		c.value(t, s, append(encoded(n), s...))
	}
	for _, n := range []int{65535, 65536} {
		s := strings.Repeat("x", n)
		b := append(encoded(n), s...)
		if x, used, e := wire.GetBytes(b); !bytes.Equal(wire.Bytes(s), b) || x != s || used != len(b) || e != api.OK {
			t.Error("P1.3: a string of the length", n)
		}
		c.fails(t, b[:len(b)-1], api.ErrMore)
	}
}

// P1.4.
func TestInts(t *testing.T) {
	c := intLists()
	c.value(t, nil, []byte{128})
	c.value(t, []int{}, []byte{128})
	c.value(t, []int{0}, []byte{129, 1, 128})
	c.value(t, []int{math.MinInt, 0, -1, math.MaxInt}, []byte{129, 4,
		119, 128, 0, 0, 0, 0, 0, 0, 0, 128, 127, 136, 127, 255, 255, 255, 255, 255, 255, 255})
	l, want := edges(), encoded(len(edges()))
	for _, n := range l {
		want = append(want, encoded(n)...)
	}
	c.value(t, l, want)
	for _, n := range []int{255, 256, 257} {
		c.value(t, make([]int, n), append(encoded(n), bytes.Repeat([]byte{128}, n)...))
	}
	c.fails(t, []byte{129, 2, 128, 137}, api.ErrForm)
	c.fails(t, []byte{129, 2, 137, 129}, api.ErrForm)
	c.fails(t, []byte{129, 2, 129, 137}, api.ErrMore)
	c.fails(t, []byte{129, 2, 129, 0}, api.ErrForm)
	c.fails(t, []byte{129, 3, 128, 137}, api.ErrMore)
	c.fails(t, []byte{129, 2, 128, 130, 1}, api.ErrMore)
}

// P1.5.
func TestStrings(t *testing.T) {
	c := textLists()
	c.value(t, nil, []byte{128})
	c.value(t, []string{}, []byte{128})
	c.value(t, []string{""}, []byte{129, 1, 128})
	c.value(t, []string{"a", "", "\x00\xff"}, []byte{129, 3, 129, 1, 97, 128, 129, 2, 0, 255})
	long := strings.Repeat("z", 300)
	c.value(t, []string{long, "", long}, slices.Concat(
		[]byte{129, 3, 130, 1, 44}, []byte(long), []byte{128, 130, 1, 44}, []byte(long)))
	for _, n := range []int{255, 256, 257} {
		c.value(t, make([]string, n), append(encoded(n), bytes.Repeat([]byte{128}, n)...))
	}
	c.fails(t, []byte{129, 2, 128, 137}, api.ErrForm)
	c.fails(t, []byte{129, 2, 128, 127}, api.ErrForm)
	c.fails(t, []byte{129, 2, 127, 129}, api.ErrForm)
	c.fails(t, []byte{129, 2, 129, 0}, api.ErrForm)
	c.fails(t, []byte{129, 2, 129, 127}, api.ErrMore)
	c.fails(t, []byte{129, 3, 128, 127}, api.ErrMore)
	c.fails(t, []byte{129, 2, 128, 129, 2, 97}, api.ErrMore)
	c.fails(t, []byte{129, 2, 129, 3, 97, 137}, api.ErrMore)
}

// P1.8.
func TestDigests(t *testing.T) {
	c := digestLists()
	d := api.Digest{1, 2, 3, 137, 15: 255}
	c.value(t, nil, []byte{128})
	c.value(t, []api.Digest{}, []byte{128})
	c.value(t, []api.Digest{{}}, append([]byte{129, 1}, make([]byte, 16)...))
	c.value(t, []api.Digest{d, {}, d}, slices.Concat([]byte{129, 3}, d[:], make([]byte, 16), d[:]))
	for _, n := range []int{255, 256, 257} {
		c.value(t, slices.Repeat([]api.Digest{d}, n), append(encoded(n), bytes.Repeat(d[:], n)...))
	}
	c.fails(t, append([]byte{129, 2}, make([]byte, 31)...), api.ErrMore)
}

// The errors of lengths are those of P1.3, P1.4, P1.5 and P1.8 alike.
func TestLengths(t *testing.T) {
	for _, x := range []struct {
		b []byte
		e api.Errno
	}{
		{nil, api.ErrMore},
		{[]byte{0}, api.ErrForm},
		{[]byte{118, 1, 2}, api.ErrForm},
		{[]byte{137}, api.ErrForm},
		{[]byte{130, 0}, api.ErrMore},
		{[]byte{129, 0}, api.ErrForm},
		{[]byte{136, 128, 0, 0, 0, 0, 0, 0, 0, 128}, api.ErrForm},
		{encoded(-1), api.ErrForm},
		{append(encoded(-1), 128, 128), api.ErrForm},
		{encoded(-2), api.ErrForm},
		{append(encoded(-256), 97), api.ErrForm},
		{encoded(math.MinInt), api.ErrForm},
		{encoded(1), api.ErrMore},
		{append(encoded(17), make([]byte, 16)...), api.ErrMore},
		{append(encoded(math.MaxInt), make([]byte, 64)...), api.ErrMore},
		{append(encoded(math.MaxInt-8), make([]byte, 64)...), api.ErrMore},
		// Products of these and 8 or 16 wrap around to small numbers.
		{append(encoded(1<<59), make([]byte, 64)...), api.ErrMore},
		{append(encoded(1<<60+1), make([]byte, 64)...), api.ErrMore},
		{append(encoded(1<<61), make([]byte, 64)...), api.ErrMore},
	} {
		texts().fails(t, x.b, x.e)
		intLists().fails(t, x.b, x.e)
		textLists().fails(t, x.b, x.e)
		digestLists().fails(t, x.b, x.e)
	}
}

// P1.6: whatever is decoded, its bytes are its encoding.
func TestCanonical(t *testing.T) {
	for n := range 1 << 16 {
		allCanonical(t, []byte{byte(n >> 8), byte(n)})
	}
	// Bytes at which something is decided, so that many of the sequences are nearly encodings.
	some := []byte{0, 1, 2, 3, 97, 126, 127, 128, 129, 130, 137, 254, 255}
	b := make([]byte, 5)
	for n := range len(some) * len(some) * len(some) * len(some) * len(some) {
		for i := range b {
			b[i] = some[n%len(some)]
			n /= len(some)
		}
		allCanonical(t, b)
	}
	x := uint64(7)
	for range 100000 {
		x = x*6364136223846793005 + 1442695040888963407
		b := make([]byte, x>>33%40)
		y := x
		for i := range b {
			y = y*6364136223846793005 + 1442695040888963407
			b[i] = byte(124 + y>>60)
			if y>>59&1 == 0 {
				b[i] = byte(y >> 40)
			}
		}
		allCanonical(t, b)
	}
}

// allocated returns how many bytes of memory f allocates.
func allocated(f func()) int {
	var before, after runtime.MemStats
	runtime.ReadMemStats(&before)
	f()
	runtime.ReadMemStats(&after)
	return int(after.TotalAlloc - before.TotalAlloc)
}

func TestMemory(t *testing.T) {
	for _, n := range []int{64, 5000, 1 << 20, 1 << 30, 1 << 40, math.MaxInt} {
		b := append(encoded(n), bytes.Repeat([]byte{128}, 5000)...)
		bad := append(encoded(n), bytes.Repeat([]byte{129}, 5000)...)
		used := allocated(func() {
			for _, x := range [][]byte{b, bad} {
				wire.GetBytes(x)
				wire.GetInts(x)
				wire.GetStrings(x)
				wire.GetDigests(x)
			}
		})
		// The tests of other goroutines and of the runtime allocate something, too.
		if most := 8*64*len(b) + 1<<18; used > most {
			t.Errorf("lists of %d elements in %d bytes: %d bytes of memory", n, len(b), used)
		}
	}
}

// Results are new memory, and arguments are not changed.
func TestShared(t *testing.T) {
	list, texts, digests := []int{3, -4}, []string{"ab", "c"}, []api.Digest{{1}, {2}}
	encode := func() [][]byte {
		return [][]byte{wire.Int(0), wire.Int(300), wire.Bytes(""), wire.Bytes("ab"),
			wire.Ints(list), wire.Strings(texts), wire.Digests(digests)}
	}
	first, second := encode(), encode()
	for i, b := range first {
		for j := range b {
			b[j] = ^b[j]
		}
		if !bytes.Equal(second[i], encode()[i]) {
			t.Error("an encoding is not new memory:", i)
		}
	}
	if !slices.Equal(list, []int{3, -4}) || !slices.Equal(texts, []string{"ab", "c"}) || digests[0] != (api.Digest{1}) {
		t.Error("an argument was changed")
	}
	b := slices.Concat(second...)
	kept := slices.Clone(b)
	decode := func(n int) ([]string, []api.Digest) {
		s, _, _ := wire.GetBytes(b[n:])
		n += len(second[3])
		_, used, _ := wire.GetInts(b[n:])
		n += used
		l, used, _ := wire.GetStrings(b[n:])
		d, _, _ := wire.GetDigests(b[n+used:])
		return append(l, s), d
	}
	l, d := decode(len(second[0]) + len(second[1]) + len(second[2]))
	if !bytes.Equal(b, kept) {
		t.Error("decoding changed its argument")
	}
	clear(b)
	if !slices.Equal(l, []string{"ab", "c", "ab"}) || !slices.Equal(d, digests) {
		t.Error("a decoded value shares memory with its encoding:", l, d)
	}
}

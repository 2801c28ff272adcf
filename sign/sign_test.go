package sign_test

import (
	"crypto/sha256"
	"encoding/hex"
	"math"
	"math/rand/v2"
	"slices"
	"strconv"
	"strings"
	"testing"

	"gantry/api"
	"gantry/hash"
	"gantry/sign"
	"gantry/wire"
)

const limit = 1 << 20 // the most bytes of a message

// bytesOf returns n bytes without a pattern, which differ for another start.
func bytesOf(n, start int) string {
	b := make([]byte, n)
	rand.NewChaCha8([32]byte{byte(start), byte(start >> 8)}).Read(b)
	return string(b)
}

// counted returns the seed of the bytes from 0 to 31.
func counted() string {
	b := make([]byte, api.KeySize)
	for i := range b {
		b[i] = byte(i)
	}
	return string(b)
}

// number returns the encoding of an integer.
func number(n int) string {
	return string(wire.Int(n))
}

// list returns the encoding of a list of integers.
func list(l ...int) string {
	return string(wire.Ints(l))
}

// digest returns the bytes of a digest of parts.
func digest(tag int, parts ...string) string {
	d := hash.Of(tag, parts...)
	return string(d[:])
}

// digits returns the digits of a digest and of its checksum, with other means than the program.
func digits(d string) []int {
	text, sum := "", 0
	for _, c := range []byte(d) {
		text += strconv.FormatInt(256+int64(c), 4)[1:]
	}
	for _, c := range text {
		sum += '3' - int(c)
	}
	text += strconv.FormatInt(256+int64(sum), 4)[1:]
	var l []int
	for _, c := range text {
		l = append(l, int(c-'0'))
	}
	return l
}

// chain returns the values of a chain at the heights from 0 to 3.
func chain(seed string, key, c int) [4]string {
	values := [4]string{hash.Mac(seed, "chain"+list(key, c))[:16]}
	for t := range 3 {
		values[t+1] = digest(9, list(key, c, t), values[t])
	}
	return values
}

// levels returns the nodes of a tree, level by level from the leaves to the root.
func levels(seed string, height int) [][]string {
	var leaves []string
	for key := range 1 << height {
		tops := ""
		for c := range 68 {
			tops += chain(seed, key, c)[3]
		}
		leaves = append(leaves, digest(1, digest(3, tops)))
	}
	all := [][]string{leaves}
	for below := leaves; len(below) > 1; {
		var level []string
		for pair := range slices.Chunk(below, 2) {
			level = append(level, digest(2, pair[0], pair[1]))
		}
		all = append(all, level)
		below = level
	}
	return all
}

// signature returns the signature of a message by a tree of the given nodes.
func signature(seed string, nodes [][]string, key int, message string) string {
	root := nodes[len(nodes)-1][0]
	s := number(key)
	for c, digit := range digits(digest(4, root, number(key), message)) {
		s += chain(seed, key, c)[digit]
	}
	at := key
	for _, level := range nodes[:len(nodes)-1] {
		if at%2 == 0 {
			s += level[at+1]
		} else {
			s += level[at-1]
		}
		at /= 2
	}
	return s
}

// text returns the bytes of a digest in hexadecimal.
func text(d api.Digest) string {
	return hex.EncodeToString(d[:])
}

// public returns a public key that has to exist.
func public(t *testing.T, seed string, height int) api.Digest {
	t.Helper()
	p, e := sign.Public(seed, height)
	if e != api.OK {
		t.Fatalf("P3.1: Public at the height %d: %v", height, e)
	}
	return p
}

// signed returns a signature that has to exist.
func signed(t *testing.T, seed string, height, index int, message string) string {
	t.Helper()
	s, e := sign.Sign(seed, height, index, message)
	if e != api.OK {
		t.Fatalf("P3.3: Sign at the height %d with the index %d: %v", height, index, e)
	}
	return s
}

// verified tests what Verify returns.
func verified(t *testing.T, name string, p api.Digest, height int, message, s string, index int, want api.Errno) {
	t.Helper()
	if got, e := sign.Verify(p, height, message, s); got != index || e != want {
		t.Errorf("%s: Verify returns %d and %d, not %d and %d", name, got, e, index, want)
	}
}

// P3.1: the examples, each byte at each place, and digests of all kinds.
func TestDigits(t *testing.T) {
	if !slices.Equal(sign.Digits(api.Digest{}), append(make([]int, 64), 3, 0, 0, 0)) {
		t.Error("P3.1: the digits of zero bytes")
	}
	full := api.Digest([]byte(strings.Repeat("\xff", 16)))
	if !slices.Equal(sign.Digits(full), append(slices.Repeat([]int{3}, 64), 0, 0, 0, 0)) {
		t.Error("P3.1: the digits of bytes 255")
	}
	if got := sign.Digits(api.Digest{0x1b, 0xe4}); !slices.Equal(got[:9], []int{0, 1, 2, 3, 3, 2, 1, 0, 0}) {
		t.Error("P3.1: the order of the digits:", got)
	}
	for place := range api.DigestSize {
		for c := range 256 {
			var d api.Digest
			d[place] = byte(c)
			if got := sign.Digits(d); !slices.Equal(got, digits(string(d[:]))) {
				t.Error("P3.1: byte", c, "at", place, got)
			}
		}
	}
	for i := range 1000 {
		d := api.Digest([]byte(bytesOf(16, i)))
		if got := sign.Digits(d); !slices.Equal(got, digits(string(d[:]))) {
			t.Error("P3.1:", text(d), got)
		}
	}
}

// Results share no memory, and nothing is kept from call to call.
func TestMemory(t *testing.T) {
	first := sign.Digits(api.Digest{})
	second := sign.Digits(api.Digest{})
	clear(first)
	if second[64] != 3 || sign.Digits(api.Digest{})[64] != 3 {
		t.Error("P3.1: results of Digits share memory")
	}
	if len(sign.Digits(api.Digest{})) != sign.Chains {
		t.Error("P3.1: the number of digits")
	}
	s := signed(t, counted(), 1, 0, "a")
	signed(t, counted(), 1, 1, "b")
	if signed(t, counted(), 1, 0, "a") != s {
		t.Error("P3.3: a signature depends on earlier calls")
	}
}

// The constants of the chapter.
func TestConstants(t *testing.T) {
	if sign.Chains != 68 || sign.Top != 3 || sign.MaxHeight != 6 {
		t.Error("constants:", sign.Chains, sign.Top, sign.MaxHeight)
	}
}

// P3.1: public keys that another implementation computed.
func TestKnownPublic(t *testing.T) {
	zeros := strings.Repeat("\x00", 32)
	for _, x := range []struct {
		seed   string
		height int
		want   string
	}{
		{counted(), 0, "a01179c4de342e7a2ce3634483c3d4aa"},
		{counted(), 1, "2043e548d58198127004803efb5519b6"},
		{counted(), 2, "769953f7f96bb3ab05432f2c54e8afdf"},
		{counted(), 6, "ff427ca20c2767ccd7e1698ed4d42fbf"},
		{zeros, 0, "20235e245e8aa99c8e2d52900d6e6d6c"},
		{zeros, 1, "24e48944cbd56d875653493cf6ca97eb"},
		{zeros, 2, "bce88a5f94d031324b7d4d796ed7c76d"},
		{zeros, 6, "d74f563c73a2d2f0e55e1d6047b8fdfa"},
	} {
		if got := text(public(t, x.seed, x.height)); got != x.want {
			t.Errorf("P3.1: height %d: %s, not %s", x.height, got, x.want)
		}
	}
}

// P3.1: public keys of all heights.
func TestPublic(t *testing.T) {
	for height := range sign.MaxHeight + 1 {
		seed := bytesOf(32, height)
		p := public(t, seed, height)
		if string(p[:]) != levels(seed, height)[height][0] {
			t.Error("P3.1: the public key of height", height)
		}
	}
}

// P3.1: what has no public key.
func TestPublicErrors(t *testing.T) {
	refused := func(seed string, height int) {
		t.Helper()
		if p, e := sign.Public(seed, height); e != api.ErrArg || p != (api.Digest{}) {
			t.Errorf("P3.1: a seed of %d bytes, height %d: %s and %d", len(seed), height, text(p), e)
		}
	}
	for _, n := range []int{0, 1, 16, 31, 33, 64} {
		refused(bytesOf(n, 1), 0)
		refused(bytesOf(n, 1), 6)
		refused(bytesOf(n, 1), 7)
	}
	for _, height := range []int{-1, 7, 8, 64, 1 << 32, math.MinInt, math.MaxInt} {
		refused(counted(), height)
	}
}

// P3.2: what is signed, for all arguments.
func TestDigest(t *testing.T) {
	p := api.Digest{0, 1, 2, 3, 4, 5, 6, 7, 8, 9, 10, 11, 12, 13, 14, 15}
	for index, want := range map[int]string{
		0:             "e3780311db61748c20a1d0d2af7b9011",
		1:             "a0e0a42ad83e8e7bc9270adf5774b098",
		-1:            "2ee2408f06aa3ccd75a0cc6ebeb6e58f",
		300:           "11a5906793fc1bc87751fe3200d37638",
		math.MinInt:   "520934a7a2353db13f42c92eadf4ffd2",
		math.MaxInt64: "70d33d9c52e360ef5b2b381fc4e95831",
	} {
		if got := text(sign.Digest(p, index, "m")); got != want {
			t.Errorf("P3.2: index %d: %s, not %s", index, got, want)
		}
	}
	for _, message := range []string{"", "m", "\x00", "\xff\xfe", bytesOf(300, 2), bytesOf(limit, 2), bytesOf(limit+1, 2)} {
		for _, p := range []api.Digest{{}, p} {
			got := sign.Digest(p, 77, message)
			if string(got[:]) != digest(4, string(p[:]), number(77), message) {
				t.Errorf("P3.2: %d bytes for %s", len(message), text(p))
			}
		}
	}
}

// P3.3: signatures that another implementation computed.
func TestKnownSignatures(t *testing.T) {
	for _, x := range []struct {
		seed          string
		height, index int
		message       string
		size          int
		want          string
	}{
		{counted(), 0, 0, "", 1089, "502407715778c7ab46c6d471a7c53134a9eb275f9b4ef561f2396c0c965c481c"},
		{counted(), 1, 1, "m", 1106, "919727f47498fce8fa3b3eb1abc72801fb11606ac5523f877a0e0caa5c522572"},
		{strings.Repeat("\x00", 32), 3, 5, "yard", 1138, "6866f9ab31a03c421f33c112e7f3bc0babc508f9f045a3d813eecbc906409fa1"},
		{counted(), 6, 63, "\x00\xff", 1186, "2b09e4833d7f2ad36f16ea31cee936ea4932892e8e8ed374c8c4600bacdafe7a"},
	} {
		s := signed(t, x.seed, x.height, x.index, x.message)
		sum := sha256.Sum256([]byte(s))
		if got := hex.EncodeToString(sum[:]); len(s) != x.size || got != x.want {
			t.Errorf("P3.3: height %d, index %d: %d bytes with the hash %s", x.height, x.index, len(s), got)
		}
	}
}

// agrees tests a signature against another implementation, and Verify with both of them.
func agrees(t *testing.T, seed string, nodes [][]string, index int, message string) {
	t.Helper()
	height := len(nodes) - 1
	s := signed(t, seed, height, index, message)
	want := signature(seed, nodes, index, message)
	if s != want {
		t.Errorf("P3.3: height %d, index %d, %d bytes", height, index, len(message))
	}
	p := api.Digest([]byte(nodes[height][0]))
	verified(t, "P3.5", p, height, message, s, index, api.OK)
	verified(t, "P3.4", p, height, message, want, index, api.OK)
	verified(t, "P3.4, another message", p, height, message+"x", s, 0, api.ErrSign)
}

// P3.3, P3.4, P3.5: all indices of low trees, some of the highest one, and messages of all kinds.
func TestSign(t *testing.T) {
	for height := range sign.MaxHeight + 1 {
		seed := bytesOf(32, 100+height)
		nodes := levels(seed, height)
		last := 1<<height - 1
		for index := range last + 1 {
			if height < 4 || index < 2 || index > last-2 || index == last/2 {
				agrees(t, seed, nodes, index, bytesOf(index, index))
			}
		}
	}
	seed := bytesOf(32, 1)
	nodes := levels(seed, 1)
	for _, message := range []string{"", "\x00", "m", "n", "\x80\xff", bytesOf(55, 3), bytesOf(1000, 3), bytesOf(limit-1, 3)} {
		agrees(t, seed, nodes, 0, message)
		agrees(t, seed, nodes, 1, message)
	}
}

// P3.3: the errors of Sign, and their order.
func TestSignErrors(t *testing.T) {
	long := bytesOf(limit+1, 4)
	refused := func(seed string, height, index int, message string, want api.Errno) {
		t.Helper()
		if s, e := sign.Sign(seed, height, index, message); e != want || s != "" {
			t.Errorf("P3.3: a seed of %d bytes, height %d, index %d, a message of %d bytes: %d bytes and %d, not %d",
				len(seed), height, index, len(message), len(s), e, want)
		}
	}
	for _, n := range []int{0, 31, 33} {
		refused(bytesOf(n, 1), 1, 0, "m", api.ErrArg)
		refused(bytesOf(n, 1), 1, 2, long, api.ErrArg)
	}
	for _, height := range []int{-1, 7, math.MinInt, math.MaxInt} {
		refused(counted(), height, 0, "m", api.ErrArg)
		refused(counted(), height, -1, long, api.ErrArg)
	}
	for height := range sign.MaxHeight + 1 {
		for _, index := range []int{-1, 1 << height, 1<<height + 1, 64, 1 << 32, math.MinInt, math.MaxInt} {
			refused(counted(), height, index, "m", api.ErrSpent)
			refused(counted(), height, index, long, api.ErrSpent)
		}
	}
	refused(counted(), 0, 0, long, api.ErrLimit)
	refused(counted(), 6, 63, long, api.ErrLimit)
	signed(t, counted(), 0, 0, long[:limit])
}

// P3.4: the errors of Verify, and their order.
func TestVerifyErrors(t *testing.T) {
	p := public(t, counted(), 1)
	long := bytesOf(limit+1, 4)
	good := signed(t, counted(), 1, 1, "m")
	for _, height := range []int{-1, 7, 64, math.MinInt, math.MaxInt} {
		verified(t, "P3.4, height", p, height, "m", good, 0, api.ErrArg)
		verified(t, "P3.4, height first", p, height, long, "", 0, api.ErrArg)
	}
	verified(t, "P3.4, a long message", p, 1, long, good, 0, api.ErrLimit)
	verified(t, "P3.4, a long message first", p, 1, long, "", 0, api.ErrLimit)
	verified(t, "P3.4, a long message is no index", p, 1, long, "\x89", 0, api.ErrLimit)
	whole := signed(t, counted(), 1, 0, long[:limit])
	verified(t, "P3.4, the longest message", p, 1, long[:limit], whole, 0, api.OK)

	digests := good[2:]
	for index, want := range map[string]api.Errno{
		"":             api.ErrMore,
		"\x81":         api.ErrMore,
		"\x82\x01":     api.ErrMore,
		"\x76":         api.ErrForm, // 118, which begins no integer
		"\x89":         api.ErrForm, // 137
		"\x00":         api.ErrForm,
		"\xff":         api.ErrForm,
		"\x81\x00":     api.ErrForm, // 0, with a byte too many
		"\x82\x00\x01": api.ErrForm, // 1, with a byte too many
	} {
		verified(t, "P3.4, the index alone", p, 1, "m", index, 0, want)
		if want == api.ErrForm {
			verified(t, "P3.4, the index", p, 1, "m", index+digests, 0, want)
		}
	}
	for _, index := range []int{-1, 2, 3, 64, 255, 256, 1 << 32, -1 << 32, math.MinInt, math.MaxInt} {
		verified(t, "P3.4, the index is not of the tree", p, 1, "m", number(index)+digests, 0, api.ErrForm)
	}
	verified(t, "P3.4, the other index", p, 1, "m", number(0)+digests, 0, api.ErrSign)
}

// P3.5: signatures of all other lengths.
func TestLengths(t *testing.T) {
	for _, x := range [][2]int{{0, 0}, {2, 0}, {2, 3}, {6, 63}} {
		height, index := x[0], x[1]
		p := public(t, counted(), height)
		good := signed(t, counted(), height, index, "m")
		used := len(number(index))
		for n := range len(good) {
			want := api.ErrForm
			if n < used {
				want = api.ErrMore
			}
			verified(t, "P3.5, too short", p, height, "m", good[:n], 0, want)
		}
		for n := 1; n <= 33; n++ {
			verified(t, "P3.5, too long", p, height, "m", good+strings.Repeat("\x00", n), 0, api.ErrForm)
		}
		verified(t, "P3.5, twice", p, height, "m", good+good, 0, api.ErrForm)
		verified(t, "P3.5", p, height, "m", good, index, api.OK)
		for other := range sign.MaxHeight + 1 {
			if other != height {
				verified(t, "P3.5, another height", p, other, "m", good, 0, api.ErrForm)
			}
		}
	}
}

// P3.4: a signature of which a bit was changed.
func TestChanged(t *testing.T) {
	for _, index := range []int{0, 1, 2, 3} {
		p := public(t, counted(), 2)
		good := signed(t, counted(), 2, index, "m")
		for i := len(number(index)); i < len(good); i++ {
			bad := []byte(good)
			bad[i] ^= 1 << (i % 8)
			verified(t, "P3.4, a changed bit", p, 2, "m", string(bad), 0, api.ErrSign)
		}
	}
}

// P3.4: nothing but what was signed is accepted.
func TestForged(t *testing.T) {
	const height = 2
	p := public(t, counted(), height)
	good := signed(t, counted(), height, 2, "m")
	for _, message := range []string{"n", "", "mm", "m\x00", "M"} {
		verified(t, "P3.4, another message", p, height, message, good, 0, api.ErrSign)
	}
	for i := range p {
		q := p
		q[i] ^= 1
		verified(t, "P3.4, another public key", q, height, "m", good, 0, api.ErrSign)
	}
	verified(t, "P3.4, no public key", api.Digest{}, height, "m", good, 0, api.ErrSign)
	other := signed(t, bytesOf(32, 9), height, 2, "m")
	verified(t, "P3.4, another signer", p, height, "m", other, 0, api.ErrSign)

	// The digests in another order: two chains, and the two nodes at the end.
	first, rest := good[:2], good[2:]
	verified(t, "P3.4, two chains", p, height, "m", first+rest[16:32]+rest[:16]+rest[32:], 0, api.ErrSign)
	end := len(rest) - 16
	verified(t, "P3.4, two nodes", p, height, "m", first+rest[:end-16]+rest[end:]+rest[end-16:end], 0, api.ErrSign)
	for index := range 4 {
		if index != 2 {
			verified(t, "P3.4, another index", p, height, "m", number(index)+rest, 0, api.ErrSign)
		}
	}
}

// P3.4: Verify computes the root with the digits for the given public key, and compares it with that key.
func TestOwnRoot(t *testing.T) {
	seed := counted()
	nodes := levels(seed, 1)
	p := api.Digest([]byte(nodes[1][0]))
	forged := func(digits []int) string {
		s := number(1)
		for c, digit := range digits {
			s += chain(seed, 1, c)[digit]
		}
		return s + nodes[0][0]
	}
	d := sign.Digest(p, 1, "m")
	right := digits(string(d[:]))
	verified(t, "P3.4, the digits", p, 1, "m", forged(right), 1, api.OK)
	for c := range right {
		wrong := slices.Clone(right)
		wrong[c] = (wrong[c] + 1) % 4
		verified(t, "P3.4, a wrong digit", p, 1, "m", forged(wrong), 0, api.ErrSign)
	}
	d = sign.Digest(p, 0, "m")
	verified(t, "P3.4, the digits of another index", p, 1, "m", forged(digits(string(d[:]))), 0, api.ErrSign)
}

// P3.6: different digests have digits of which one is less and one is greater.
func TestDigitsApart(t *testing.T) {
	apart := func(a, b api.Digest) {
		t.Helper()
		less, greater := false, false
		y := sign.Digits(b)
		for i, x := range sign.Digits(a) {
			less = less || x < y[i]
			greater = greater || x > y[i]
		}
		if !less || !greater {
			t.Errorf("P3.6: %s and %s", text(a), text(b))
		}
	}
	full := api.Digest([]byte(strings.Repeat("\xff", 16)))
	for i := range 300 {
		a := api.Digest([]byte(bytesOf(16, i)))
		apart(a, api.Digest([]byte(bytesOf(16, i+1))))
		apart(a, api.Digest{})
		apart(full, a)
		for place := range a {
			b := a
			b[place] ^= 1 << (i % 8)
			apart(a, b)
			apart(b, a)
		}
	}
	for c := 1; c < 256; c++ {
		apart(api.Digest{}, api.Digest{byte(c)})
		apart(api.Digest{15: byte(c)}, api.Digest{})
		apart(full, api.Digest{byte(c)})
	}
}

// P3.6: values that were advanced are no signature of another message.
func TestAdvanced(t *testing.T) {
	p := public(t, counted(), 0)
	good := signed(t, counted(), 0, 0, "m")
	from := sign.Digits(sign.Digest(p, 0, "m"))
	for i := range 50 {
		message := bytesOf(8, i)
		s := good[:1]
		for c, to := range sign.Digits(sign.Digest(p, 0, message)) {
			value := good[1+16*c : 17+16*c]
			for at := from[c]; at < to; at++ {
				value = digest(9, list(0, c, at), value)
			}
			s += value
		}
		verified(t, "P3.6, advanced values", p, 0, message, s, 0, api.ErrSign)
	}
}

// P3.4, P1: signatures of any bytes neither panic nor are accepted.
func TestAnyBytes(t *testing.T) {
	for height := -1; height <= 7; height++ {
		size := 16 * (68 + max(height, 0))
		for i := range 20 {
			s := number(i%4) + bytesOf(size, i)
			if index, e := sign.Verify(api.Digest{}, height, "m", s); index != 0 || e == api.OK {
				t.Errorf("P3.4: height %d, any bytes: %d and %d", height, index, e)
			}
			s = bytesOf(16*i, i)
			if index, e := sign.Verify(api.Digest{}, height, "m", s); index != 0 || e == api.OK {
				t.Errorf("P3.4: height %d, %d bytes: %d and %d", height, len(s), index, e)
			}
		}
	}
}

// The examples of the chapter.
func TestExamples(t *testing.T) {
	p := public(t, counted(), 1)
	s := signed(t, counted(), 1, 1, "m")
	verified(t, "example", p, 1, "m", s, 1, api.OK)
	verified(t, "example", p, 1, "n", s, 0, api.ErrSign)
	if s, e := sign.Sign(counted(), 1, 2, "m"); s != "" || e != api.ErrSpent {
		t.Error("example: Sign:", e)
	}
	if p, e := sign.Public(counted()[:31], 0); p != (api.Digest{}) || e != api.ErrArg {
		t.Error("example: Public:", e)
	}
	verified(t, "example", p, 7, "", "", 0, api.ErrArg)
}

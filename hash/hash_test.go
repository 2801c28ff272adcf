package hash_test

import (
	"crypto/hmac"
	"crypto/sha256"
	"encoding/binary"
	"encoding/hex"
	"math"
	"slices"
	"strings"
	"testing"
	"time"

	"gantry/api"
	"gantry/hash"
	"gantry/wire"
)

// text returns n bytes that do not repeat themselves soon, and that differ for another seed.
func text(n, seed int) string {
	b := make([]byte, n)
	x := uint64(seed)
	for i := range b {
		x = x*6364136223846793005 + 1442695040888963407
		b[i] = byte(x >> 56)
	}
	return string(b)
}

// lengths returns the lengths of texts to be hashed: all up to some blocks, and the borders of later blocks.
func lengths() []int {
	var l []int
	for n := range 4*64 + 2 {
		l = append(l, n)
	}
	for _, blocks := range []int{8, 16, 128, 1024} {
		for _, d := range []int{-9, -8, -1, 0, 1, 55, 56, 57, 63} {
			l = append(l, 64*blocks+d)
		}
	}
	return l
}

// code returns what P2.3 says, with other means than the program.
func code(key, message string) string {
	h := hmac.New(sha256.New, []byte(key))
	h.Write([]byte(message))
	return string(h.Sum(nil))
}

// digest returns what P2.4 says, with other means than the program.
func digest(tag byte, parts ...string) api.Digest {
	input := []byte{tag}
	for _, part := range parts {
		var length [8]byte
		binary.BigEndian.PutUint64(length[:], uint64(len(part)))
		digits := strings.TrimLeft(string(length[:]), "\x00")
		input = append(input, byte(128+len(digits)))
		input = append(append(input, digits...), part...)
	}
	sum := sha256.Sum256(input)
	return api.Digest(sum[:api.DigestSize])
}

// sums tests the hash of a message, in one piece and as a stream.
func sums(t *testing.T, message, want string) {
	t.Helper()
	sum := hash.Sum([]byte(message))
	if got := hex.EncodeToString(sum[:]); got != want {
		t.Errorf("P2.1: %d bytes: %s, not %s", len(message), got, want)
	}
	sum = hash.Begin().Add(message).Sum()
	if got := hex.EncodeToString(sum[:]); got != want {
		t.Errorf("P2.2: %d bytes: %s, not %s", len(message), got, want)
	}
}

// P2.1, P2.2: published hashes.
func TestKnownSums(t *testing.T) {
	const two = "abcdbcdecdefdefgefghfghighijhijkijkljklmklmnlmnomnopnopq"
	const empty = "e3b0c44298fc1c149afbf4c8996fb92427ae41e4649b934ca495991b7852b855"
	sums(t, "", empty)
	sums(t, "abc", "ba7816bf8f01cfea414140de5dae2223b00361a396177a9cb410ff61f20015ad")
	sums(t, two, "248d6a61d20638b8e5c026930c3e6039a33ce45964ff2167f6ecedd419db06c1")
	sums(t, strings.Repeat("a", 1000000), "cdc76e5c9914fb9281a1c7e284d73e67f1809a48a497200e046d39ccc7112cd0")
	if sum := hash.Sum(nil); hex.EncodeToString(sum[:]) != empty {
		t.Error("P2.1: the hash of nil")
	}
	if sum := hash.Begin().Sum(); hex.EncodeToString(sum[:]) != empty {
		t.Error("P2.2: the hash of a stream without pieces")
	}
}

// P2.1, P2.2: every length around the borders of blocks, and bytes of every kind.
func TestLengths(t *testing.T) {
	for _, n := range lengths() {
		for _, message := range []string{text(n, n), strings.Repeat("\x00", n), strings.Repeat("\xff", n)} {
			want := sha256.Sum256([]byte(message))
			sums(t, message, hex.EncodeToString(want[:]))
		}
	}
	for c := range 256 {
		message := strings.Repeat(string([]byte{byte(c)}), 3)
		want := sha256.Sum256([]byte(message))
		sums(t, message, hex.EncodeToString(want[:]))
	}
}

// P2.1: a length of which the bits take more than two bytes.
func TestLong(t *testing.T) {
	message := text(1<<24+9, 3)
	want := sha256.Sum256([]byte(message))
	sums(t, message, hex.EncodeToString(want[:]))
}

// P2.2, P2.6: the pieces of a message do not matter.
func TestPieces(t *testing.T) {
	for _, n := range []int{0, 1, 55, 56, 63, 64, 65, 119, 120, 127, 128, 129, 200} {
		message := text(n, 5)
		want := sha256.Sum256([]byte(message))
		for i := range n + 1 {
			if hash.Begin().Add(message[:i]).Add(message[i:]).Sum() != want {
				t.Errorf("P2.6: %d bytes in two pieces, the first one of %d bytes", n, i)
			}
			if hash.Begin().Add("").Add(message[:i]).Add("").Add("").Add(message[i:]).Add("").Sum() != want {
				t.Errorf("P2.6: %d bytes with empty pieces, the first one of %d bytes", n, i)
			}
		}
	}
	message := text(1000, 6)
	want := sha256.Sum256([]byte(message))
	for size := 1; size <= 200; size++ {
		s := hash.Begin()
		for piece := range slices.Chunk([]byte(message), size) {
			s = s.Add(string(piece))
		}
		if s.Sum() != want {
			t.Error("P2.6: pieces of the size", size)
		}
		if s != hash.Begin().Add(message) {
			t.Error("pieces of the size", size, "leave something of themselves in the stream")
		}
	}
}

// P2.2: a hash of what has come so far does not disturb what follows.
func TestSumsOnTheWay(t *testing.T) {
	message := text(300, 7)
	s := hash.Begin()
	for i := range len(message) {
		want := sha256.Sum256([]byte(message[:i]))
		if s.Sum() != want || s.Sum() != want {
			t.Error("P2.2: after", i, "bytes")
		}
		s = s.Add(message[i : i+1])
	}
}

// P2.2: a stream does not change when others continue it.
func TestBranches(t *testing.T) {
	rests := []string{"", "\x00", "x", text(8, 1), text(63, 2), text(64, 3), text(65, 4), text(200, 5)}
	for n := range 130 {
		message := text(n, 8)
		s := hash.Begin().Add(message)
		copied := s
		want := sha256.Sum256([]byte(message))
		var branches []hash.Stream
		for _, rest := range rests {
			branches = append(branches, s.Add(rest))
			if s.Sum() != want || copied.Sum() != want {
				t.Errorf("P2.2: a stream of %d bytes was changed by adding %d bytes", n, len(rest))
			}
		}
		for i, rest := range rests {
			if branches[i].Sum() != sha256.Sum256([]byte(message+rest)) {
				t.Errorf("P2.2: %d bytes after %d bytes, beside others", len(rest), n)
			}
			both := branches[i].Add(rests[len(rests)-1-i])
			if both.Sum() != sha256.Sum256([]byte(message+rest+rests[len(rests)-1-i])) {
				t.Errorf("P2.2: a branch of %d and %d bytes", n, len(rest))
			}
		}
	}
	if hash.Begin().Add("x").Sum() == hash.Begin().Sum() {
		t.Error("P2.2: Begin is not empty")
	}
}

// P1: the results for the zero Stream are not specified, but it does not panic.
func TestZeroStream(t *testing.T) {
	var s hash.Stream
	s.Sum()
	s.Add("").Sum()
	s.Add(text(200, 9)).Add("x").Sum()
}

// P2.3: published codes, whose keys are below and above the size of a block.
func TestKnownMacs(t *testing.T) {
	fill := func(c byte, n int) string { return strings.Repeat(string([]byte{c}), n) }
	for i, x := range []struct{ key, text, want string }{
		{"", "", "b613679a0814d9ec772f95d778c35fc5ff1697c493715653c6c712144292c5ad"},
		{"Jefe", "what do ya want for nothing?", "5bdcc146bf60754e6a042426089575c75a003f089d2739839dec58b964ec3843"},
		{fill(0x0b, 20), "Hi There", "b0344c61d8db38535ca8afceaf0bf12b881dc200c9833da726e9376c2e32cff7"},
		{fill(0xaa, 20), fill(0xdd, 50), "773ea91e36800e46854db8ebd09181a72959098b3ef8c122d9635514ced565fe"},
		{fill(0xaa, 131), "Test Using Larger Than Block-Size Key - Hash Key First",
			"60e431591ee0b67f0d8a26aacbf5b77f8e0bc6213728c5140546040f0ee37f54"},
		{fill(0xaa, 131), "This is a test using a larger than block-size key and a larger than block-size data. " +
			"The key needs to be hashed before being used by the HMAC algorithm.",
			"9b09ffa71b942fcb27635fbcd5b0e944bfdc63644f0713938a7f51535c3a35e2"},
	} {
		if got := hex.EncodeToString([]byte(hash.Mac(x.key, x.text))); got != x.want {
			t.Errorf("P2.3: code %d: %s, not %s", i, got, x.want)
		}
	}
}

// P2.3: keys at, below and above the size of a block, and texts around the borders of blocks.
func TestMac(t *testing.T) {
	for _, k := range []int{0, 1, 31, 32, 33, 55, 56, 63, 64, 65, 66, 127, 128, 129, 1000} {
		for _, n := range []int{0, 1, 31, 32, 54, 55, 56, 57, 63, 64, 65, 119, 120, 128, 500} {
			key, message := text(k, k+1), text(n, n)
			if got := hash.Mac(key, message); got != code(key, message) {
				t.Errorf("P2.3: a key of %d bytes, a text of %d bytes: %x", k, n, got)
			}
		}
	}
	sum := hash.Sum([]byte(text(65, 1)))
	if hash.Mac(text(65, 1), "a") != hash.Mac(string(sum[:]), "a") {
		t.Error("P2.3: a long key is not replaced by its hash")
	}
	if hash.Mac("k", "a") != hash.Mac("k"+strings.Repeat("\x00", 63), "a") {
		t.Error("P2.3: a key is not extended to 64 zero bytes")
	}
	if hash.Mac("k", "a") == hash.Mac("k"+strings.Repeat("\x00", 64), "a") {
		t.Error("P2.3: a key of 65 bytes is not replaced")
	}
	if len(hash.Mac("k", "a")) != 32 {
		t.Error("P2.3: a code has not 32 bytes")
	}
}

// P2.4.
func TestKnownDigests(t *testing.T) {
	d := hash.Of(1)
	if got := hex.EncodeToString(d[:]); !strings.HasPrefix(got, "4bf5122f") || !strings.HasSuffix(got, "8cd2b7e3") {
		t.Error("P2.4: Of(1):", got)
	}
	d = hash.Of(8, "a", "")
	if got := hex.EncodeToString(d[:]); !strings.HasPrefix(got, "36cd5085") || !strings.HasSuffix(got, "a7d8fb62") {
		t.Error(`P2.4: Of(8, "a", ""):`, got)
	}
}

// lists returns different lists of parts, many of which are alike when their parts are put together.
func lists() [][]string {
	return [][]string{
		{}, {""}, {"", ""}, {"", "", ""},
		{"a"}, {"a", ""}, {"", "a"}, {"b"}, {"A"}, {"\x00"}, {"\x00\x00"}, {"\x00", "\x00"},
		{"ab"}, {"a", "b"}, {"b", "a"}, {"ab", ""}, {"", "ab"}, {"a", "", "b"}, {"abc"}, {"a", "bc"}, {"ab", "c"},
		{"\x80"}, {"\x80\x80"}, {"\x81\x01a"}, {"a\x81\x01b"}, {"\x81", "\x01a"}, {"\xff\xfe"},
		{text(54, 1)}, {text(61, 1)}, {text(62, 1)}, {text(63, 1)}, {text(64, 1)}, {text(65, 1)},
		{text(64, 1), text(64, 1)}, {text(128, 1)}, {text(127, 1), "a"},
		{text(255, 1)}, {text(256, 1)}, {text(257, 1)}, {text(65535, 1)}, {text(65536, 1)},
		{text(300, 1), "", text(300, 2)}, slices.Repeat([]string{""}, 300), slices.Repeat([]string{"a"}, 300),
	}
}

// P2.4, P2.6: the digests of different lists with different tags are right, and different.
func TestOf(t *testing.T) {
	seen := map[api.Digest]bool{}
	for _, l := range lists() {
		for _, tag := range []int{0, 1, 2, 12, 127, 128, 129, 254, 255} {
			d := hash.Of(tag, l...)
			if d != digest(byte(tag), l...) {
				t.Errorf("P2.4: the tag %d, %d parts: %x", tag, len(l), d)
			}
			if seen[d] {
				t.Errorf("P2.6: the tag %d, %d parts: the digest of another list", tag, len(l))
			}
			seen[d] = true
		}
	}
	if hash.Of(3, nil...) != hash.Of(3) {
		t.Error("P2.4: a list of parts that is nil")
	}
}

// P2.4: the parts are those of layer 1.
func TestOfWire(t *testing.T) {
	sum := hash.Sum(slices.Concat([]byte{9}, wire.Bytes("ab"), wire.Bytes(""), wire.Bytes(text(300, 4))))
	if d := hash.Of(9, "ab", "", text(300, 4)); d != api.Digest(sum[:16]) {
		t.Errorf("P2.4: %x", d)
	}
}

// P2.4: a tag of any value is taken modulo 256.
func TestTags(t *testing.T) {
	seen := map[api.Digest]bool{}
	for tag := range 256 {
		d := digest(byte(tag), "a", "")
		if seen[d] {
			t.Error("P2.6: the tag", tag)
		}
		seen[d] = true
		for _, n := range []int{0, 256, -256, 512, -512, 1 << 32, -1 << 32, 1<<62 + 256, math.MinInt} {
			if hash.Of(tag+n, "a", "") != d {
				t.Errorf("P2.4: the tag %d is not %d", tag+n, tag)
			}
		}
	}
	for _, x := range []struct {
		tag  int
		want byte
	}{{-1, 255}, {-2, 254}, {-128, 128}, {-129, 127}, {-255, 1}, {-256, 0}, {-257, 255}, {256, 0}, {257, 1}, {math.MaxInt, 255}, {math.MinInt, 0}} {
		if hash.Of(x.tag) != digest(x.want) || hash.Of(x.tag, "b") != digest(x.want, "b") {
			t.Errorf("P2.4: the tag %d is not %d", x.tag, x.want)
		}
	}
}

// P2.5.
func TestEqual(t *testing.T) {
	for _, x := range []struct {
		a, b string
		want bool
	}{
		{"ab", "ab", true}, {"ab", "ac", false}, {"", "a", false}, {"a", "", false}, {"", "", true},
		{"a", "ab", false}, {"ab", "b", false}, {"a", "A", false}, {"ab", "ba", false},
		{"\x00", "", false}, {"", "\x00", false}, {"\x00", "\x00\x00", false}, {"\x00", "\x00", true},
		{"\x00\x00", "\x00\x01", false}, {"\xff", "\x7f", false}, {"\xff\xfe", "\xff\xfe", true},
		{"\x80", "\x00", false}, {"a\x00b", "a\x00c", false}, {"ab", "ab\x00", false},
		// Differences that cancel each other when they are added or combined.
		{"\x01\x01", "\x02\x02", false}, {"\x01\x02", "\x02\x01", false}, {"\x00\xff", "\x01\xfe", false},
		{strings.Repeat("\x00", 256), strings.Repeat("\x01", 256), false},
	} {
		if hash.Equal(x.a, x.b) != x.want {
			t.Errorf("P2.5: Equal(%q, %q) is not %v", x.a, x.b, x.want)
		}
	}
	for c := range 256 {
		for d := range 256 {
			a, b := string([]byte{7, byte(c), 7}), string([]byte{7, byte(d), 7})
			if hash.Equal(a, b) != (c == d) {
				t.Errorf("P2.5: the bytes %d and %d", c, d)
			}
		}
	}
}

// P2.5: every byte and every bit of it counts.
func TestEqualPlaces(t *testing.T) {
	for _, n := range []int{1, 2, 7, 8, 9, 16, 32, 64, 65, 300} {
		a := text(n, 11)
		if !hash.Equal(a, strings.Clone(a)) || hash.Equal(a, a[:n-1]) || hash.Equal(a[1:], a) {
			t.Error("P2.5: the length", n)
		}
		for i := range n {
			for bit := range 8 {
				b := []byte(a)
				b[i] ^= 1 << bit
				if hash.Equal(a, string(b)) || hash.Equal(string(b), a) {
					t.Errorf("P2.5: bit %d of byte %d of %d", bit, i, n)
				}
			}
		}
	}
}

// shortest returns the shortest of some times that the comparison of two strings takes.
func shortest(a, b string) time.Duration {
	least := time.Hour
	for range 9 {
		start := time.Now()
		hash.Equal(a, b)
		least = min(least, time.Since(start))
	}
	return least
}

// P2.5: all bytes are looked at. A comparison that ends at the first difference is thousands of times faster here.
func TestEqualTime(t *testing.T) {
	a := strings.Repeat("x", 1<<22)
	early, late := "y"+a[1:], a[1:]+"y"
	if first, last := shortest(a, early), shortest(a, late); first < last/50 {
		t.Errorf("P2.5: a difference at the beginning is found in %v, one at the end in %v", first, last)
	}
}

// A slice that was hashed is neither changed nor kept, and results are new memory.
func TestArguments(t *testing.T) {
	b := []byte(text(100, 12))
	before := slices.Clone(b)
	first := hash.Sum(b)
	if !slices.Equal(b, before) {
		t.Error("P2.1: the argument was changed")
	}
	clear(b)
	if first != sha256.Sum256(before) {
		t.Error("P2.1: the result changes with the argument")
	}
	parts := []string{"a", "b"}
	hash.Of(1, parts...)
	if !slices.Equal(parts, []string{"a", "b"}) {
		t.Error("P2.4: an argument was changed")
	}
}

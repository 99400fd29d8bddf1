package hmac

import (
	"bytes"
	"strings"
	"testing"

	"reliquary/api"
	"reliquary/sha"
)

// sizes are those of keys and of texts: around a block, around what a block's end has room for, and far beyond.
var sizes = []int{0, 1, 2, 16, 31, 32, 33, 54, 55, 56, 63, 64, 65, 66, 119, 120, 127, 128, 129, 200, 512}

// P4.1: Of.

func TestOfTheExample(t *testing.T) {
	sum := Of([]byte("Jefe"), []byte("what do ya want "), []byte("for nothing?"))
	if got := sha.Hex(sum[:]); got != "5bdcc146bf60754e6a042426089575c75a003f089d2739839dec58b964ec3843" {
		t.Error(got)
	}
}

// TestOfPublished has the cases that RFC 4231 tells.
func TestOfPublished(t *testing.T) {
	for i, c := range []struct{ key, text, want string }{
		{strings.Repeat("\x0b", 20), "Hi There", "b0344c61d8db38535ca8afceaf0bf12b881dc200c9833da726e9376c2e32cff7"},
		{"Jefe", "what do ya want for nothing?", "5bdcc146bf60754e6a042426089575c75a003f089d2739839dec58b964ec3843"},
		{strings.Repeat("\xaa", 20), strings.Repeat("\xdd", 50), "773ea91e36800e46854db8ebd09181a72959098b3ef8c122d9635514ced565fe"},
		{"\x01\x02\x03\x04\x05\x06\x07\x08\x09\x0a\x0b\x0c\x0d\x0e\x0f\x10\x11\x12\x13\x14\x15\x16\x17\x18\x19", strings.Repeat("\xcd", 50), "82558a389a443c0ea4cc819899f2083a85f0faa3e578f8077a2e3ff46729665b"},
		{strings.Repeat("\xaa", 131), "Test Using Larger Than Block-Size Key - Hash Key First", "60e431591ee0b67f0d8a26aacbf5b77f8e0bc6213728c5140546040f0ee37f54"},
		{strings.Repeat("\xaa", 131), "This is a test using a larger than block-size key and a larger than block-size data. The key needs to be hashed before being used by the HMAC algorithm.", "9b09ffa71b942fcb27635fbcd5b0e944bfdc63644f0713938a7f51535c3a35e2"},
		{"", "", "b613679a0814d9ec772f95d778c35fc5ff1697c493715653c6c712144292c5ad"},
		{"key", "The quick brown fox jumps over the lazy dog", "f7bc83f430538424b13298e6aa6fb143ef4d59a14946175997479dbc2d1a3cd8"},
	} {
		sum := Of([]byte(c.key), []byte(c.text))
		if got := sha.Hex(sum[:]); got != c.want {
			t.Errorf("case %d: %s, not %s", i, got, c.want)
		}
	}
}

func TestOfKnownSizes(t *testing.T) {
	for _, c := range []struct {
		key, text int
		want      string
	}{
		{0, 1, "3d7afb663124ecbf2c953f863d4fc8796eeb2d372b64aad58697ec5264649cdb"},
		{1, 0, "2f8738164025afdddbc18665c6e8f37de9498db7fd194873c61ee30c22192a9a"},
		{32, 64, "e9a629ba3cb867dbd4fb83c8dfeeff4da34ab9d98f5f38ef00d8e3d6e55b00a0"},
		{63, 55, "1b67d2a93b2df7c78ff0483548e72123ef015c331b9fef627d3dee2b9dabf74d"},
		{64, 0, "16121942c3028158061ee6c75edcb1391089c880f4a1e5c44beb90bfad1a01a0"},
		{64, 64, "f246d45b8d667f4ecf1b41a56a1761a1df7d8da3c53a7d1fc470deb73c3d645a"},
		{65, 0, "769f84de19dbbe3fa746fa7b06791c269ffda2f5af1de0d75ea9a7a3fed8fce6"},
		{65, 200, "cf86e77648a80919cdb66310420b3b57584e9f9b053e3a063fd6f291c1e20bd8"},
		{127, 1, "a5bd5a60ab5dd266cd00b8c6a943f12bb07fc5276b96acd318db52647472a52a"},
		{128, 55, "5b50d78a0c6eeb537bd95e9ffd5e94ec91f1980a70b9b168c238af1d06cf4bab"},
		{129, 64, "32fa3c01b61880e138ec1552931db41079bf53cf812d5c6dcb24e7df6fd975e4"},
		{512, 200, "9f2fd05d4bd022502e540a3ca8e72f0307d20a78a21ab77b11eefdcb76884663"},
	} {
		sum := Of(sample(c.key), sample(c.text))
		if got := sha.Hex(sum[:]); got != c.want {
			t.Errorf("a key of %d, a text of %d bytes: %s, not %s", c.key, c.text, got, c.want)
		}
	}
}

func TestOfFollowsTheChapter(t *testing.T) {
	for size := range 200 {
		for _, key := range [][]byte{sample(size), make([]byte, size), bytes.Repeat([]byte{0xff}, size), bytes.Repeat([]byte{0x36}, size), bytes.Repeat([]byte{0x5c}, size)} {
			for _, n := range sizes {
				if got, want := Of(key, sample(n)), slowOf(key, sample(n)); got != want {
					t.Fatalf("a key of %d, a text of %d bytes: %x, not %x", size, n, got, want)
				}
			}
		}
	}
}

func TestOfTellsEachBitApart(t *testing.T) {
	for _, size := range []int{1, 32, 63, 64, 65, 130} {
		seen := map[api.Sum]bool{Of(sample(size), sample(size)): true}
		for i := range 8 * size {
			b := sample(size)
			b[i/8] ^= 1 << (i % 8)
			for _, sum := range []api.Sum{Of(b, sample(size)), Of(sample(size), b)} {
				if seen[sum] {
					t.Fatalf("of %d bytes the bit %d", size, i)
				}
				seen[sum] = true
			}
		}
	}
}

func TestOfParts(t *testing.T) {
	for _, size := range sizes {
		key := sample(size)
		none := slowOf(key, nil)
		if Of(key) != none || Of(key, nil) != none || Of(key, nil, []byte{}, nil) != none || Of(key, [][]byte{}...) != none {
			t.Errorf("a key of %d bytes: nothing has one sum", size)
		}
		for _, n := range sizes {
			b := sample(n)
			want := slowOf(key, b)
			for i := range n + 1 {
				if Of(key, b[:i], b[i:]) != want || Of(key, nil, b[:i], nil, b[i:], nil) != want {
					t.Fatalf("a key of %d, a text of %d bytes, cut at %d", size, n, i)
				}
			}
		}
	}
	if Of(nil, []byte("bc"), []byte("a")) == Of(nil, []byte("a"), []byte("bc")) {
		t.Error("the order of the parts counts")
	}
	if Of([]byte("a"), []byte("bc")) == Of([]byte("ab"), []byte("c")) || Of([]byte("a"), []byte("b")) == Of([]byte("b"), []byte("a")) {
		t.Error("a key is no part")
	}
	b := sample(64)
	if Of(b, b, b, b) != slowOf(b, bytes.Repeat(b, 3)) {
		t.Error("one part three times, and as a key")
	}
}

func TestOfOfNoKey(t *testing.T) {
	for _, n := range sizes {
		if Of(nil, sample(n)) != slowOf(nil, sample(n)) || Of([]byte{}, sample(n)) != slowOf(nil, sample(n)) {
			t.Errorf("a text of %d bytes", n)
		}
	}
}

func TestOfChangesNothingThatWasGiven(t *testing.T) {
	for _, size := range sizes {
		key, room := sample(600), sample(700)
		parts := [][]byte{room[:size], room[size : size+5], nil, room[:0]}
		first := Of(key[:size], parts...)
		if !bytes.Equal(key, sample(600)) || !bytes.Equal(room, sample(700)) {
			t.Fatalf("a key of %d bytes: what was given, or its room, was changed", size)
		}
		if len(parts) != 4 || len(parts[0]) != size || len(parts[1]) != 5 || parts[2] != nil || len(parts[3]) != 0 {
			t.Fatalf("a key of %d bytes: the list of parts was changed", size)
		}
		if Of(key[:size], parts...) != first {
			t.Fatalf("a key of %d bytes: the second sum is another", size)
		}
	}
}

// P4.2: Mac.

func TestNew(t *testing.T) {
	for _, size := range sizes {
		m := New(sample(size))
		if m == nil || m.Sum() != slowOf(sample(size), nil) {
			t.Fatalf("a key of %d bytes: something was written", size)
		}
		for _, b := range [][]byte{nil, {}} {
			if m.Write(b) != api.OK || m.Sum() != slowOf(sample(size), nil) {
				t.Fatalf("a key of %d bytes: nothing is written", size)
			}
		}
	}
	if New(nil).Sum() != slowOf(nil, nil) {
		t.Error("nil is a key, too")
	}
}

func TestWriteIsBehindWhatWas(t *testing.T) {
	for _, size := range sizes {
		for _, step := range []int{1, 7, 55, 56, 63, 64, 65, 128, 200} {
			m, written := New(sample(size)), []byte{}
			for len(written) < 300 {
				piece := sample(step + len(written)%3)
				if e := m.Write(piece); e != api.OK {
					t.Fatalf("Write = %d", int(e))
				}
				written = append(written, piece...)
				want := slowOf(sample(size), written)
				if m.Sum() != want || m.Sum() != want || Of(sample(size), written) != want {
					t.Fatalf("a key of %d bytes, behind %d bytes, %d at a time: %x", size, len(written), step, m.Sum())
				}
			}
		}
	}
}

func TestSumIsNotNeededBetweenWrites(t *testing.T) {
	for _, size := range sizes {
		m := New(sample(size))
		for n := range 100 {
			m.Write([]byte{byte(n)})
		}
		b := []byte{}
		for n := range 100 {
			b = append(b, byte(n))
		}
		if m.Sum() != slowOf(sample(size), b) {
			t.Errorf("a key of %d bytes", size)
		}
	}
}

func TestNilMac(t *testing.T) {
	var m *Mac
	for _, b := range [][]byte{nil, {}, {1}, sample(100)} {
		if e := m.Write(b); e != api.ErrNil {
			t.Errorf("Write = %d", int(e))
		}
	}
	if m.Sum() != (api.Sum{}) {
		t.Error("nil has something")
	}
}

func TestMacsHaveNothingInCommon(t *testing.T) {
	key := sample(40)
	one, same, other := New(key), New(key), New(sample(41))
	one.Write(sample(100))
	if same.Sum() != slowOf(key, nil) || other.Sum() != slowOf(sample(41), nil) {
		t.Error("what one writes is to be seen")
	}
	same.Write([]byte("a"))
	other.Write([]byte("b"))
	one.Write([]byte("c"))
	if one.Sum() != slowOf(key, append(sample(100), 'c')) || same.Sum() != slowOf(key, []byte("a")) || other.Sum() != slowOf(sample(41), []byte("b")) {
		t.Error("two have something in common")
	}
}

func TestWhatAMacIsGivenIsNeitherChangedNorKept(t *testing.T) {
	for _, size := range sizes {
		key, room := sample(600), sample(600)
		m := New(key[:size])
		m.Write(room[:size])
		want := slowOf(sample(600)[:size], sample(600)[:size])
		if m.Sum() != want || !bytes.Equal(key, sample(600)) || !bytes.Equal(room, sample(600)) {
			t.Fatalf("%d bytes: what was given, or its room, was changed", size)
		}
		for i := range key {
			key[i], room[i] = ^key[i], ^room[i]
		}
		if m.Sum() != want {
			t.Fatalf("%d bytes: a change of what was given is to be seen", size)
		}
		m.Write([]byte("more"))
		if m.Sum() != slowOf(sample(600)[:size], append(sample(600)[:size], "more"...)) {
			t.Fatalf("%d bytes: a change of the key is to be seen behind a Write", size)
		}
	}
}

// P4.3: Equal.

func TestEqual(t *testing.T) {
	for _, c := range []struct {
		a, b string
		want bool
	}{
		{"", "", true}, {"a", "a", true}, {"a", "b", false}, {"a", "", false}, {"", "a", false}, {"\x00", "", false}, {"", "\x00", false},
		{"\x00", "\x00", true}, {"\x00", "\x01", false}, {"\x00", "\x80", false}, {"\xff", "\x00", false}, {"ab", "ba", false}, {"ab", "ab", true},
		{"ab", "abc", false}, {"abc", "ab", false}, {"abc", "bc", false}, {"\x01\x01", "\x00\x00", false}, {"\x02", "\x02\x01", false},
	} {
		if got := Equal([]byte(c.a), []byte(c.b)); got != c.want {
			t.Errorf("Equal(%q, %q) = %t", c.a, c.b, got)
		}
	}
	if !Equal(nil, nil) || !Equal(nil, []byte{}) || !Equal([]byte{}, nil) || Equal(nil, []byte{0}) || Equal([]byte{0}, nil) {
		t.Error("nothing is the same as nothing alone")
	}
}

func TestEqualOfEachTwoBytes(t *testing.T) {
	for a := range 256 {
		for b := range 256 {
			if Equal([]byte{byte(a)}, []byte{byte(b)}) != (a == b) {
				t.Fatalf("%d and %d", a, b)
			}
		}
	}
}

func TestEqualOfEachTwoLengths(t *testing.T) {
	noughts := make([]byte, 600)
	for a := range len(noughts) + 1 {
		for b := range len(noughts) + 1 {
			if Equal(noughts[:a], noughts[:b]) != (a == b) {
				t.Fatalf("%d and %d noughts", a, b)
			}
		}
	}
	if Equal(make([]byte, 1<<16), make([]byte, 1<<17)) || Equal(make([]byte, 1<<16), nil) {
		t.Error("noughts of other lengths")
	}
}

func TestEqualLooksAtEachBit(t *testing.T) {
	for _, size := range []int{1, 2, 32, 33, 100} {
		a, b := sample(size), sample(size)
		if !Equal(a, b) || !Equal(a, a) {
			t.Fatalf("%d bytes", size)
		}
		for i := range 8 * size {
			b[i/8] ^= 1 << (i % 8)
			if Equal(a, b) || Equal(b, a) {
				t.Fatalf("of %d bytes the bit %d", size, i)
			}
			b[i/8] ^= 1 << (i % 8)
		}
		for i := range size {
			for j := range i {
				b[i], b[j] = b[i]^0xff, b[j]^0xff // two that are off by as much
				if Equal(a, b) {
					t.Fatalf("of %d bytes those at %d and %d", size, i, j)
				}
				b[i], b[j] = b[i]^0xff, b[j]^0xff
			}
		}
		if !bytes.Equal(a, sample(size)) || !bytes.Equal(b, sample(size)) {
			t.Fatalf("%d bytes: what was given was changed", size)
		}
	}
}

func TestEqualOfSums(t *testing.T) {
	a, b, c := Of(sample(32), sample(3)), Of(sample(32), sample(3)), Of(sample(32), sample(4))
	if !Equal(a[:], b[:]) || Equal(a[:], c[:]) || Equal(a[:], c[:31]) {
		t.Error("sums")
	}
}

// P4.4.

func TestNoughtsBehindAShortKeyChangeNothing(t *testing.T) {
	for size := range 64 {
		key := sample(size)
		want := slowOf(key, []byte("text"))
		for len(key) < 64 {
			key = append(key, 0)
			m := New(key)
			m.Write([]byte("text"))
			if Of(key, []byte("text")) != want || m.Sum() != want {
				t.Fatalf("a key of %d bytes with noughts up to %d", size, len(key))
			}
		}
		key = append(key, 0)
		if Of(key, []byte("text")) == want {
			t.Fatalf("a key of %d bytes with noughts up to 65 is a longer one", size)
		}
	}
}

func TestNoughtsAheadOfAKeyCount(t *testing.T) {
	for size := 1; size < 64; size++ {
		if Of(append([]byte{0}, sample(size)...)) == Of(sample(size)) {
			t.Fatalf("a key of %d bytes", size)
		}
	}
}

func TestALongKeyIsAsGoodAsItsSum(t *testing.T) {
	for size := 65; size < 300; size++ {
		sum := sha.Of(sample(size))
		long, short := New(sample(size)), New(sum[:])
		long.Write([]byte("text"))
		short.Write([]byte("text"))
		if Of(sample(size), []byte("text")) != Of(sum[:], []byte("text")) || long.Sum() != short.Sum() || long.Sum() != Of(sum[:], []byte("text")) {
			t.Fatalf("a key of %d bytes", size)
		}
	}
	for size := range 65 {
		if sum := sha.Of(sample(size)); Of(sample(size)) == Of(sum[:]) {
			t.Fatalf("a key of %d bytes is taken as it is", size)
		}
	}
}

func BenchmarkOf(b *testing.B) {
	key, text := sample(32), sample(32)
	for b.Loop() {
		Of(key, text)
	}
}

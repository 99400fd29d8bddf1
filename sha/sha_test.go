package sha

import (
	"bytes"
	"strings"
	"testing"

	"reliquary/api"
)

// sample has so many unlike bytes.
func sample(n int) []byte {
	b := make([]byte, n)
	for i := range b {
		b[i] = byte(i*7 + n)
	}
	return b
}

// P3.1: Of.

func TestOfKnownTexts(t *testing.T) {
	for _, c := range []struct{ name, text, want string }{
		{"nothing", "", "e3b0c44298fc1c149afbf4c8996fb92427ae41e4649b934ca495991b7852b855"},
		{"abc", "abc", "ba7816bf8f01cfea414140de5dae2223b00361a396177a9cb410ff61f20015ad"},
		{"56 letters", "abcdbcdecdefdefgefghfghighijhijkijkljklmklmnlmnomnopnopq", "248d6a61d20638b8e5c026930c3e6039a33ce45964ff2167f6ecedd419db06c1"},
		{"112 letters", "abcdefghbcdefghicdefghijdefghijkefghijklfghijklmghijklmnhijklmnoijklmnopjklmnopqklmnopqrlmnopqrsmnopqrstnopqrstu", "cf5b16a778af8380036ce59e7b0492370b249b11e8f07a51afac45037afee9d1"},
		{"a fox", "The quick brown fox jumps over the lazy dog", "d7a8fbb307d7809469ca9abcb0082e4f8d5651e46d3cdb762d02d0bf37c9e592"},
		{"a million letters", strings.Repeat("a", 1000000), "cdc76e5c9914fb9281a1c7e284d73e67f1809a48a497200e046d39ccc7112cd0"},
	} {
		sum := Of([]byte(c.text))
		if got := Hex(sum[:]); got != c.want {
			t.Errorf("%s: %s, not %s", c.name, got, c.want)
		}
	}
}

func TestOfKnownSizes(t *testing.T) {
	for _, c := range []struct {
		size int
		want string
	}{
		{1, "4bf5122f344554c53bde2ebb8cd2b7e3d1600ad631c385a5d7cce23c7785459a"},
		{54, "1ad616be707a2b269ecfe28bdea4a4284a4f78a221287d45b98004231f501c77"},
		{55, "81afe5b788dc2ce138ff83d9b20164db75a94d75d2b2432eea4a0ef605088c72"},
		{56, "2aba54f0ac632420a2b502431408866e40e1d5e430df4cd822642c78ab2eb9c1"},
		{57, "903284efbf9100e8ba1614ec65eacacad125e03f857cae7acbf8b73b23e0fdfe"},
		{63, "733d3d4ee79ee67145bf73da13588f6f235d37414fc64b14a2f00f1762792f5e"},
		{64, "79322907b3e9d013d7dc2c2f256674dbf733045cde01df3539271c6f5605feb8"},
		{65, "d85c007c6eb440f085afa2b84f6f2bce4658b240e9f62cb1364bf0485a57e720"},
		{119, "6c87eedf096b345de205b702e5223b73b447a3207791ded3ea007ba15ed6736e"},
		{120, "42500cf6a1e3936d6b9e0bcfe296d654b63255e525487d3634d0b15fde591c4d"},
		{128, "489d55fea9a73af36b6dd0be7b4117d8e5683386d39544e8a44c99a87f368707"},
		{1000, "6b0df76627243d095b0c4400cb658b7e804dd03461cc03aee8fc8fe0bcada168"},
		{65536, "d790e413479d16f4eab89ec0d18e3565e0982bd4788c26736a76d20ea781c901"},
	} {
		sum := Of(sample(c.size))
		if got := Hex(sum[:]); got != c.want {
			t.Errorf("%d bytes: %s, not %s", c.size, got, c.want)
		}
	}
}

func TestOfFollowsTheChapter(t *testing.T) {
	for size := range 300 {
		for _, b := range [][]byte{sample(size), make([]byte, size), bytes.Repeat([]byte{0xff}, size), bytes.Repeat([]byte{0x80}, size)} {
			if got, want := Of(b), slowSum(b); got != want {
				t.Fatalf("%d bytes: %x, not %x", size, got, want)
			}
		}
	}
}

func TestOfTellsEachBitApart(t *testing.T) {
	for _, size := range []int{1, 55, 56, 64, 130} {
		seen := map[api.Sum]bool{Of(sample(size)): true}
		for i := range 8 * size {
			b := sample(size)
			b[i/8] ^= 1 << (i % 8)
			sum := Of(b)
			if seen[sum] || sum != slowSum(b) {
				t.Fatalf("of %d bytes the bit %d: %x", size, i, sum)
			}
			seen[sum] = true
		}
	}
}

func TestOfParts(t *testing.T) {
	none := Of()
	if none != slowSum(nil) || none != Of(nil) || none != Of(nil, []byte{}, nil) || none != Of([][]byte{}...) {
		t.Error("nothing has one sum")
	}
	if Of([]byte("a"), []byte("bc")) != Of([]byte("abc")) || Of(nil, []byte("ab"), nil, []byte("c"), nil) != Of([]byte("abc")) {
		t.Error("parts stand one behind the other")
	}
	if Of([]byte("bc"), []byte("a")) == Of([]byte("a"), []byte("bc")) {
		t.Error("the order of the parts counts")
	}
	b := sample(64)
	if Of(b, b, b) != slowSum(bytes.Repeat(b, 3)) {
		t.Error("one part three times")
	}
}

// P3.2: Hash.

func TestNew(t *testing.T) {
	h := New()
	if h.Len() != 0 || h.Sum() != Of() {
		t.Error("something was written")
	}
	for _, b := range [][]byte{nil, {}} {
		if h.Write(b) != api.OK || h.Len() != 0 || h.Sum() != Of() {
			t.Error("nothing is written")
		}
	}
}

func TestWriteIsBehindWhatWas(t *testing.T) {
	for _, step := range []int{1, 2, 7, 55, 56, 63, 64, 65, 127, 128, 129, 200} {
		h, written := New(), []byte{}
		for len(written) < 400 {
			piece := sample(step + len(written)%3)
			if e := h.Write(piece); e != api.OK {
				t.Fatalf("Write = %d", int(e))
			}
			written = append(written, piece...)
			want := slowSum(written)
			if h.Len() != len(written) || h.Sum() != want || h.Sum() != want || h.Len() != len(written) {
				t.Fatalf("behind %d bytes, %d at a time: Len %d, Sum %x", len(written), step, h.Len(), h.Sum())
			}
		}
	}
}

func TestFork(t *testing.T) {
	for size := range 200 {
		h := New()
		h.Write(sample(size))
		f := h.Fork()
		if f == nil || f == h || f.Len() != size || f.Sum() != Of(sample(size)) {
			t.Fatalf("behind %d bytes: not as it was", size)
		}
		f.Write([]byte("the fork's, which are more than a block has room for, so that one ends in them"))
		if h.Len() != size || h.Sum() != Of(sample(size)) {
			t.Fatalf("behind %d bytes: what the fork writes is to be seen", size)
		}
		whole := f.Sum()
		h.Write([]byte("others"))
		if f.Sum() != whole || whole != Of(sample(size), []byte("the fork's, which are more than a block has room for, so that one ends in them")) {
			t.Fatalf("behind %d bytes: the fork", size)
		}
		if h.Sum() != Of(sample(size), []byte("others")) || h.Len() != size+6 {
			t.Fatalf("behind %d bytes: the one that was forked", size)
		}
	}
}

func TestNilHash(t *testing.T) {
	var h *Hash
	for _, b := range [][]byte{nil, {}, {1}, sample(100)} {
		if e := h.Write(b); e != api.ErrNil {
			t.Errorf("Write = %d", int(e))
		}
	}
	if h.Sum() != (api.Sum{}) || h.Len() != 0 || h.Fork() != nil {
		t.Error("nil has something")
	}
}

func TestHashesHaveNothingInCommon(t *testing.T) {
	one, other := New(), New()
	one.Write(sample(100))
	if other.Len() != 0 || other.Sum() != Of() || New().Sum() != Of() {
		t.Error("two have something in common")
	}
}

func TestWhatIsWrittenIsNeitherChangedNorKept(t *testing.T) {
	for _, size := range []int{1, 55, 63, 64, 65, 100, 128} {
		room := sample(200)
		h := New()
		h.Write(room[:size])
		sum := Of(room[:size])
		if h.Sum() != sum || !bytes.Equal(room, sample(200)) {
			t.Fatalf("%d bytes: what was given, or its room, was changed", size)
		}
		for i := range room {
			room[i] ^= 0xff
		}
		if h.Sum() != sum {
			t.Fatalf("%d bytes: a change of what was given is to be seen", size)
		}
	}
}

func TestNothingIsKeptOfABlockThatEnded(t *testing.T) {
	h := New()
	for size := 1; size < 200; size++ {
		h.Write([]byte{0xff})
		for i, one := range h.open {
			if (one == 0xff) != (i < size%64) {
				t.Fatalf("behind %d bytes: %x", size, h.open)
			}
		}
	}
}

// P3.4.

func TestOneSumHoweverItIsCut(t *testing.T) {
	for _, size := range []int{0, 1, 55, 56, 63, 64, 65, 120, 128, 150, 200} {
		b := sample(size)
		want := slowSum(b)
		for i := range size + 1 {
			h := New()
			h.Write(b[:i])
			h.Write(b[i:])
			if h.Sum() != want || Of(b[:i], b[i:]) != want {
				t.Fatalf("%d bytes cut at %d", size, i)
			}
			for j := i; j <= size; j += 5 {
				if Of(b[:i], b[i:j], b[j:]) != want {
					t.Fatalf("%d bytes cut at %d and %d", size, i, j)
				}
			}
		}
		for step := 1; step <= size; step++ {
			h, parts := New(), [][]byte{}
			for rest := b; len(rest) > 0; {
				n := min(step, len(rest))
				h.Write(rest[:n])
				parts = append(parts, rest[:n], nil)
				rest = rest[n:]
			}
			if h.Sum() != want || h.Len() != size || Of(parts...) != want {
				t.Fatalf("%d bytes, %d at a time", size, step)
			}
		}
	}
}

func BenchmarkOf(b *testing.B) {
	room := sample(4096)
	b.SetBytes(int64(len(room)))
	for b.Loop() {
		Of(room)
	}
}

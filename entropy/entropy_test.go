package entropy

import (
	"math"
	"strings"
	"testing"

	"reliquary/api"
	"reliquary/octet"
	"reliquary/sha"
)

// known is what another SHA-256 made of some seeds: the stream's first 70 bytes, and the sum of the first 4096.
var known = []struct{ name, seed, first, sum string }{
	{"none", "", "81de3150dc97ee4c53b76260fbf7d7910e2cc658fb98a1bb3b8772ce2cd21bf3ee0c44a9684ffe6a6c213b32017b56328c9ee1201006041ba3a70c80a205600ea852728502d3", "a11ad290d78b31e987be5579ecbaf4e7d3b6b3212d94b29f892da2d009840336"},
	{"a", "a", "14678d632c48535cf870530dea9b0639e0ea5ba7603963fa27d3ad8361946e866815c94a7867704ef0b1697f21e94402d56417d054c1f7f20aa6815db7a1af54b950fd3ca40a", "f110c3a52601bc932858b7f72d0c80220c00835839664868ca4cd4b18fa580a4"},
	{"draw", "draw", "feb942fdba29eb956ff89e61c58e2ae84be419791424dea4482b481611faa1b78e2dba21929adc22fffa0f69e9574ae7f0a3478a53434a96bdd547ff39ec92f68c66ca299373", "d34d6a93bc14ebf9b8de8347522f797c651343e6ec402518d4a9bac3de5d3de4"},
	{"a nought", "\x00", "13ab03f794a15a11ec1d7ebe0bbf280d1be843ee6511d17dbc060b07e39a9ba3846879d22a7bf1c18e9a53ee61abcfef0ca9bc73cb7e76af00bcc395f0e3ffbc5358219b9c49", "593807968218c6b92a68c5b773a1703bb2beb04955c1e3f18a1a3e43ec50af92"},
	{"0 to 63", rising(64), "43945edad5edaef62f057edd277fa8730d51912e8c939d6676057f73858fb9f66b56020425535ccfb074b286d3a34e9f631fc864deb20c2296d5c9de32092b2f3eddffec2934", "7947486680d4241c05d5115b5fdeaf6aba8938a0be137cb66db2276816d91444"},
	{"0 to 59", rising(60), "fc6b3afe56ec5105ed740c8274407eb56b521c7c3eba4e5faa60f244b935629e9ff0c17c40d84ff04e57482d7ad7780ef16cfa0bbf45e706f6ebea85b105f8b364dc5695229b", "70403ea2b35aef966695af4c1dd42562f47a64e5a1c2216574e5f82a4fedeb42"},
	{"1000 bytes", sample(1000), "7a7582e45330f44469e3528db0b1ad0a1d782815de6e0d50c089c13cc21e46a35fbb1929c4cdb845b434f0d7558d31aee780c196fa6cd369d384a85f9ad2e33b80947cf77f7d", "289ac0c42101006fd2036636a778a08fd46161677c295610c5025da4c9f82079"},
}

// rising has the bytes from 0 on.
func rising(n int) string {
	b := make([]byte, n)
	for i := range b {
		b[i] = byte(i)
	}
	return string(b)
}

// P9.1: the chapter's example.

func TestExample(t *testing.T) {
	for _, none := range [][]byte{nil, {}} {
		s := New(none)
		mustDraw(t, s, 0)
		mustRefuse(t, s, 1025, api.ErrArg)
		if mustDraw(t, s, 40)+mustDraw(t, s, 2) != slowStream("", 42) || s.Taken() != 42 {
			t.Error("the first 42 bytes")
		}
	}
}

// P9.1: New.

func TestNewStandsAtTheBeginning(t *testing.T) {
	for _, seed := range someSeeds() {
		s := New([]byte(seed))
		if s == nil || s.Taken() != 0 {
			t.Fatalf("of %q: something is taken", seed)
		}
		if got, want := mustDraw(t, s, 64), slowStream(seed, 64); got != want {
			t.Fatalf("of %q: %x, not %x", seed, got, want)
		}
	}
}

func TestEachSeedHasItsStream(t *testing.T) {
	seen := map[string]string{}
	for _, seed := range someSeeds() {
		b := mustDraw(t, New([]byte(seed)), 320)
		for i := 0; i < len(b); i += 32 {
			if other, met := seen[b[i:i+32]]; met {
				t.Fatalf("%q and %q have a block in common", seed, other)
			}
			seen[b[i:i+32]] = seed
		}
	}
}

func TestEachBitOfTheSeedCounts(t *testing.T) {
	for _, n := range []int{1, 60, 64, 130} {
		seen := map[string]bool{mustDraw(t, New([]byte(sample(n))), 32): true}
		for bit := range 8 * n {
			seed := []byte(sample(n))
			seed[bit/8] ^= 1 << (bit % 8)
			got := mustDraw(t, New(seed), 32)
			if seen[got] || got != slowStream(string(seed), 32) {
				t.Fatalf("of %d bytes the bit %d: %x", n, bit, got)
			}
			seen[got] = true
		}
	}
}

func TestSeedIsNeitherChangedNorKept(t *testing.T) {
	for _, n := range []int{0, 1, 43, 60, 64, 100, 300} {
		room := []byte(sample(400))
		s := New(room[:n])
		seed := sample(400)[:n]
		got := mustDraw(t, s, 40)
		if string(room) != sample(400) {
			t.Fatalf("of %d bytes: the seed, or its room, was changed", n)
		}
		for i := range room {
			room[i] ^= 0xff
		}
		if got+mustDraw(t, s, 40)+mustDraw(t, s.Fork(), 40) != slowStream(seed, 120) {
			t.Fatalf("of %d bytes: a change of the seed is to be seen", n)
		}
	}
}

// P9.1: Draw.

func TestDrawKnownStreams(t *testing.T) {
	for _, c := range known {
		s := New([]byte(c.seed))
		if got := sha.Hex([]byte(mustDraw(t, s, 70))); got != c.first {
			t.Errorf("%s: %s, not %s", c.name, got, c.first)
		}
		sum := sha.Of([]byte(drawAll(t, New([]byte(c.seed)), 4096)))
		if got := sha.Hex(sum[:]); got != c.sum {
			t.Errorf("%s: the sum %s, not %s", c.name, got, c.sum)
		}
	}
}

// TestDrawManyBytes goes beyond block 65535. Its sum was told by another SHA-256.
func TestDrawManyBytes(t *testing.T) {
	s := New([]byte("seed"))
	sum := sha.Of([]byte(drawAll(t, s, 2200000)))
	if got := sha.Hex(sum[:]); got != "695bd1b90e8e99495d1b9a116e6f7b81ceb8c21b14972a207325e5ca904428d0" || s.Taken() != 2200000 {
		t.Errorf("%s; %d are taken", got, s.Taken())
	}
}

func TestDrawFarBehind(t *testing.T) {
	for _, at := range []int{1 << 20, 1<<24 - 1, 1 << 29, 1<<29 + 31, 1<<30 - 5, math.MaxInt32 - 1024} {
		s := New([]byte("far"))
		s.taken = at
		want := ""
		for i := range 33 {
			sum := sha.Of([]byte("far"), []byte("draw"), octet.Put64(uint64(at/32+i)))
			want += string(sum[:])
		}
		if got := mustDraw(t, s, 1024); got != want[at%32:at%32+1024] {
			t.Fatalf("behind %d bytes: %x", at, got)
		}
	}
}

func TestDrawEachSize(t *testing.T) {
	for _, seed := range []string{"", sample(100)} {
		want := slowStream(seed, 1024+64)
		for n := range 1025 {
			if got := mustDraw(t, New([]byte(seed)), n); got != want[:n] {
				t.Fatalf("Draw(%d) = %x", n, got)
			}
		}
		for ahead := range 65 {
			for _, n := range []int{0, 1, 31, 32, 33, 63, 64, 65, 1023, 1024} {
				s := New([]byte(seed))
				mustDraw(t, s, ahead)
				if got := mustDraw(t, s, n); got != want[ahead:ahead+n] {
					t.Fatalf("behind %d bytes Draw(%d) = %x", ahead, n, got)
				}
			}
		}
	}
}

func TestDrawErrors(t *testing.T) {
	for _, n := range []int{-1, -2, -32, -1024, math.MinInt32, math.MinInt, 1025, 1026, 1056, 2048, math.MaxInt32, math.MaxInt} {
		s := New([]byte("seed"))
		mustRefuse(t, s, n, api.ErrArg)
		got := mustDraw(t, s, 40)
		mustRefuse(t, s, n, api.ErrArg)
		if got+mustDraw(t, s, 40) != slowStream("seed", 80) || s.Taken() != 80 {
			t.Fatalf("Draw(%d) goes on in the stream", n)
		}
	}
}

func TestDrawAnswersNewMemory(t *testing.T) {
	for n := range 100 {
		s := New([]byte("seed"))
		got, _ := s.Draw(n)
		same, _ := New([]byte("seed")).Draw(n)
		other, _ := s.Draw(n)
		f := s.Fork()
		got = got[:cap(got)]
		for i := range got {
			got[i] = 0xee
		}
		want := slowStream("seed", 2*n+100)
		if string(same) != want[:n] || string(other) != want[n:2*n] {
			t.Fatalf("two answers of %d bytes have one memory", n)
		}
		if mustDraw(t, s, 100) != want[2*n:] || mustDraw(t, f, 100) != want[2*n:] {
			t.Fatalf("a change of an answer of %d bytes is to be seen", n)
		}
	}
}

// P9.1: Taken.

func TestTaken(t *testing.T) {
	s, want := New(nil), 0
	for _, n := range []int{0, 1, 0, 31, 32, 33, 0, 1024, 1023, 5} {
		mustDraw(t, s, n)
		want += n
		for range 2 {
			if s.Taken() != want {
				t.Fatalf("%d are taken, not %d", s.Taken(), want)
			}
		}
	}
}

// P9.1: Fork.

func TestForkStandsWhereItsSourceDoes(t *testing.T) {
	for _, seed := range []string{"", "seed", sample(100)} {
		want := slowStream(seed, 300)
		for ahead := range 100 {
			s := New([]byte(seed))
			mustDraw(t, s, ahead)
			f := s.Fork()
			if f == nil || f == s || f.Taken() != ahead || s.Taken() != ahead {
				t.Fatalf("behind %d bytes: not as it was", ahead)
			}
			if mustDraw(t, f, 50) != want[ahead:ahead+50] || s.Taken() != ahead {
				t.Fatalf("behind %d bytes: what the fork draws", ahead)
			}
			if mustDraw(t, s, 70) != want[ahead:ahead+70] || f.Taken() != ahead+50 {
				t.Fatalf("behind %d bytes: what the one that was forked draws", ahead)
			}
			ff := f.Fork()
			if mustDraw(t, ff, 60)+mustDraw(t, ff, 60) != want[ahead+50:ahead+170] || mustDraw(t, f, 100) != want[ahead+50:ahead+150] {
				t.Fatalf("behind %d bytes: the fork's fork", ahead)
			}
			if s.Taken() != ahead+70 || f.Taken() != ahead+150 || ff.Taken() != ahead+170 {
				t.Fatalf("behind %d bytes: %d, %d and %d are taken", ahead, s.Taken(), f.Taken(), ff.Taken())
			}
		}
	}
}

func TestNilSource(t *testing.T) {
	var s *Source
	for _, n := range []int{0, 1, 1024, 1025, -1, math.MinInt, math.MaxInt} { // ErrNil stands ahead of ErrArg
		mustRefuse(t, s, n, api.ErrNil)
	}
	if s.Taken() != 0 || s.Fork() != nil {
		t.Error("nil has something")
	}
}

func TestSourcesHaveNothingInCommon(t *testing.T) {
	a, b, c := New([]byte("seed")), New([]byte("seed")), New([]byte("other"))
	var drawnA, drawnB, drawnC strings.Builder
	for i := range 40 {
		drawnA.WriteString(mustDraw(t, a, i))
		drawnB.WriteString(mustDraw(t, b, 2*i))
		drawnC.WriteString(mustDraw(t, c, 3))
	}
	if drawnA.String() != slowStream("seed", a.Taken()) || drawnB.String() != slowStream("seed", b.Taken()) || drawnC.String() != slowStream("other", 120) {
		t.Error("two have something in common")
	}
}

// P9.2.

func TestOneStreamHoweverItIsDrawn(t *testing.T) {
	want := slowStream("seed", 300)
	for i := range 301 {
		for j := i; j <= 300; j += 7 {
			s := New([]byte("seed"))
			if mustDraw(t, s, i)+mustDraw(t, s, j-i)+mustDraw(t, s, 300-j) != want {
				t.Fatalf("300 bytes, cut at %d and %d", i, j)
			}
		}
	}
	for step := 1; step <= 300; step++ {
		s, got := New([]byte("seed")), ""
		for len(got) < 300 {
			got += mustDraw(t, s, min(step, 300-len(got)))
		}
		if got != want {
			t.Fatalf("300 bytes, %d at a time", step)
		}
	}
}

func TestOneStreamWhateverIsDoneBetween(t *testing.T) {
	s, got := New([]byte("seed")), ""
	for i := range 100 {
		mustRefuse(t, s, 1025+i, api.ErrArg)
		mustDraw(t, s, 0)
		mustDraw(t, s.Fork(), 10*i)
		if i%3 == 0 {
			s = s.Fork()
		}
		got += mustDraw(t, s, i*i%101)
	}
	if got != slowStream("seed", len(got)) || s.Taken() != len(got) {
		t.Errorf("%d bytes", len(got))
	}
}

func BenchmarkDraw(b *testing.B) {
	s := New([]byte("seed"))
	b.SetBytes(1024)
	for b.Loop() {
		s.Draw(1024)
	}
}

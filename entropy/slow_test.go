package entropy

import (
	"math/big"
	"testing"

	"reliquary/api"
	"reliquary/sha"
)

// slowStream tells a stream's beginning as the chapter's words say: whole blocks, each one summed whole.
func slowStream(seed string, n int) string {
	var b []byte
	for i := int64(0); len(b) < n; i++ {
		number := big.NewInt(i).FillBytes(make([]byte, 8))
		sum := sha.Of([]byte(seed + "draw" + string(number)))
		b = append(b, sum[:]...)
	}
	return string(b[:n])
}

// sample has so many unlike bytes.
func sample(n int) string {
	b := make([]byte, n)
	for i := range b {
		b[i] = byte(i*7 + n)
	}
	return string(b)
}

// someSeeds are edges of SHA-256's blocks, such as look like what stands behind a seed, and unlike ones.
func someSeeds() []string {
	seeds := []string{"", "\x00", "\x00\x00", "a", "A", "draw", "drawdraw", "dra", "draw\x00\x00\x00\x00\x00\x00\x00\x00", "\xff\xfe", "é"}
	for _, n := range []int{1, 43, 44, 51, 52, 53, 59, 60, 61, 63, 64, 65, 128, 1000, 5000} {
		seeds = append(seeds, sample(n))
	}
	return seeds
}

// mustDraw tells what must be drawn without an error, and asks whether it was taken.
func mustDraw(t *testing.T, s *Source, n int) string {
	t.Helper()
	ahead := s.Taken()
	b, e := s.Draw(n)
	if e != api.OK || len(b) != n {
		t.Fatalf("behind %d bytes Draw(%d) = %d bytes, error %d", ahead, n, len(b), int(e))
	}
	if s.Taken() != ahead+n {
		t.Fatalf("behind %d bytes and Draw(%d) %d are taken", ahead, n, s.Taken())
	}
	return string(b)
}

// mustRefuse asks whether nothing is drawn, and nothing taken.
func mustRefuse(t *testing.T, s *Source, n int, want api.Errno) {
	t.Helper()
	ahead := s.Taken()
	if b, e := s.Draw(n); b != nil || e != want {
		t.Fatalf("Draw(%d) = %x, error %d, not %d", n, b, int(e), int(want))
	}
	if s.Taken() != ahead {
		t.Fatalf("Draw(%d) takes %d bytes", n, s.Taken()-ahead)
	}
}

// drawAll draws so many bytes, at most 1024 at a time.
func drawAll(t *testing.T, s *Source, n int) string {
	t.Helper()
	var b []byte
	for len(b) < n {
		b = append(b, mustDraw(t, s, min(1024, n-len(b)))...)
	}
	return string(b)
}

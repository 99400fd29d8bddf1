package node

import (
	"bytes"
	"math"
	"slices"
	"strings"
	"testing"

	"reliquary/api"
	"reliquary/hmac"
	"reliquary/sha"
)

// run tells 32 bytes that rise one by one from the first one on.
func run(first byte) [32]byte {
	var b [32]byte
	for i := range b {
		b[i] = first + byte(i)
	}
	return b
}

// count tells so many bytes, unlike ones.
func count(n int) []byte {
	b := make([]byte, n)
	for i := range b {
		b[i] = byte(7*i + 3)
	}
	return b
}

// four tells a number's bytes, the highest one first.
func four(n uint32) []byte { return []byte{byte(n >> 24), byte(n >> 16), byte(n >> 8), byte(n)} }

// slowPut lays each byte where the chapter's words have it.
func slowPut(n api.Node) []byte {
	b := make([]byte, 288)
	for i, ref := range n {
		copy(b[36*i:36*i+4], four(ref.At))
		for j := range 32 {
			b[36*i+4+j] = ref.Sum[j]
		}
	}
	return b
}

// slowGet looks at each byte where the chapter's words have it.
func slowGet(b []byte) (api.Node, api.Errno) {
	var n api.Node
	if len(b) != 288 {
		return n, api.ErrForm
	}
	for i := range n {
		one := b[36*i : 36*i+36]
		if allNought(one[:4]) && !allNought(one[4:]) {
			return api.Node{}, api.ErrForm
		}
		n[i].At = uint32(one[0])<<24 | uint32(one[1])<<16 | uint32(one[2])<<8 | uint32(one[3])
		n[i].Sum = api.Sum(one[4:])
	}
	return n, api.OK
}

// allNought tells whether all bytes are 0.
func allNought(b []byte) bool { return strings.Trim(string(b), "\x00") == "" }

// slowEmpty goes by what is laid.
func slowEmpty(n api.Node) bool {
	b := slowPut(n)
	for at := 0; at < 288; at += 36 {
		if !allNought(b[at : at+4]) {
			return false
		}
	}
	return true
}

// slowSum joins the bytes ahead of the sum.
func slowSum(mark string, b []byte) api.Sum { return sha.Of(append([]byte(mark), b...)) }

// slowLeaf joins the bytes ahead of the sum.
func slowLeaf(key api.Key, at uint32, b []byte) api.Sum {
	return hmac.Of(key[:], append(append([]byte("leaf"), four(at)...), b...))
}

// places are edges, single bits, and some between.
func places() []uint32 {
	all := []uint32{1, 2, 3, 255, 256, 257, 65535, 65536, 65537, 0x01020304, 1<<31 - 1, 1 << 31, math.MaxUint32 - 1, math.MaxUint32}
	for i := range 32 {
		all = append(all, 1<<i)
	}
	return all
}

// only has one ref, at a place.
func only(i int, ref api.Ref) api.Node {
	var n api.Node
	n[i] = ref
	return n
}

// full has refs that are unlike one another.
func full() api.Node {
	var n api.Node
	for i := range n {
		n[i] = api.Ref{At: uint32(i + 1), Sum: run(byte(32 * i))}
	}
	return n
}

// fewNodes have refs that all may be: the edges, and some between.
func fewNodes() []api.Node {
	all := []api.Node{{}, full()}
	for i := range api.Fan {
		for _, at := range places() {
			all = append(all, only(i, api.Ref{At: at}), only(i, api.Ref{At: at, Sum: run(byte(at))})) // a ref without a sum may be
		}
		one := full()
		one[i] = api.Ref{}
		all = append(all, one)
	}
	for set := range 256 {
		var n api.Node
		for i := range n {
			if set>>i&1 == 1 {
				n[i] = api.Ref{At: uint32(set), Sum: run(9)} // like ones may be
			}
		}
		all = append(all, n)
	}
	return all
}

// wrongNodes have a ref that may not be, beside others that may.
func wrongNodes() []api.Node {
	var wrong []api.Node
	for i := range api.Fan {
		for j := range 32 {
			for _, turn := range []byte{1, 128, 255} {
				var sum api.Sum
				sum[j] = turn
				beside := full()
				beside[i] = api.Ref{Sum: sum}
				wrong = append(wrong, only(i, api.Ref{Sum: sum}), beside)
			}
		}
		beside := full()
		beside[i] = api.Ref{Sum: run(1)}
		wrong = append(wrong, beside, only(i, beside[i]))
	}
	var all api.Node
	for i := range all {
		all[i].Sum = run(byte(i))
	}
	return append(wrong, all)
}

// texts are bytes of many lengths: none, those about the edges of SHA-256's blocks, and clusters.
func texts() [][]byte {
	all := [][]byte{nil, {}, {0}, []byte("x"), make([]byte, 512), make([]byte, 1024), count(512), count(1024), count(65536)}
	for n := range 200 {
		all = append(all, count(n))
	}
	return all
}

// mustGet asks whether bytes are read as the slow way reads them.
func mustGet(t *testing.T, what string, b []byte) {
	t.Helper()
	got, e := Get(b)
	if want, f := slowGet(b); got != want || e != f {
		t.Fatalf("%s: %v, error %d, not %v, error %d", what, got, int(e), want, int(f))
	}
}

// mustNotGet asks whether bytes are refused.
func mustNotGet(t *testing.T, what string, b []byte) {
	t.Helper()
	if n, e := Get(b); n != (api.Node{}) || e != api.ErrForm {
		t.Fatalf("%s: %v, error %d", what, n, int(e))
	}
}

// mustSeeAllTurned asks whether bytes have another sum when one bit is turned, two beside each other are changed for one another, or there are fewer or more.
func mustSeeAllTurned(t *testing.T, what string, b []byte, sum func(b []byte) api.Sum) {
	t.Helper()
	right := sum(b)
	differs := func(how string, at int, other []byte) {
		t.Helper()
		if !bytes.Equal(other, b) && sum(other) == right {
			t.Fatalf("%s: %s at %d is not seen", what, how, at)
		}
	}
	turned := slices.Clone(b)
	for at := range b {
		for bit := range 8 {
			turned[at] ^= 1 << bit
			differs("a bit that was turned", at, turned)
			turned[at] ^= 1 << bit
		}
		if at > 0 {
			turned[at-1], turned[at] = turned[at], turned[at-1]
			differs("a change of two bytes for each other", at, turned)
			turned[at-1], turned[at] = turned[at], turned[at-1]
		}
		differs("a cut", at, b[:at])
		differs("a byte left out", at, slices.Delete(slices.Clone(b), at, at+1))
	}
	differs("a nought", len(b), append(slices.Clone(b), 0))
	differs("a nought", 0, append([]byte{0}, b...))
}

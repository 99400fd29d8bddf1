package xts

import (
	"bytes"
	"math"
	"testing"

	"reliquary/api"
	"reliquary/sha"
)

// publishedKeys are those of IEEE 1619's cases of 256 bits.
func publishedKeys(t *testing.T) (one, two api.Key) {
	t.Helper()
	return keyOf(t, "2718281828459045235360287471352662497757247093699959574966967627"), keyOf(t, "3141592653589793238462643383279502884197169399375105820974944592")
}

// publishedPlain are the bytes 0 to 255 twice, which all these cases seal.
func publishedPlain() []byte {
	b := make([]byte, 512)
	for i := range b {
		b[i] = byte(i)
	}
	return b
}

// published are the first and the last sixteen bytes, and the sum of all, of IEEE 1619's cases 10 to 14, and of what another XTS told.
var published = []struct {
	number           uint64
	first, last, sum string
}{
	{0xff, "1c3b3a102f770386e4836c99e370cf9b", "c4f36ffda9fcea70b9c6e693e148c151", "e97e974fa393af794f7a4684395814cf820de60a01eaec677d87b452e316b364"},
	{0xffff, "77a31251618a15e6b92d1d66dffe7b50", "a4f9e27b42af8100cb9d59cef9645803", "def4fad29e95dfe1a24b1ad4620f86d7be094cced5b19e0b121aa82d9e6baf98"},
	{0xffffff, "e387aaa58ba483afa7e8eb469778317e", "2263a1eef52dd6888c309f5a7d712826", "8bf44861a081dd660d91ce615b5cdfb4d5df9d72c3025c12e67cc0ae097fa5d5"},
	{0xffffffff, "bf53d2dade78e822a4d949a9bc6766b0", "4c82f335abb152c4a93411373aaa8220", "c706140a11affda7402234f5e6331eacbfeb687d8e80d83962691823bb3636f0"},
	{0xffffffffff, "64497e5a831e4a932c09be3e5393376d", "d609d273ad5b0d59631c531f6a0a57b9", "afba71abc4e95b186d89a63a5437c1bafcfd1a18ca273970c534aba4f8d05282"},
	{0, "3a060a8cad115a6f44572e3759e43c8f", "a791fed612ef3b7370189784fc1d6606", "3b03665006fbdc8d620fd7f6fb9562a00b814590b3d5489b0e68f601fbe2f588"},
	{1, "cdd765f24ea1d4ecfc5af7233967ef61", "a9064b5f021314fd8bde7370fd093562", "3a478970aecb1c2bbbe968297b87f4c7769d9b01db33699ec7379528669bfc06"},
	{0x100, "d2681225948d7b026a19c3d8ec02e686", "13e199108bd6b75193cdce85b67a53b0", "2cc699eae61144e70c2a11618a4cd64b015430e76fdda36a4d941210a733e1e2"},
	{0x0123456789abcdef, "5efb5c1c85b22336959d5b7420126588", "2e536f70d0fec7ada8677314a7ea9869", "5a8580cec1582ade3b83050100b74c46f14d431808d25286e091dc0f8612e330"},
	{1<<64 - 1, "6d4d5df16d900b3609d1138dfd0641e7", "180cda4afeae1fe51d4bcecdb8ff410b", "1be9e21ce785d88cb8dae1e33e32d6f283e3c4b078988a56396a1220fb182ab2"},
}

// publishedWhole is what IEEE 1619's case 10 seals, whole.
const publishedWhole = "1c3b3a102f770386e4836c99e370cf9bea00803f5e482357a4ae12d414a3e63b" +
	"5d31e276f8fe4a8d66b317f9ac683f44680a86ac35adfc3345befecb4bb188fd" +
	"5776926c49a3095eb108fd1098baec70aaa66999a72a82f27d848b21d4a741b0" +
	"c5cd4d5fff9dac89aeba122961d03a757123e9870f8acf1000020887891429ca" +
	"2a3e7a7d7df7b10355165c8b9a6d0a7de8b062c4500dc4cd120c0f7418dae3d0" +
	"b5781c34803fa75421c790dfe1de1834f280d7667b327f6c8cd7557e12ac3a0f" +
	"93ec05c52e0493ef31a12d3d9260f79a289d6a379bc70c50841473d1a8cc81ec" +
	"583e9645e07b8d9670655ba5bbcfecc6dc3966380ad8fecb17b6ba02469a020a" +
	"84e18e8f84252070c13e9f1f289be54fbc481457778f616015e1327a02b140f1" +
	"505eb309326d68378f8374595c849d84f4c333ec4423885143cb47bd71c5edae" +
	"9be69a2ffeceb1bec9de244fbe15992b11b77c040f12bd8f6a975a44a0f90c29" +
	"a9abc3d4d893927284c58754cce294529f8614dcd2aba991925fedc4ae74ffac" +
	"6e333b93eb4aff0479da9a410e4450e0dd7ae4c6e2910900575da401fc07059f" +
	"645e8b7e9bfdef33943054ff84011493c27b3429eaedb4ed5376441a77ed4385" +
	"1ad77f16f541dfd269d50d6a5f14fb0aab1cbb4c1550be97f7ab4066193c4caa" +
	"773dad38014bd2092fa755c824bb5e54c4f36ffda9fcea70b9c6e693e148c151"

// known are sums of what another XTS told of so many sectors of sample, with the sampleKeys.
var known = []struct {
	number  uint64
	sectors int
	sum     string
}{
	{0, 1, "662626939227ea1b0a761253aa12810ca4ad0124cd8c8ffa3c2df2db7004857a"},
	{0, 2, "d8dbb1592b1b315e30e22b804ac17d63d62cb7628417bd02c5578da74f537c9f"},
	{41, 3, "f05f2a91a19387c0c9e2c7d5a5f19c33d763de8882243138aa3f3b0998e05e73"},
	{0xfffffffd, 5, "a386ba7139420a624ea2f3dce2360c13693616ca7396f32de106cc3fca1538d7"},
	{1<<64 - 2, 4, "006fcb725b0f73875e83d8f980dd1c25c64ad14c1d61ae1387bf8e478e5e32f6"},
	{0, 128, "755d9c61922e2e82fe740311da6b4183081a24ddafdecdefc4d3b7aa5bcb4bca"},
	{1<<64 - 64, 128, "f889de4c6100e5e8876592040f9667b976840954a163c1cd61049380154f793c"},
}

// P7.1: Seal.

func TestSealExamples(t *testing.T) {
	x := New(publishedKeys(t))
	for _, none := range [][]byte{nil, {}} {
		if b, e := x.Seal(0, none); len(b) != 0 || e != api.OK {
			t.Errorf("nothing: %x, error %d", b, int(e))
		}
	}
	if b, e := x.Seal(0, make([]byte, 16)); len(b) != 0 || e != api.ErrArg {
		t.Errorf("16 bytes: %x, error %d", b, int(e))
	}
	if got := sealed(t, x, 255, publishedPlain())[:8]; sha.Hex(got) != "1c3b3a102f770386" {
		t.Errorf("the sector 255: %x", got)
	}
}

func TestSealPublished(t *testing.T) {
	x := New(publishedKeys(t))
	for _, c := range published {
		b := sealed(t, x, c.number, publishedPlain())
		if sha.Hex(b[:16]) != c.first || sha.Hex(b[496:]) != c.last || digits(b) != c.sum {
			t.Errorf("the sector %d: %x .. %x, the sum %s", c.number, b[:16], b[496:], digits(b))
		}
	}
}

func TestSealPublishedWhole(t *testing.T) {
	b := sealed(t, New(publishedKeys(t)), 255, publishedPlain())
	if got := sha.Hex(b); got != publishedWhole {
		t.Errorf("%s, not %s", got, publishedWhole)
	}
}

func TestSealKnownSums(t *testing.T) {
	for _, c := range known {
		if got := digits(sealed(t, sampleXts(), c.number, sample(512*c.sectors))); got != c.sum {
			t.Errorf("%d sectors from %d on: %s, not %s", c.sectors, c.number, got, c.sum)
		}
	}
}

func TestSealOfOneKindOfByte(t *testing.T) {
	noughts, ones := api.Key{}, api.Key(same(32, 255))
	if got := digits(sealed(t, New(noughts, ones), 0, same(512, 0))); got != "e27832ccccaefb31f97d53bea71a76a09cd3b1e0586dbb811dbede606cd4b1ce" {
		t.Errorf("noughts: %s", got)
	}
	if got := digits(sealed(t, New(ones, noughts), 1<<64-1, same(1024, 255))); got != "e4cae24b3787aed98c7f9ab28e388058d723afebe34d72eea868299f88b5b556" {
		t.Errorf("ones: %s", got)
	}
}

// P7.2: Open.

func TestOpenExamples(t *testing.T) {
	x := New(publishedKeys(t))
	for _, none := range [][]byte{nil, {}} {
		if b, e := x.Open(0, none); len(b) != 0 || e != api.OK {
			t.Errorf("nothing: %x, error %d", b, int(e))
		}
	}
	if b, e := x.Open(0, make([]byte, 16)); len(b) != 0 || e != api.ErrArg {
		t.Errorf("16 bytes: %x, error %d", b, int(e))
	}
}

func TestOpenPublished(t *testing.T) {
	var b []byte
	for at := 0; at < len(publishedWhole); at += 64 {
		row := keyOf(t, publishedWhole[at:at+64])
		b = append(b, row[:]...)
	}
	if got := opened(t, New(publishedKeys(t)), 255, b); !bytes.Equal(got, publishedPlain()) {
		t.Errorf("%x", got)
	}
}

func TestOpenIsWhatSealMakesBytesOf(t *testing.T) {
	for _, keys := range someKeys() {
		x := New(keys[0], keys[1])
		for _, number := range someNumbers() {
			b := sample(1536)
			if got := opened(t, x, number, slowSeal(keys[0], keys[1], number, b)); !bytes.Equal(got, b) {
				t.Fatalf("by %x from the sector %d on: %x", keys, number, got)
			}
		}
	}
}

// P7.1 and P7.2: what both have to do alike.

func TestBothFollowTheChapter(t *testing.T) {
	for _, w := range ways() {
		for _, keys := range someKeys() {
			x := New(keys[0], keys[1])
			for i, number := range someNumbers() {
				b := sample(512 * (1 + i%3))
				if got, want := answered(t, w.by(x), number, b), w.slow(keys[0], keys[1], number, b); !bytes.Equal(got, want) {
					t.Fatalf("%s by %x of %d bytes from the sector %d on: %x, not %x", w.name, keys, len(b), number, got, want)
				}
			}
		}
	}
}

func TestBothOfAllLengths(t *testing.T) {
	one, two := sampleKeys()
	for _, w := range ways() {
		for _, sectors := range []int{0, 1, 2, 3, 7, 63, 64, 127, 128} {
			b := sample(512 * sectors)
			if got, want := answered(t, w.by(sampleXts()), 9, b), w.slow(one, two, 9, b); !bytes.Equal(got, want) {
				t.Fatalf("%s of %d sectors", w.name, sectors)
			}
		}
	}
}

func TestBehindTheLastNumberComesNought(t *testing.T) {
	for _, w := range ways() {
		b := sample(512 * 5)
		got := answered(t, w.by(sampleXts()), 1<<64-2, b)
		for i, number := range []uint64{1<<64 - 2, 1<<64 - 1, 0, 1, 2} {
			if want := answered(t, w.by(sampleXts()), number, b[512*i:512*i+512]); !bytes.Equal(got[512*i:512*i+512], want) {
				t.Errorf("%s: the place %d is not the sector %d", w.name, i, number)
			}
		}
	}
}

func TestErrArg(t *testing.T) {
	for _, w := range ways() {
		for _, n := range []int{1, 15, 16, 32, 256, 511, 513, 520, 528, 1023, 1025, 1040, 65535, 65536 - 16, 65536 + 1, 65536 + 16, 65536 + 511, 65536 + 512, 65536 + 1024, 65536 * 2, 1<<20 + 1, 1 << 20} {
			for _, number := range []uint64{0, 1, 1<<64 - 1} {
				if b, e := w.call(sampleXts(), number, make([]byte, n)); e != api.ErrArg || len(b) != 0 {
					t.Errorf("%s of %d bytes: %d bytes, error %d", w.name, n, len(b), int(e))
				}
			}
		}
		for n := 1; n < 66*1024; n += 37 {
			if n%512 == 0 {
				continue
			}
			if b, e := w.call(sampleXts(), 0, make([]byte, n)); e != api.ErrArg || len(b) != 0 {
				t.Fatalf("%s of %d bytes: %d bytes, error %d", w.name, n, len(b), int(e))
			}
		}
	}
}

func TestErrNil(t *testing.T) {
	for _, w := range ways() {
		for _, n := range []int{0, 1, 16, 512, 1024, 65536, 65537, 66048} {
			for _, number := range []uint64{0, 255, math.MaxUint64} {
				if b, e := w.call(nil, number, make([]byte, n)); e != api.ErrNil || len(b) != 0 {
					t.Errorf("%s of %d bytes: %d bytes, error %d", w.name, n, len(b), int(e))
				}
			}
		}
	}
}

// P7.3.

func TestBothLeadBackFromOneAnother(t *testing.T) {
	for _, w := range ways() {
		for _, keys := range someKeys() {
			x := New(keys[0], keys[1])
			for i, number := range someNumbers() {
				for _, b := range [][]byte{sample(512 * (i % 4)), same(512, 0), same(512, 255), publishedPlain()} {
					got, e := w.back(x, number, answered(t, w.by(x), number, b))
					if e != api.OK || !bytes.Equal(got, b) {
						t.Fatalf("%s by %x of %d bytes from the sector %d on, and back: %x, error %d", w.name, keys, len(b), number, got, int(e))
					}
				}
			}
		}
	}
}

func TestASectorHangsOnItsNumberAlone(t *testing.T) {
	for _, w := range ways() {
		x, b := sampleXts(), sample(512*4)
		whole := answered(t, w.by(x), 1000, b)
		for from := range 5 {
			for to := from; to < 5; to++ {
				if got := answered(t, w.by(x), uint64(1000+from), b[512*from:512*to]); !bytes.Equal(got, whole[512*from:512*to]) {
					t.Errorf("%s: the sectors from %d to %d without the others", w.name, from, to)
				}
			}
		}
		for i := range b {
			b[i] ^= 1
			got := answered(t, w.by(x), 1000, b)
			b[i] ^= 1
			for at := 0; at < len(b); at += 16 {
				if changed := !bytes.Equal(got[at:at+16], whole[at:at+16]); changed != (at == i/16*16) {
					t.Fatalf("%s: the byte %d was changed; is the block at %d another? %t", w.name, i, at, changed)
				}
			}
		}
	}
}

func TestNoTwoSectorsAreAlike(t *testing.T) {
	for _, w := range ways() {
		seen := map[[16]byte]bool{}
		for _, number := range someNumbers() {
			b := answered(t, w.by(sampleXts()), number, same(512, 7))
			for at := 0; at < 512; at += 16 {
				if seen[[16]byte(b[at:])] {
					t.Fatalf("%s: the block at %d of the sector %d was met", w.name, at, number)
				}
				seen[[16]byte(b[at:])] = true
			}
		}
		for i := range 64 {
			b := answered(t, w.by(sampleXts()), 0x5555555555555555^1<<i, same(512, 7))
			if seen[[16]byte(b)] {
				t.Fatalf("%s: the number's bit %d", w.name, i)
			}
			seen[[16]byte(b)] = true
		}
	}
}

func TestEachBitOfBothKeysCounts(t *testing.T) {
	one, two := sampleKeys()
	for _, w := range ways() {
		seen := map[[16]byte]bool{[16]byte(answered(t, w.by(New(one, two)), 3, sample(512))): true}
		for i := range 256 {
			turned := [2]api.Key{one, two}
			turned[0][i/8] ^= 1 << (i % 8)
			turned[1][i/8] ^= 1 << (i % 8)
			for _, x := range []*Xts{New(turned[0], two), New(one, turned[1])} {
				b := [16]byte(answered(t, w.by(x), 3, sample(512)))
				if seen[b] {
					t.Fatalf("%s: the bit %d of a key", w.name, i)
				}
				seen[b] = true
			}
		}
		if swapped := answered(t, w.by(New(two, one)), 3, sample(512)); seen[[16]byte(swapped)] {
			t.Errorf("%s: which key is which does not count", w.name)
		}
	}
}

// The rules of the whole: an argument is not changed and not kept, an answer is new memory, and what is answered hangs on keys, number and bytes alone.

func TestNothingGivenIsChanged(t *testing.T) {
	for _, w := range ways() {
		for _, n := range []int{0, 1, 16, 512, 513, 1024, 1536} {
			given := sample(2048)
			w.call(sampleXts(), 5, given[:n])
			w.call(nil, 5, given[:n])
			if !bytes.Equal(given, sample(2048)) {
				t.Errorf("%s of %d bytes: they, or their room, were changed", w.name, n)
			}
		}
	}
}

func TestAnswersAreNewMemory(t *testing.T) {
	for _, w := range ways() {
		for _, n := range []int{0, 512, 1024} {
			x, given := sampleXts(), sample(2048)
			got, other := answered(t, w.by(x), 5, given[:n]), answered(t, w.by(x), 5, given[:n])
			want := bytes.Clone(got)
			room := got[:cap(got)]
			for i := range room {
				room[i] ^= 255
			}
			if !bytes.Equal(given, sample(2048)) || !bytes.Equal(other, want) || !bytes.Equal(answered(t, w.by(x), 5, given[:n]), want) {
				t.Errorf("%s of %d bytes: a change of the answer, or of its room, is to be seen", w.name, n)
			}
			kept := bytes.Clone(other)
			clear(given)
			if !bytes.Equal(other, kept) {
				t.Errorf("%s of %d bytes: a change of what was given is to be seen", w.name, n)
			}
		}
	}
}

func TestWhatWasDoneAheadIsNotToBeSeen(t *testing.T) {
	one, two := sampleKeys()
	x, b := New(one, two), sample(1024)
	there, back := sealed(t, x, 7, b), opened(t, x, 7, b)
	one[0] ^= 1
	two[31] ^= 1
	other := New(one, two)
	for n := range 5 {
		sealed(t, other, 7, b)
		opened(t, x, uint64(n), b)
		x.Seal(7, b[:n])
		if !bytes.Equal(sealed(t, x, 7, b), there) || !bytes.Equal(opened(t, x, 7, b), back) || !bytes.Equal(sealed(t, sampleXts(), 7, b), there) {
			t.Fatal("a second time it is another")
		}
	}
}

func BenchmarkNew(b *testing.B) {
	one, two := sampleKeys()
	for b.Loop() {
		New(one, two)
	}
}

func BenchmarkSeal(b *testing.B) {
	x, s := sampleXts(), sample(512)
	for b.Loop() {
		x.Seal(3, s)
	}
}

func BenchmarkOpen(b *testing.B) {
	x, s := sampleXts(), sample(512)
	for b.Loop() {
		x.Open(3, s)
	}
}

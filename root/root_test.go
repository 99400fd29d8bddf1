package root

import (
	"bytes"
	"math"
	"slices"
	"testing"

	"reliquary/api"
	"reliquary/sha"
)

var key = api.Key(run(0))

// The chapter's examples.

func TestExamples(t *testing.T) {
	b, e := Put(api.Root{}, key)
	if e != api.OK || len(b) != 512 || sha.Hex(b[:12]) != "524f4f540000000000000000" {
		t.Errorf("%x, error %d", b, int(e))
	}
	mustNotGet(t, "nothing", nil, key, api.ErrForm)
	mustNotGet(t, "another key", b, api.Key{1}, api.ErrTampered)
	three, four := mustPut(t, api.Root{Version: 3}, key), mustPut(t, api.Root{Version: 4}, key)
	if r, at, e := Newest(three, four, key); r.Version != 4 || at != 1 || e != api.OK {
		t.Errorf("the version %d at %d, error %d", r.Version, at, int(e))
	}
}

// P14.1: Put.

func TestPutFollowsTheChapter(t *testing.T) {
	for _, r := range fewRoots() {
		for _, k := range []api.Key{{}, key, run(77), {31: 1}} {
			if got, e := Put(r, k); !bytes.Equal(got, slowPut(r, k)) || e != api.OK {
				t.Fatalf("%v: %x, error %d", r, got, int(e))
			}
		}
	}
}

// TestKnownSectors has what another HMAC and another SHA-256 told of sectors that were laid by another program.
func TestKnownSectors(t *testing.T) {
	var many []api.Ref
	for i := range 8 {
		many = append(many, api.Ref{At: math.MaxUint32 - uint32(i), Sum: run(byte(65 + 32*i))})
	}
	three := []api.Ref{{At: 1}, {At: 65536, Sum: run(3)}, {At: 1}}
	for _, c := range []struct {
		r          api.Root
		key        api.Key
		last, want string
	}{
		{api.Root{}, api.Key{},
			"6e59dfcb3953817010ebe3741c99ec41fb90250d077285c198ed3d1c6055df37", "67349d6bc5aa9533c3b896e1cb04dd5a7dd08cd74540d0767c6bab6148938807"},
		{api.Root{}, run(0),
			"b1443dac3d8b544898f721757d6e802a86e4cee30aa0cdc62664e215282a8533", "66f1b5085b2cf33d7698a523485989fa87a755408af0e32049e40d43843b5c8b"},
		{api.Root{Version: math.MaxUint64, Area: 1, Length: 8192}, run(0),
			"1a1673b451acaa16ecf3ac72bcce069506bc6d9710bd127d9f53f042482a1627", "47d7c2971b667cbd383bfd9893ffc039644c54f9ece4fb4b5f52ddb66dd9b0a0"},
		{api.Root{Version: 3, Super: run(1), Area: 1, Keys: run(33), Length: 9, Pages: []api.Ref{{At: 1, Sum: run(65)}}}, run(0),
			"6d2e47d3326e5e4a311cd14a214d337d24e28475b6c21b470d548cebcb1f97b9", "f1247a1e9323b7c680428b0f2f4dc0ef34cfd658db64c15adcf60212854c0a0a"},
		{api.Root{Version: 0x0102030405060708, Super: run(1), Area: 1, Keys: run(33), Length: 8192, Pages: many}, run(200),
			"3e0e06955cb0e82ac3e8d3b67997ba820ccd4336c1f1e0c94c8110041aaede09", "4f73200b4d4806f80207edf24b77d3be1fc0803eab2c3a36d74add5b2613d64c"},
		{api.Root{Version: 1 << 63, Super: run(7), Keys: run(9), Length: 257, Pages: three}, run(255),
			"636ed0a357a393803d94b06bfff491fe7a15b6c3a5609f874066a96a31adaf28", "f8ca5ae89188cde318cfc4cee5ab03e4d73b89dcaf43e059fe8ac98ca320fc87"},
	} {
		b := mustPut(t, c.r, c.key)
		sum := sha.Of(b)
		if sha.Hex(b[480:]) != c.last || sha.Hex(sum[:]) != c.want {
			t.Errorf("%v: %x, with the sum %x", c.r, b, sum)
		}
	}
}

func TestWhatMayNotBeIsRefused(t *testing.T) {
	for _, r := range wrongRoots() {
		if b, e := Put(r, key); b != nil || e != api.ErrArg {
			t.Errorf("area %d, length %d, %d pages: %x, error %d", r.Area, r.Length, len(r.Pages), b, int(e))
		}
	}
}

func TestTheEdgesOfWhatMayBe(t *testing.T) {
	for area := -2; area < 4; area++ {
		for _, length := range []int{-2, -1, 0, 1, 8191, 8192, 8193} {
			for n := range 12 {
				r := api.Root{Area: area, Length: length, Pages: make([]api.Ref, n)}
				for i := range r.Pages {
					r.Pages[i].At = 5
				}
				want := api.ErrArg
				if slowMayBe(r) {
					want = api.OK
				}
				if b, e := Put(r, key); e != want || (e == api.OK) != (len(b) == 512) {
					t.Errorf("area %d, length %d, %d pages: %d bytes, error %d", area, length, n, len(b), int(e))
				}
			}
		}
	}
}

func TestEachByteOfTheKeyCounts(t *testing.T) {
	for _, r := range fewRoots()[15:] {
		whole := mustPut(t, r, key)
		for i := range key {
			other := key
			other[i] ^= 0x40
			got := mustPut(t, r, other)
			if !bytes.Equal(got[:480], whole[:480]) || bytes.Equal(got[480:], whole[480:]) {
				t.Fatalf("%v: the key's byte %d is not in the sum", r, i)
			}
			mustNotGet(t, "another key", whole, other, api.ErrTampered)
		}
	}
}

func TestPutAnswersNewMemory(t *testing.T) {
	for _, r := range fewRoots() {
		got, other := mustPut(t, r, key), mustPut(t, r, key)
		room := got[:cap(got)]
		for i := range room {
			room[i] = 0xee
		}
		if later := mustPut(t, r, key); !bytes.Equal(other, slowPut(r, key)) || !bytes.Equal(later, other) {
			t.Fatal("two answers have one memory")
		}
	}
}

func TestPutLeavesThePagesAsTheyAre(t *testing.T) {
	room := []api.Ref{{At: 3, Sum: run(1)}, {At: 2, Sum: run(2)}, {At: 1, Sum: run(3)}, {}, {At: 9}}
	given := slices.Clone(room)
	got := mustPut(t, api.Root{Pages: room[:3]}, key)
	if !slices.Equal(room, given) {
		t.Errorf("the pages are %v now", room)
	}
	clear(room)
	if !bytes.Equal(got, slowPut(api.Root{Pages: given[:3]}, key)) {
		t.Error("a change of the pages is to be seen in what was laid")
	}
}

// P14.2: Get.

func TestGetLeadsBackFromPut(t *testing.T) {
	for _, r := range fewRoots() {
		for _, k := range []api.Key{{}, key, run(77)} {
			if got, e := Get(mustPut(t, r, k), k); !slowSame(got, r) || e != api.OK {
				t.Fatalf("%v: %v, error %d", r, got, int(e))
			}
			if got, e := Get(slowPut(r, k), k); !slowSame(got, r) || e != api.OK {
				t.Fatalf("%v by hand: %v, error %d", r, got, int(e))
			}
		}
	}
}

// TestGetLooksAtEachByte lets each byte be any other one, with the sum that goes with it: what is refused then isn't so for its sum.
func TestGetLooksAtEachByte(t *testing.T) {
	all := fewRoots()
	for _, r := range []api.Root{all[0], all[16], all[17], all[20]} {
		laid := slowPut(r, key)[:480]
		for at := range laid {
			was := laid[at]
			for turn := 1; turn < 256; turn += 1 + at%7*6 {
				laid[at] = was ^ byte(turn)
				mustGet(t, "a byte that is another", signed(laid, key), key)
			}
			laid[at] = was
		}
	}
}

func TestGetAsksForTheMark(t *testing.T) {
	for _, r := range fewRoots() {
		for at := range 4 {
			for _, other := range []byte{0, 'r', 'o', 't', 'S', 255} {
				laid := slowPut(r, key)[:480]
				laid[at] = other
				mustNotGet(t, "another mark", signed(laid, key), key, api.ErrForm)
			}
		}
	}
}

func TestGetAsksForTheArea(t *testing.T) {
	for _, r := range fewRoots() {
		for area := range 256 {
			laid := slowPut(r, key)[:480]
			laid[44] = byte(area)
			if area > 1 {
				mustNotGet(t, "an area that may not be", signed(laid, key), key, api.ErrForm)
			} else if got, e := Get(signed(laid, key), key); got.Area != area || e != api.OK {
				t.Fatalf("the area %d: %v, error %d", area, got, int(e))
			}
		}
	}
}

func TestGetAsksForTheLength(t *testing.T) {
	for length := 0; length < 65536; length++ {
		laid := slowPut(api.Root{Version: 1}, key)[:480]
		laid[77], laid[78] = byte(length/256), byte(length%256)
		if length > 8192 {
			mustNotGet(t, "a length that may not be", signed(laid, key), key, api.ErrForm)
			length += 96 // some of them are enough
		} else if length%31 == 0 || length > 8189 {
			if got, e := Get(signed(laid, key), key); got.Length != length || e != api.OK {
				t.Fatalf("the length %d: %v, error %d", length, got, int(e))
			}
		}
	}
}

// TestGetAsksForThePages lays more or fewer of them than it tells, of bytes of all kinds.
func TestGetAsksForThePages(t *testing.T) {
	for _, fill := range []byte{0, 1, 255} {
		for laidPages := range 12 {
			laid := slowPut(api.Root{Version: 1}, key)[:480]
			for i := range 36 * laidPages {
				if 80+i < 480 {
					laid[80+i] = fill
				}
			}
			for told := range 256 {
				laid[79] = byte(told)
				b := signed(laid, key)
				mustGet(t, "another number of pages", b, key)
				if _, e := Get(b, key); told > 8 && e != api.ErrForm {
					t.Fatalf("%d pages: error %d", told, int(e))
				}
			}
		}
	}
}

func TestGetRefusesPagesThatStandNowhere(t *testing.T) {
	all := fewRoots()
	for _, r := range all[len(all)-8:] {
		for i := range r.Pages {
			laid := slowPut(r, key)[:480]
			clear(laid[80+36*i : 84+36*i])
			mustNotGet(t, "a page that stands nowhere", signed(laid, key), key, api.ErrForm)
			clear(laid[84+36*i : 116+36*i])
			mustNotGet(t, "a page of noughts", signed(laid, key), key, api.ErrForm)
			laid[83+36*i] = 1
			mustGet(t, "a page without a sum", signed(laid, key), key)
		}
	}
}

func TestGetRefusesWhatIsNoNoughtBehind(t *testing.T) {
	for _, r := range fewRoots() {
		for at := 80 + 36*len(r.Pages); at < 480; at++ {
			laid := slowPut(r, key)[:480]
			laid[at] = byte(at) | 1
			mustNotGet(t, "no nought", signed(laid, key), key, api.ErrForm)
		}
	}
}

func TestGetRefusesOtherSizes(t *testing.T) {
	for _, r := range []api.Root{{}, fewRoots()[17]} {
		whole := slowPut(r, key)
		more := append(append(slices.Clone(whole), whole...), make([]byte, 512)...)
		for n := range len(more) + 1 {
			if n != 512 {
				mustNotGet(t, "another size", more[:n:n], key, api.ErrForm)
				mustNotGet(t, "another size, with room", more[:n], key, api.ErrForm)
				mustNotGet(t, "noughts", make([]byte, n), key, api.ErrForm)
			}
			if n != 480 {
				mustNotGet(t, "a right sum of another size", signed(more[:n], key), key, api.ErrForm)
			}
		}
	}
	mustNotGet(t, "none", []byte{}, key, api.ErrForm)
	mustNotGet(t, "many", make([]byte, 1<<20), key, api.ErrForm)
}

// TestTheSumIsAskedAheadOfTheForm has sectors with both faults.
func TestTheSumIsAskedAheadOfTheForm(t *testing.T) {
	mustNotGet(t, "noughts", make([]byte, 512), key, api.ErrTampered)
	mustNotGet(t, "all bits", bytes.Repeat([]byte{255}, 512), key, api.ErrTampered)
	for _, at := range []int{0, 3, 44, 77, 79, 479} {
		laid := slowPut(api.Root{}, key)[:480]
		laid[at] = 200
		mustNotGet(t, "a fault of form with its sum", signed(laid, key), key, api.ErrForm)
		mustNotGet(t, "a fault of form with another sum", signed(laid, api.Key{}), key, api.ErrTampered)
		mustNotGet(t, "a fault of form without a sum", append(laid, make([]byte, 32)...), key, api.ErrTampered)
	}
}

func TestGetRefusesASumThatIsNotOfAllWithTheKey(t *testing.T) {
	whole := slowPut(fewRoots()[17], key)
	plain := sha.Of(whole[:480])
	mustNotGet(t, "a sum without a key", append(slices.Clone(whole[:480]), plain[:]...), key, api.ErrTampered)
	behind := sha.Of(key[:], whole[:480])
	mustNotGet(t, "a plain sum of key and bytes", append(slices.Clone(whole[:480]), behind[:]...), key, api.ErrTampered)
	for n := range 480 {
		short := signed(whole[:n], key)
		mustNotGet(t, "a sum of fewer bytes", append(slices.Clone(whole[:480]), short[n:]...), key, api.ErrTampered)
	}
	mustNotGet(t, "turned round", append(slices.Clone(whole[480:]), whole[:480]...), key, api.ErrTampered)
}

func TestGetNeitherChangesNorKeepsWhatItIsGiven(t *testing.T) {
	r := fewRoots()[17]
	room := append(slowPut(r, key), 1, 2, 3)
	given := slices.Clone(room)
	got, e := Get(room[:512], key)
	if !slowSame(got, r) || e != api.OK || !bytes.Equal(room, given) {
		t.Errorf("%v, error %d, behind it %x", got, int(e), room)
	}
	for i := range room {
		room[i] = 0xee
	}
	if !slowSame(got, r) {
		t.Error("a change of what was given is to be seen")
	}
	other, _ := Get(given[:512], key)
	pages := got.Pages[:cap(got.Pages)]
	for i := range pages {
		pages[i] = api.Ref{At: 77}
	}
	if later, _ := Get(given[:512], key); !slowSame(other, r) || !slowSame(later, r) {
		t.Error("two answers have one memory")
	}
}

// P14.3: Newest.

func TestNewestPicksTheGreaterVersion(t *testing.T) {
	versions := []uint64{0, 1, 2, 3, 255, 256, 1<<31 - 1, 1 << 31, 1<<32 - 1, 1 << 32, 1<<32 + 1, 1<<63 - 1, 1 << 63, 1<<63 + 1, math.MaxUint64 - 1, math.MaxUint64}
	for _, one := range versions {
		for _, other := range versions {
			a := mustPut(t, api.Root{Version: one, Area: 0, Length: 5, Pages: []api.Ref{{At: 6, Sum: run(2)}}}, key)
			b := mustPut(t, api.Root{Version: other, Area: 1, Length: 4}, key)
			r, at, e := Newest(a, b, key)
			want := 0
			if other > one {
				want = 1
			}
			if r.Version != max(one, other) || at != want || r.Area != want || r.Length != 5-want || len(r.Pages) != 1-want || e != api.OK {
				t.Fatalf("%d and %d: %v at %d, error %d", one, other, r, at, int(e))
			}
		}
	}
}

func TestNewestOfOneVersionIsTheFirstOne(t *testing.T) {
	for _, version := range []uint64{0, 1, 7, math.MaxUint64} {
		a, b := mustPut(t, api.Root{Version: version, Length: 8192}, key), mustPut(t, api.Root{Version: version, Area: 1}, key)
		if r, at, e := Newest(a, b, key); r.Length != 8192 || r.Area != 0 || at != 0 || e != api.OK {
			t.Errorf("%v at %d, error %d", r, at, int(e))
		}
		if r, at, e := Newest(b, a, key); r.Length != 0 || r.Area != 1 || at != 0 || e != api.OK {
			t.Errorf("%v at %d, error %d", r, at, int(e))
		}
		if r, at, e := Newest(a, a, key); r.Length != 8192 || at != 0 || e != api.OK {
			t.Errorf("%v at %d, error %d", r, at, int(e))
		}
	}
}

func TestNewestPassesOverWhatGetRefuses(t *testing.T) {
	right := []byte(nil)
	wrong := [][]byte{nil, {}, make([]byte, 512), make([]byte, 513), slowPut(api.Root{Version: math.MaxUint64}, api.Key{})}
	whole := slowPut(api.Root{Version: math.MaxUint64}, key)
	wrong = append(wrong, whole[:511], append(slices.Clone(whole), 0))
	for _, at := range []int{0, 4, 44, 77, 79, 479, 511} {
		turned := slices.Clone(whole)
		turned[at] ^= 0x80
		wrong = append(wrong, turned)
		if at != 4 && at < 480 { // with its sum, but not of its form
			wrong = append(wrong, signed(turned[:480], key))
		}
	}
	for _, version := range []uint64{0, 1, math.MaxUint64} {
		right = mustPut(t, api.Root{Version: version, Area: 1, Pages: []api.Ref{{At: 4}}}, key)
		for _, other := range wrong {
			if r, at, e := Newest(right, other, key); r.Version != version || r.Area != 1 || len(r.Pages) != 1 || at != 0 || e != api.OK {
				t.Fatalf("%v at %d, error %d", r, at, int(e))
			}
			if r, at, e := Newest(other, right, key); r.Version != version || r.Area != 1 || len(r.Pages) != 1 || at != 1 || e != api.OK {
				t.Fatalf("%v at %d, error %d", r, at, int(e))
			}
		}
	}
	for _, one := range wrong {
		for _, other := range wrong {
			if r, at, e := Newest(one, other, key); !slowSame(r, api.Root{}) || at != 0 || e != api.ErrTampered {
				t.Fatalf("%v at %d, error %d", r, at, int(e))
			}
		}
	}
}

func TestNewestFollowsTheChapter(t *testing.T) {
	var sectors [][]byte
	for _, r := range fewRoots() {
		sectors = append(sectors, slowPut(r, key), slowPut(r, api.Key{}))
	}
	sectors = append(sectors, nil, sectors[0][:511])
	for _, a := range sectors {
		for _, b := range sectors {
			mustPick(t, a, b, key)
		}
	}
	mustPick(t, sectors[0], sectors[1], api.Key{})
	mustPick(t, sectors[0], sectors[2], api.Key{})
}

func TestNewestNeitherChangesNorKeepsWhatItIsGiven(t *testing.T) {
	all := fewRoots()
	one, other := all[16], all[17]
	a, b := slowPut(one, key), slowPut(other, key)
	got, at, e := Newest(a, b, key)
	if !slowSame(got, other) || at != 1 || e != api.OK || !bytes.Equal(a, slowPut(one, key)) || !bytes.Equal(b, slowPut(other, key)) {
		t.Errorf("%v at %d, error %d", got, at, int(e))
	}
	clear(a)
	clear(b)
	if !slowSame(got, other) {
		t.Error("a change of what was given is to be seen")
	}
	if _, _, e := Newest(a, b, key); e != api.ErrTampered {
		t.Errorf("what was there earlier is known: error %d", int(e))
	}
}

// P14.3: Same.

func TestSameLooksAtEachField(t *testing.T) {
	base := api.Root{Version: 3, Super: run(1), Area: 1, Keys: run(33), Length: 9, Pages: []api.Ref{{At: 1, Sum: run(65)}, {At: 2, Sum: run(66)}}}
	change := func(how func(r *api.Root)) api.Root {
		r := base
		r.Pages = slices.Clone(base.Pages)
		how(&r)
		return r
	}
	unlike := []api.Root{
		{},
		change(func(r *api.Root) { r.Version = 4 }),
		change(func(r *api.Root) { r.Version += 1 << 32 }),
		change(func(r *api.Root) { r.Version += 1 << 63 }),
		change(func(r *api.Root) { r.Area = 0 }),
		change(func(r *api.Root) { r.Area = 257 }),
		change(func(r *api.Root) { r.Length = 10 }),
		change(func(r *api.Root) { r.Length += 65536 }),
		change(func(r *api.Root) { r.Length = -9 }),
		change(func(r *api.Root) { r.Super, r.Keys = r.Keys, r.Super }),
		change(func(r *api.Root) { r.Pages = nil }),
		change(func(r *api.Root) { r.Pages = r.Pages[:1] }),
		change(func(r *api.Root) { r.Pages = r.Pages[1:] }),
		change(func(r *api.Root) { r.Pages = append(r.Pages, api.Ref{}) }),
		change(func(r *api.Root) { r.Pages = append(r.Pages, r.Pages[1]) }),
		change(func(r *api.Root) { slices.Reverse(r.Pages) }),
	}
	for i := range 32 {
		unlike = append(unlike,
			change(func(r *api.Root) { r.Super[i] ^= 1 }),
			change(func(r *api.Root) { r.Keys[i] ^= 128 }),
			change(func(r *api.Root) { r.Pages[0].Sum[i] ^= 16 }),
			change(func(r *api.Root) { r.Pages[1].Sum[i] ^= 1 }),
			change(func(r *api.Root) { r.Pages[0].At ^= 1 << i }),
			change(func(r *api.Root) { r.Pages[1].At ^= 1 << i }),
		)
	}
	for i, other := range unlike {
		if Same(base, other) || Same(other, base) {
			t.Errorf("%d: %v is as %v", i, other, base)
		}
		if !Same(other, change(func(r *api.Root) { *r = other })) {
			t.Errorf("%d: %v is not as itself", i, other)
		}
	}
	if copied := change(func(*api.Root) {}); !Same(base, copied) || !Same(copied, base) {
		t.Error("like roots are not the same")
	}
}

func TestSameOfAllPairs(t *testing.T) {
	all := append(fewRoots(), wrongRoots()...) // roots that may not be are held against each other, too
	for _, a := range all {
		for _, b := range all {
			if got := Same(a, b); got != slowSame(a, b) {
				t.Fatalf("%v, %v: %v", a, b, got)
			}
		}
	}
}

func TestAnEmptyListAndNilAreTheSame(t *testing.T) {
	for _, none := range [][]api.Ref{nil, {}, make([]api.Ref, 0, 5), (&[3]api.Ref{{At: 1}})[:0]} {
		r := api.Root{Version: 5, Pages: none}
		if !Same(r, api.Root{Version: 5}) || !Same(api.Root{Version: 5, Pages: []api.Ref{}}, r) || !bytes.Equal(mustPut(t, r, key), slowPut(api.Root{Version: 5}, key)) {
			t.Errorf("%#v is another one", r)
		}
	}
}

func TestSameLeavesThePagesAsTheyAre(t *testing.T) {
	a, b := fewRoots()[16], fewRoots()[17]
	Same(a, b)
	if !slowSame(a, fewRoots()[16]) || !slowSame(b, fewRoots()[17]) {
		t.Error("the pages are other ones now")
	}
}

// P14.4.

func TestWhatWasTurnedIsSeen(t *testing.T) {
	all := fewRoots()
	for _, r := range []api.Root{all[0], all[16], all[17]} {
		whole := mustPut(t, r, key)
		for at := range whole {
			for bit := range 8 {
				turned := slices.Clone(whole)
				turned[at] ^= 1 << bit
				mustNotGet(t, "a bit that was turned", turned, key, api.ErrTampered)
			}
		}
		for at := range 511 {
			turned := slices.Clone(whole)
			turned[at], turned[at+1] = turned[at+1], turned[at]
			mustGet(t, "bytes that were changed for each other", turned, key)
			turned = slices.Clone(whole)
			turned[at] ^= 3
			turned[at+1] ^= 3
			mustNotGet(t, "two bytes that were turned alike", turned, key, api.ErrTampered)
		}
	}
}

func TestWhatIsPutTogetherOfTwoIsSeen(t *testing.T) {
	all := fewRoots()
	one, other := mustPut(t, all[16], key), mustPut(t, all[17], key)
	for cut := range 513 {
		mixed := append(slices.Clone(one[:cut]), other[cut:]...)
		r, e := Get(mixed, key)
		switch {
		case bytes.Equal(mixed, one) && slowSame(r, all[16]) && e == api.OK:
		case bytes.Equal(mixed, other) && slowSame(r, all[17]) && e == api.OK:
		case slowSame(r, api.Root{}) && e == api.ErrTampered:
		default:
			t.Fatalf("cut at %d: %v, error %d", cut, r, int(e))
		}
	}
}

func TestUnlikeRootsAreLaidUnlike(t *testing.T) {
	seen := map[string]api.Root{}
	for _, r := range fewRoots() {
		laid := string(mustPut(t, r, key))
		if other, met := seen[laid]; met && !slowSame(r, other) {
			t.Fatalf("%v is laid as %v", r, other)
		}
		seen[laid] = r
	}
}

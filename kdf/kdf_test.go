package kdf

import (
	"bytes"
	"math"
	"strings"
	"testing"

	"reliquary/api"
	"reliquary/hmac"
	"reliquary/sha"
)

// sizes are those of what is derived: around the ends of blocks, and the greatest.
var sizes = []int{0, 1, 2, 31, 32, 33, 63, 64, 65, 95, 96, 97, 100, 500, 991, 992, 993, 1023, 1024}

// derived tells what must be derived without an error.
func derived(t *testing.T, pass, salt []byte, turns, size int) []byte {
	t.Helper()
	b, e := Derive(pass, salt, turns, size)
	if e != api.OK || len(b) != size {
		t.Fatalf("a passphrase of %d bytes, a salt of %d, %d turns, size %d: %d bytes, error %d", len(pass), len(salt), turns, size, len(b), int(e))
	}
	return b
}

// P5.1: Derive.

func TestDeriveTheExamples(t *testing.T) {
	for turns, want := range map[int]string{
		1: "120fb6cffcf8b32c43e7225256c4f837a86548c92ccc35480805987cb70be17b",
		2: "ae4d0c95af6b46d32d0adff928f06dd02a303f8ef3c251dfd6e2d85a95474c43",
	} {
		if got := sha.Hex(derived(t, []byte("password"), []byte("salt"), turns, 32)); got != want {
			t.Errorf("%d turns: %s, not %s", turns, got, want)
		}
	}
	if b, e := Derive(nil, nil, 0, 1); len(b) != 0 || e != api.ErrArg {
		t.Errorf("no turns: %x, %d", b, int(e))
	}
	if b, e := Derive(nil, nil, 1, 0); len(b) != 0 || e != api.OK {
		t.Errorf("no bytes: %x, %d", b, int(e))
	}
}

// TestDeriveKnownTexts has first the case that RFC 7914 tells.
func TestDeriveKnownTexts(t *testing.T) {
	for i, c := range []struct {
		pass, salt  string
		turns, size int
		want        string
	}{
		{"passwd", "salt", 1, 64, "55ac046e56e3089fec1691c22544b605f94185216dde0465e68b9d57c20dacbc49ca9cccf179b645991664b39d77ef317c71b845b1e30bd509112041d3a19783"},
		{"password", "salt", 4096, 32, "c5e478d59288c841aa530db6845c4c8d962893a001ce4e11a4963873aa98134a"},
		{"passwordPASSWORDpassword", "saltSALTsaltSALTsaltSALTsaltSALTsalt", 4096, 40, "348c89dbcbd32b2f32d814b8116e84cf2b17347ebc1800181c4e2a1fb8dd53e1c635518c7dac47e9"},
		{"pass\x00word", "sa\x00lt", 4096, 16, "89b69d0516f829893c696226650a8687"},
		{"", "salt", 1, 32, "f135c27993baf98773c5cdb40a5706ce6a345cde61b000a67858650cd6a324d7"},
	} {
		if got := sha.Hex(derived(t, []byte(c.pass), []byte(c.salt), c.turns, c.size)); got != c.want {
			t.Errorf("case %d: %s, not %s", i, got, c.want)
		}
	}
}

func TestDeriveKnownSizes(t *testing.T) {
	for _, c := range []struct {
		pass, salt, turns, size int
		want                    string
	}{
		{0, 0, 1, 32, "f7ce0b653d2d72a4108cf5abe912ffdd777616dbbb27a70e8204f3ae2d0f6fad"},
		{0, 0, 2, 33, "97398411d6aea43a77acef92226ab8278d4db0668bd1d7a76a725f7680ac45c504"},
		{1, 0, 1, 31, "fe4962af5391bb6704f4b26e246691e2d43d5078b43db4ca689e90d3edb22a"},
		{0, 1, 1, 64, "a6b698b936be75a214e44f92e70afd6f891143659b9d68c027ba38ad42afad2d21937a9567c97d6b148ddf1500b26154d7cd5dce07a6d1b8a0bb5fdc16a9526e"},
		{8, 16, 3, 65, "6bf466fe6aeb8159cc030dd47077c7323f8ec649ad320b23b82c1849cee010a31be0a8dec45a3df7151a5e295f84b9a5c03e9aee403fcda244c7e4e65b75d16754"},
		{63, 16, 7, 40, "34acb6f7fef19ad8476976a919607e149bc4c6e3ba1758f841f3606f9bafa44e15ce21277721f2d5"},
		{64, 16, 7, 40, "16648ec1e7ec69d7c929130755578273ea93a601e075c97c0e998cf3913d8148f4bb79e6641cb273"},
		{65, 16, 7, 40, "30667b0e1ab2fb21226f58ff820286c518a9964d8a89277f372570cb77778917574fc184a2b7a543"},
		{512, 16, 5, 32, "b5cebd56ef67979a41d6ee91b007a7157513a144455a5044e25e7032b1622337"},
		{512, 1024, 1, 16, "667cf1fbd0b7e3e2cfe764b59463e064"},
		{32, 1024, 2, 100, "82b56bb6ae8d4caa6c2cbad046316b63a75450ca87bfcadbe2012594946256fb97570d7be0a5f9f40271e35a229ba25d3df15474a36480126187b6038988ea7802f8949d8112431f38a4b720561b78a52199725b4f797a4753591aeb9c0bdf1835984496"},
		{10, 51, 4, 20, "7cb94e2e0b6702017c630829e41ed8c7079cdfd0"},
		{10, 52, 4, 20, "8392deb8f9de09ccc3e7b2dfeebac23a7e69dd25"},
		{3, 3, 1000, 1, "d2"},
		{16, 16, 4096, 48, "f44dd02132d5027a7e0d1e5481d5cd354572c88131731c5b0033c7e470609d1a3c8bf2689106252e823ea9d6d6ac0f7c"},
	} {
		if got := sha.Hex(derived(t, sample(c.pass), sample(c.salt), c.turns, c.size)); got != c.want {
			t.Errorf("a passphrase of %d bytes, a salt of %d, %d turns: %s, not %s", c.pass, c.salt, c.turns, got, c.want)
		}
	}
}

func TestDeriveTheGreatest(t *testing.T) {
	sum := sha.Of(derived(t, sample(5), sample(7), 2, 1024))
	if got := sha.Hex(sum[:]); got != "3bb746ad8729bfe548bd7fcff6b9d4bfa24a2bc5c70ee8d45eb798880306f44c" {
		t.Errorf("the sum of all 1024 bytes: %s", got)
	}
}

func TestDeriveFollowsTheChapter(t *testing.T) {
	for _, pass := range []int{0, 1, 63, 64, 65, 512} {
		for _, salt := range []int{0, 1, 16, 51, 52, 60, 64, 1024} {
			for turns := 1; turns < 6; turns++ {
				for _, size := range []int{0, 1, 31, 32, 33, 65} {
					got, want := derived(t, sample(pass), sample(salt), turns, size), slowDerive(sample(pass), sample(salt), turns, size)
					if !bytes.Equal(got, want) {
						t.Fatalf("a passphrase of %d bytes, a salt of %d, %d turns, size %d: %x, not %x", pass, salt, turns, size, got, want)
					}
				}
			}
		}
	}
	for _, size := range sizes {
		got, want := derived(t, sample(9), sample(16), 3, size), slowDerive(sample(9), sample(16), 3, size)
		if !bytes.Equal(got, want) {
			t.Fatalf("size %d: %x, not %x", size, got, want)
		}
	}
}

func TestDeriveOfNothing(t *testing.T) {
	want := slowDerive(nil, nil, 2, 40)
	for _, pass := range [][]byte{nil, {}} {
		for _, salt := range [][]byte{nil, {}} {
			if got := derived(t, pass, salt, 2, 40); !bytes.Equal(got, want) {
				t.Errorf("%x, not %x", got, want)
			}
		}
	}
}

func TestDeriveTellsPassphraseAndSaltApart(t *testing.T) {
	one, other := []byte("one"), []byte("other")
	if bytes.Equal(derived(t, one, other, 1, 32), derived(t, other, one, 1, 32)) {
		t.Error("a passphrase is no salt")
	}
	if bytes.Equal(derived(t, []byte("ab"), []byte("c"), 1, 32), derived(t, []byte("a"), []byte("bc"), 1, 32)) {
		t.Error("where a passphrase ends counts")
	}
	if bytes.Equal(derived(t, one, []byte("a"), 1, 32), derived(t, one, []byte("a\x00"), 1, 32)) {
		t.Error("noughts behind a salt count")
	}
	pass, salt := sample(40), sample(40)
	first := derived(t, pass, salt, 2, 33)
	for i := range 8 * 40 {
		for _, b := range [][]byte{pass, salt} {
			b[i/8] ^= 1 << (i % 8)
			if bytes.Equal(derived(t, pass, salt, 2, 33), first) {
				t.Fatalf("the bit %d", i)
			}
			b[i/8] ^= 1 << (i % 8)
		}
	}
}

// mustRefuse asks whether Derive tells an error, and nothing beside it.
func mustRefuse(t *testing.T, pass, salt, turns, size int, want api.Errno) {
	t.Helper()
	if b, e := Derive(make([]byte, pass), make([]byte, salt), turns, size); e != want || len(b) != 0 {
		t.Errorf("a passphrase of %d bytes, a salt of %d, %d turns, size %d: %d bytes, error %d, not %d", pass, salt, turns, size, len(b), int(e), int(want))
	}
}

func TestDeriveErrLong(t *testing.T) {
	for _, pass := range []int{513, 514, 1024, 100000} {
		mustRefuse(t, pass, 0, 1, 32, api.ErrLong)
	}
	for _, salt := range []int{1025, 1026, 2048, 100000} {
		mustRefuse(t, 0, salt, 1, 32, api.ErrLong)
	}
	mustRefuse(t, 513, 1025, 1, 32, api.ErrLong)
	mustRefuse(t, 513, 0, 1, 0, api.ErrLong)
	derived(t, make([]byte, 512), make([]byte, 1024), 1, 32)
}

func TestDeriveErrArg(t *testing.T) {
	for _, turns := range []int{0, -1, -4096, 4097, 65536, 1<<32 + 1, math.MinInt, math.MaxInt} {
		for _, size := range []int{0, 1, 32, 1024} {
			mustRefuse(t, 8, 16, turns, size, api.ErrArg)
		}
	}
	for _, size := range []int{-1, -32, 1025, 1056, 1<<32 + 1, math.MinInt, math.MaxInt} {
		for _, turns := range []int{1, 2, 4096} {
			mustRefuse(t, 8, 16, turns, size, api.ErrArg)
		}
	}
	mustRefuse(t, 512, 1024, 0, -1, api.ErrArg)
	derived(t, nil, nil, 4096, 1)
	derived(t, nil, nil, 1, 1024)
}

func TestDeriveTellsErrLongAhead(t *testing.T) {
	for _, c := range [][2]int{{0, 32}, {4097, 32}, {1, -1}, {1, 1025}, {0, 0}, {0, -1}, {math.MaxInt, math.MaxInt}} {
		mustRefuse(t, 513, 0, c[0], c[1], api.ErrLong)
		mustRefuse(t, 0, 1025, c[0], c[1], api.ErrLong)
	}
}

func TestDeriveChangesNothingThatWasGiven(t *testing.T) {
	for _, n := range []int{0, 1, 63, 64, 65, 512} {
		pass, salt := sample(600), sample(700)
		first := derived(t, pass[:n], salt[:n], 3, 70)
		if !bytes.Equal(pass, sample(600)) || !bytes.Equal(salt, sample(700)) {
			t.Fatalf("%d bytes: what was given, or its room, was changed", n)
		}
		both := sample(600)
		if !bytes.Equal(derived(t, both[:n], both[:n], 3, 70), slowDerive(both[:n], both[:n], 3, 70)) || !bytes.Equal(both, sample(600)) {
			t.Fatalf("%d bytes: one text as both", n)
		}
		if !bytes.Equal(first, derived(t, pass[:n], salt[:n], 3, 70)) {
			t.Fatalf("%d bytes: the second time it is another", n)
		}
	}
}

func TestDeriveAnswersNewMemory(t *testing.T) {
	pass, salt := sample(100), sample(100)
	for _, size := range sizes {
		want := slowDerive(pass, salt, 1, size)
		one, other := derived(t, pass, salt, 1, size), derived(t, pass, salt, 1, size)
		whole := one[:cap(one)]
		for i := range whole {
			whole[i] ^= 0xff
		}
		if !bytes.Equal(other, want) || !bytes.Equal(pass, sample(100)) || !bytes.Equal(salt, sample(100)) {
			t.Fatalf("size %d: a change of one answer is to be seen", size)
		}
	}
}

func TestNothingMoreStandsInTheRoomOfWhatIsDerived(t *testing.T) {
	for _, size := range sizes {
		b := derived(t, []byte("a"), []byte("b"), 1, size)
		for _, one := range b[size:cap(b)] {
			if one != 0 {
				t.Fatalf("size %d: %x", size, b[size:cap(b)])
			}
		}
	}
}

// P5.2: Label.

func TestLabelKnown(t *testing.T) {
	for _, c := range []struct {
		key         []byte
		label, want string
	}{
		{make([]byte, 32), "", "5e8b99a879d31e6296576323e5fed19b1d02bcc997ab240980d328620cf0ea76"},
		{make([]byte, 32), "a", "f0bc742a837f548b8f9e43938dc42e88818bd8e2104d69646da6c94b5d49d9f7"},
		{sample(32), "", "f88f47f3a141bbbfe566717b6a917b658a08569051ea69f15d3e21337bcfdd87"},
		{sample(32), "xts", "f415157140b878b1454af4704df7e76642ece79d6c3c0d0b8b9624f8c67834f9"},
		{sample(32), "slots and roots", "7e4bff08de2c3e83c0625465c7e8f114b586728b77ba8bf1764f9cc149a715ac"},
		{sample(32), "reliquary ", "a58f44feda8780b98dcd688c9f355a66ca1da7fadfe367702143abb549029569"},
		{sample(32), strings.Repeat("a", 1000), "f6a75ead1fd8d617740ed12b34428a8e20bb77d65bb2c2d6966ed52f58ae1081"},
		{bytes.Repeat([]byte{0xff}, 32), "\x00", "5b3cdecf8aa22ef2728bf48889c025d480da22fe4c38492940caeae203cf43ad"},
	} {
		made := Label(api.Key(c.key), c.label)
		if got := sha.Hex(made[:]); got != c.want {
			t.Errorf("of %x the label %q: %s, not %s", c.key, c.label, got, c.want)
		}
	}
}

func TestLabelFollowsTheChapter(t *testing.T) {
	for n := range 200 {
		key, label := api.Key(sample(32 + n)[n:]), string(sample(n))
		if got, want := Label(key, label), api.Key(hmac.Of(key[:], []byte("reliquary "+label))); got != want {
			t.Fatalf("a label of %d bytes: %x, not %x", n, got, want)
		}
	}
}

func TestLabelTellsKeysAndLabelsApart(t *testing.T) {
	key := api.Key(sample(32))
	made := map[api.Key]string{key: "the key itself"}
	for _, label := range []string{"", " ", "a", "b", "A", "ab", "ba", "a\x00", "\x00", "\x00a", "reliquary", "reliquary ", "é", "\xff"} {
		got := Label(key, label)
		if made[got] != "" {
			t.Errorf("%q and %s have one key", label, made[got])
		}
		if Label(key, label) != got || key != api.Key(sample(32)) {
			t.Errorf("%q: the second time it is another, or the key has changed", label)
		}
		made[got] = "the label " + label
	}
	for i := range 256 {
		other := key
		other[i/8] ^= 1 << (i % 8)
		if got := Label(other, "a"); made[got] != "" {
			t.Fatalf("the key's bit %d: as %s", i, made[got])
		} else {
			made[got] = "another key"
		}
	}
}

// P5.3.

func TestWhatIsShorterIsABeginning(t *testing.T) {
	for _, turns := range []int{1, 2, 5} {
		whole := derived(t, []byte("pass"), []byte("salt"), turns, 1024)
		for size := range 1025 {
			if !bytes.Equal(derived(t, []byte("pass"), []byte("salt"), turns, size), whole[:size]) {
				t.Fatalf("%d turns, size %d", turns, size)
			}
		}
	}
}

func TestBlocksAreUnlike(t *testing.T) {
	whole := derived(t, []byte("pass"), []byte("salt"), 2, 1024)
	seen := map[api.Sum]bool{}
	for at := 0; at < len(whole); at += 32 {
		one := api.Sum(whole[at : at+32])
		if seen[one] {
			t.Fatalf("the one at %d stands ahead, too", at)
		}
		seen[one] = true
	}
}

func TestOneTurnMoreTurnsEachBlockByOneSumMore(t *testing.T) {
	const most = 40
	pass, salt := sample(70), sample(16)
	ahead := derived(t, pass, salt, 1, 96)
	for turns := 2; turns <= most; turns++ {
		want := bytes.Clone(ahead)
		for number := range 3 {
			for i, one := range slowSums(pass, salt, most, number+1)[turns-1] {
				want[32*number+i] ^= one
			}
		}
		got := derived(t, pass, salt, turns, 96)
		if !bytes.Equal(got, want) {
			t.Fatalf("%d turns: %x, not %x", turns, got, want)
		}
		ahead = got
	}
}

func TestTheLastTurnCounts(t *testing.T) {
	pass, salt := []byte("pass"), []byte("salt")
	ahead, got := derived(t, pass, salt, 4095, 32), derived(t, pass, salt, 4096, 32)
	for i, one := range slowSums(pass, salt, 4096, 1)[4095] {
		if got[i] != ahead[i]^one {
			t.Fatalf("the byte %d", i)
		}
	}
}

func BenchmarkDerive(b *testing.B) {
	pass, salt := sample(16), sample(16)
	for b.Loop() {
		Derive(pass, salt, api.MaxTurns, 32)
	}
}

func BenchmarkDeriveTheMost(b *testing.B) {
	pass, salt := sample(512), sample(1024)
	for b.Loop() {
		Derive(pass, salt, api.MaxTurns, 1024)
	}
}

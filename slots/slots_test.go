package slots

import (
	"bytes"
	"math"
	"math/rand"
	"slices"
	"strings"
	"testing"

	"reliquary/api"
	"reliquary/octet"
	"reliquary/sha"
)

// known is what another PBKDF2, another AES and another HMAC made of some passphrases.
var known = []struct {
	pass          string
	salt          [16]byte
	turns         int
	master        api.Key
	sealed, check string
}{
	{"a", [16]byte{}, 1, api.Key{1, 2, 3}, "b3d1990518ca41cfdfa99109e4f7128061f3193cf9044057a4a3c6ef8ba6d301", "264a1ff6679720edce830e9780b0398f251c674578e358b83a277a553e446966"},
	{"", [16]byte{}, 1, api.Key{}, "8f564d0ff66eaa396087f70d01c94bdf64eadb10312bdcbba0d44eef7e57e3ac", "6e921109389c1c1d1e63304de49a22fe15645f0a501b4649b2cbd0e1a3c670ca"},
	{" ", saltOf(1), 2, keyOf(1), "8c734cc6c28db3adff3b3ca0a7e4e2e062b9f95ebc7415d9024fdd39c3fb8b06", "f75b195876401be10c3e274fa375a8f815047dd774ea8c5bcdd2ee0e7eb0ed3c"},
	{"password", saltOf(2), 4096, keyOf(2), "682b45558e5623c700a03b03e5eaf66ffd70ba64d9414d714beab949ea4a2f8a", "85efe391edcacfe8bd2d8f7341b69b420f37a0a0ad715b714602be199a9efdbb"},
	{"a\x00b\xff", saltOf(3), 256, keyOf(3), "3633e395ebf6431b2d4adb127b0ba81a01d49bdd4f9450dc503a1574cd842ecf", "328a0339fbf8d11ba5c91a3e5f5855c45a096f39e56333ee91fc88324eee320f"},
	{long(64), saltOf(4), 255, keyOf(4), "d14dc47b085f6503ec1891f6a9d4f6446856378164706679efcf3daf846f6204", "c3ff9846bcf3b320c052cc2530d90bf4e9935be164c66a26753ab17868f93578"},
	{long(65), saltOf(5), 257, keyOf(5), "44c0ab39527c8dc83080922d0880e4b1f0b3c232db81086e5c26325545cf6d95", "b79bda0a7c6b69d2c6c4f6cb046ead280934834d7cb90d658ee84a89057f4953"},
	{long(512), saltOf(6), 3, keyOf(6), "69e0b269f55939d014d30b6fe283532181a83307e52345d4d3334ae56e1f1134", "c0a43b5f757a2d7aac6852f1c4d4d2b12c43ea89b2e783c97c10eda1e9c5b9a5"},
}

// The chapter's examples.

func TestExamples(t *testing.T) {
	if b := Put(Table{}); len(b) != 1024 || !octet.Nought(b) {
		t.Errorf("no slots: %x", b)
	}
	k := api.Key{9, 8, 7}
	one, e := Add(Table{}, []byte("a"), [16]byte{}, 1, k)
	mustMake(t, one, e)
	mustOpen(t, one, "a", k, 0)
	mustNotOpen(t, one, "b", api.ErrPass)
	for _, pass := range []string{"a", "a\x00"} {
		none, e := Add(one, []byte(pass), [16]byte{}, 1, k)
		mustRefuse(t, "added again", api.ErrThere, none, e)
	}
	none, e := Remove(one, []byte("a"))
	mustRefuse(t, "the last one", api.ErrLast, none, e)
	other, e := Add(Table{}, []byte("a\x00"), [16]byte{}, 1, k)
	mustMake(t, other, e)
	none, e = Add(other, []byte("a"), [16]byte{}, 1, k)
	mustRefuse(t, "the other way round", api.ErrThere, none, e)
}

// TestKnownTables has the whole table, and that of its first four slots, summed by another SHA-256.
func TestKnownTables(t *testing.T) {
	sums := map[int]string{
		0: "5f70bf18a086007016e948b04aed3b82103a36bea41755b6cddfaf10ace3c6ef",
		4: "0e3122a9082139155b0749bd3aee75261ad02581f0aa8ae4d0c430988841a4c1",
		8: "f50f685df82b4ef3383ac31420a8d1d43b5ce7a2d480e85a2a3613e8423dd295",
	}
	var table Table
	for i := range 9 {
		if want, told := sums[i]; told {
			if sum := Sum(table); sha.Hex(sum[:]) != want {
				t.Errorf("of %d slots the sum %x, not %s", i, sum, want)
			}
			if laid := sha.Of(Put(table)); sha.Hex(laid[:]) != want {
				t.Errorf("%d slots are laid so that they have the sum %x", i, laid)
			}
		}
		if i == 8 {
			break
		}
		c := known[i]
		more, e := Add(table, []byte(c.pass), c.salt, c.turns, c.master)
		table = mustMake(t, more, e)
		s := table[i]
		if !s.Used || int(s.Turns) != c.turns || s.Salt != c.salt || sha.Hex(s.Sealed[:]) != c.sealed || sha.Hex(s.Check[:]) != c.check {
			t.Errorf("the slot %d: %v", i, s)
		}
	}
	for i, c := range known {
		mustOpen(t, table, c.pass, c.master, i)
	}
}

// P12.1: Put.

func TestPutFollowsTheChapter(t *testing.T) {
	for _, table := range someTables() {
		if got, want := Put(table), slowPut(table); !bytes.Equal(got, want) {
			t.Fatalf("%v: %x, not %x", table, got, want)
		}
	}
}

func TestPutLaysWhatMayNotBe(t *testing.T) {
	b := Put(Table{2: junk(false, 65535)})
	if b[256] != 0 || b[257] != 255 || b[258] != 255 || octet.Nought(b[259:339]) {
		t.Errorf("%x", b)
	}
}

func TestPutAnswersNewMemory(t *testing.T) {
	for _, table := range []Table{{}, tableOf("a", "b")} {
		got, other := Put(table), Put(table)
		room := got[:cap(got)]
		for i := range room {
			room[i] = 0xee
		}
		if !bytes.Equal(other, slowPut(table)) || !bytes.Equal(Put(table), slowPut(table)) {
			t.Fatal("two answers have one memory")
		}
	}
}

// P12.1: Get.

func TestGetLeadsBackFromPut(t *testing.T) {
	taken, refused := 0, 0
	for _, table := range someTables() {
		got, e := Get(Put(table))
		want, f := slowGet(slowPut(table))
		if got != want || e != f {
			t.Fatalf("%v: %v, error %d, not %d", table, got, int(e), int(f))
		}
		if e == api.OK {
			taken++
			if got != table {
				t.Fatalf("%v: %v", table, got)
			}
			continue
		}
		refused++
	}
	if taken < 8 || refused < 8 {
		t.Fatalf("%d are taken, %d refused", taken, refused)
	}
}

func TestGetAsksForTheTurns(t *testing.T) {
	for i := range 8 {
		for turns := range 65536 {
			if turns > 20 && turns < 4080 || turns > 4110 && turns%4096 > 2 { // far from the edges
				continue
			}
			table := tableOf("a", "b", "c", "d", "e", "f", "g", "h")
			table[i].Turns = uint16(turns)
			got, e := Get(slowPut(table))
			if turns >= 1 && turns <= 4096 {
				if got != table || e != api.OK {
					t.Fatalf("%d turns in the slot %d: error %d", turns, i, int(e))
				}
				continue
			}
			mustRefuse(t, "turns", api.ErrForm, got, e)
		}
	}
}

func TestGetRefusesWhatIsNotUsedAndNotZero(t *testing.T) {
	for i := range 8 {
		for _, s := range []api.Slot{{Turns: 1}, {Turns: 256}, {Salt: [16]byte{15: 1}}, {Sealed: api.Key{1}}, {Check: api.Sum{31: 128}}, junk(false, 0), junk(false, 1)} {
			table := tableOf("a", "b", "c", "d", "e", "f", "g", "h")
			table[i] = s
			got, e := Get(slowPut(table))
			mustRefuse(t, "a slot that is not used", api.ErrForm, got, e)
			got, e = Get(slowPut(tableWith(Table{}, i, s)))
			mustRefuse(t, "a slot that is not used, alone", api.ErrForm, got, e)
		}
	}
}

func TestGetTakesTheSmallestSlot(t *testing.T) {
	for i := range 8 {
		table := tableWith(Table{}, i, api.Slot{Used: true, Turns: 1})
		if got, e := Get(slowPut(table)); got != table || e != api.OK {
			t.Fatalf("in the place %d: error %d", i, int(e))
		}
		got, e := Get(slowPut(tableWith(Table{}, i, api.Slot{Used: true})))
		mustRefuse(t, "no turns", api.ErrForm, got, e)
	}
}

func TestGetRefusesOtherSizes(t *testing.T) {
	whole := slowPut(tableOf("0", "1", "2", "3", "4", "5", "6", "7"))
	more := append(append(slices.Clone(whole), whole...), make([]byte, 1024)...)
	for n := range len(more) + 1 {
		for _, b := range [][]byte{more[:n:n], more[:n], make([]byte, n)} {
			got, e := Get(b)
			if n != 1024 {
				mustRefuse(t, "another size", api.ErrForm, got, e)
			} else if e != api.OK {
				t.Fatalf("the size: error %d", int(e))
			}
		}
	}
	got, e := Get(nil)
	mustRefuse(t, "none", api.ErrForm, got, e)
	got, e = Get(make([]byte, 1<<20))
	mustRefuse(t, "many", api.ErrForm, got, e)
}

func TestGetLooksAtEachByte(t *testing.T) {
	for _, table := range []Table{{}, tableOf("0", "1", "2", "3", "4", "5", "6", "7"), tableOf("a", "-", "b", "-", "-", "c")} {
		laid := slowPut(table)
		for at := range laid {
			was := laid[at]
			for _, turn := range []byte{1, 2, 3, 4, 8, 16, 32, 64, 128, 254, 255} {
				laid[at] = was ^ turn
				got, e := Get(laid)
				want, f := slowGet(laid)
				if got != want || e != f {
					t.Fatalf("the byte %d is %d, not %d: error %d, not %d", at, laid[at], was, int(e), int(f))
				}
				if e == api.OK && (got == table || !bytes.Equal(Put(got), laid)) {
					t.Fatalf("the byte %d does not count", at)
				}
			}
			laid[at] = was
		}
	}
}

func TestGetTakesOneByteForUsedAlone(t *testing.T) {
	for i := range 8 {
		laid := slowPut(tableOf("0", "1", "2", "3", "4", "5", "6", "7"))
		for used := range 256 {
			laid[128*i] = byte(used)
			got, e := Get(laid)
			if used != 1 {
				mustRefuse(t, "the first byte", api.ErrForm, got, e)
			} else if e != api.OK {
				t.Fatalf("error %d", int(e))
			}
		}
	}
}

func TestGetChangesNothing(t *testing.T) {
	table := tableOf("a", "b")
	laid := slowPut(table)
	got, _ := Get(laid)
	if !bytes.Equal(laid, slowPut(table)) {
		t.Error("what was given was changed")
	}
	for i := range laid {
		laid[i] = 0xee
	}
	if got != table {
		t.Error("a change of what was given is to be seen")
	}
}

// P12.1: Sum, Used.

func TestSumIsOfPut(t *testing.T) {
	seen := map[api.Sum]Table{}
	for _, table := range someTables() {
		sum := Sum(table)
		if sum != sha.Of(slowPut(table)) {
			t.Fatalf("%v: %x", table, sum)
		}
		if other, met := seen[sum]; met && other != table {
			t.Fatal("two tables have one sum")
		}
		seen[sum] = table
	}
}

func TestUsedCountsWhatIsUsed(t *testing.T) {
	for _, table := range someTables() {
		if got, want := Used(table), len(slowUsed(table)); got != want {
			t.Fatalf("%v: %d, not %d", table, got, want)
		}
	}
	for which := range 256 {
		var table Table
		want := 0
		for i := range table {
			table[i].Used = which>>i&1 == 1
			want += which >> i & 1
		}
		if got := Used(table); got != want {
			t.Fatalf("of the slots %b: %d, not %d", which, got, want)
		}
	}
	if Used(Table{junk(false, 1), junk(true, 0), junk(true, 5000)}) != 2 {
		t.Error("what may not be is used if it is Used")
	}
}

// P12.2: Open.

func TestOpenTellsWhichSlot(t *testing.T) {
	for i := range 8 {
		table := tableWith(Table{}, i, slowSlot("a", saltOf(i), i+1, keyOf(i)))
		mustOpen(t, table, "a", keyOf(i), i)
		mustNotOpen(t, table, "b", api.ErrPass)
	}
	table := tableOf("0", "1", "2", "3", "4", "5", "6", "7")
	for i := range 8 {
		mustOpen(t, table, string(rune('0'+i)), keyOf(100+i), i)
	}
	mustNotOpen(t, table, "8", api.ErrPass)
}

func TestOpenTakesTheFirstSlot(t *testing.T) {
	for i := range 8 {
		for j := range i {
			table := tableWith(tableWith(Table{}, i, slowSlot("a", saltOf(1), 2, keyOf(1))), j, slowSlot("a", saltOf(2), 3, keyOf(2)))
			mustOpen(t, table, "a", keyOf(2), j)
			table[j].Used = false
			mustOpen(t, table, "a", keyOf(1), i)
		}
	}
}

func TestOpenOfNoSlots(t *testing.T) {
	for _, pass := range []string{"", "\x00", "a", long(512)} {
		mustNotOpen(t, Table{}, pass, api.ErrPass)
	}
}

func TestOpenAsksForTheLength(t *testing.T) {
	for _, n := range []int{0, 1, 63, 64, 65, 511, 512} {
		mustOpen(t, tableOf("-", long(n)), long(n), keyOf(101), 1)
	}
	for _, n := range []int{513, 514, 1024, 1025, 65536 + 5} { // ErrLong stands ahead of ErrPass
		mustNotOpen(t, tableOf("-", long(n)), long(n), api.ErrLong)
		mustNotOpen(t, Table{}, long(n), api.ErrLong)
		mustNotOpen(t, tableOf(""), strings.Repeat("\x00", n), api.ErrLong)
	}
}

func TestOpenOfWhatMayNotBe(t *testing.T) {
	table := tableOf("-", "-", "-", "last")
	for _, turns := range []int{1, 4096} {
		table[1] = slowSlot("a", saltOf(3), turns, keyOf(3))
		mustOpen(t, table, "a", keyOf(3), 1)
		table[1].Used = false
		mustNotOpen(t, table, "a", api.ErrPass)
	}
	for _, turns := range []int{0, 4097, 4098, 8192, 65535} {
		for _, by := range []api.Key{{}, slowKey("a", saltOf(3), turns), slowKey("a", saltOf(3), 1), slowKey("a", saltOf(3), 4096)} {
			table[1] = sealedBy(by, saltOf(3), turns, keyOf(3))
			mustNotOpen(t, table, "a", api.ErrPass)
			mustOpen(t, table, "last", keyOf(103), 3) // what stands behind it is opened
		}
	}
}

func TestOpenHangsOnEachBit(t *testing.T) {
	for _, pass := range []string{"a", long(64), long(65)} {
		for bit := range 8 * len(pass) {
			other := []byte(pass)
			other[bit/8] ^= 1 << (bit % 8)
			mustNotOpen(t, tableOf(pass), string(other), api.ErrPass)
		}
	}
	for bit := range 256 {
		table := tableOf("-", "-", "a")
		if bit < 128 {
			table[2].Salt[bit/8] ^= 1 << (bit % 8)
			mustNotOpen(t, table, "a", api.ErrPass)
		}
		table = tableOf("-", "-", "a")
		table[2].Sealed[bit/8] ^= 1 << (bit % 8)
		mustNotOpen(t, table, "a", api.ErrPass)
		table = tableOf("-", "-", "a")
		table[2].Check[bit/8] ^= 1 << (bit % 8)
		mustNotOpen(t, table, "a", api.ErrPass)
	}
	for turns := range 20 {
		table := tableOf("-", "-", "a")
		if turns != int(table[2].Turns) {
			table[2].Turns = uint16(turns)
			mustNotOpen(t, table, "a", api.ErrPass)
		}
	}
}

func TestOpenByWhatMakesTheSameKeys(t *testing.T) {
	sum := sha.Of([]byte(long(65)))
	for _, c := range [][2]string{{"", "\x00"}, {"", strings.Repeat("\x00", 64)}, {"a", "a\x00"}, {"a", "a" + strings.Repeat("\x00", 63)}, {long(65), string(sum[:])}} {
		mustOpen(t, tableOf(c[0]), c[1], keyOf(100), 0)
		mustOpen(t, tableOf(c[1]), c[0], keyOf(100), 0)
	}
	mustNotOpen(t, tableOf("a"), "\x00a", api.ErrPass)
	mustNotOpen(t, tableOf("a"), "a"+strings.Repeat("\x00", 64), api.ErrPass)
}

// P12.3: Add.

func TestAddFillsSlotBySlot(t *testing.T) {
	var table, want Table
	for i := range 8 {
		pass := string(rune('a' + i))
		more, e := Add(table, []byte(pass), saltOf(i), 10*i+1, keyOf(i))
		table = mustMake(t, more, e)
		want[i] = slowSlot(pass, saltOf(i), 10*i+1, keyOf(i))
		if table != want {
			t.Fatalf("the slot %d: %v, not %v", i, table, want)
		}
		for j := range i + 1 {
			mustOpen(t, table, string(rune('a'+j)), keyOf(j), j)
		}
	}
	for _, pass := range []string{"", "i", long(512)} {
		more, e := Add(table, []byte(pass), saltOf(9), 1, keyOf(9))
		mustRefuse(t, "a ninth one", api.ErrSlots, more, e)
	}
}

func TestAddTakesTheFirstThatIsNotUsed(t *testing.T) {
	full := tableOf("0", "1", "2", "3", "4", "5", "6", "7")
	for which := range 255 {
		table, at := full, -1
		for i := range table {
			if which>>i&1 == 0 {
				table[i] = junk(false, uint16(i)) // all of it is laid anew
				if at < 0 {
					at = i
				}
			}
		}
		more, e := Add(table, []byte("fresh"), saltOf(5), 7, keyOf(5))
		want := table
		want[at] = slowSlot("fresh", saltOf(5), 7, keyOf(5))
		if more != want || e != api.OK {
			t.Fatalf("with the slots %b: %v, error %d", which, more, int(e))
		}
	}
}

func TestAddCountsWhatMayNotBeAsUsed(t *testing.T) {
	table := tableOf("0", "1", "2", "3", "4", "5", "6", "7")
	table[3], table[5] = junk(true, 0), junk(true, 65535)
	more, e := Add(table, []byte("fresh"), saltOf(5), 7, keyOf(5))
	mustRefuse(t, "all are used", api.ErrSlots, more, e)
}

func TestAddTakesAllTurns(t *testing.T) {
	for _, turns := range []int{1, 2, 3, 255, 256, 257, 4095, 4096} {
		table, e := Add(tableOf("0"), []byte("a"), saltOf(5), turns, keyOf(5))
		mustMake(t, table, e)
		if table[1] != slowSlot("a", saltOf(5), turns, keyOf(5)) {
			t.Fatalf("%d turns: %v", turns, table[1])
		}
		mustOpen(t, table, "a", keyOf(5), 1)
	}
}

// wrongTurns are beyond the edges, and such as look right when they are cut.
var wrongTurns = []int{0, -1, -4096, 4097, 4098, 8192, 65535, 65536, 65537, 65536 + 4096, 1<<32 + 1, -65535, math.MinInt, math.MinInt + 1, math.MaxInt}

func TestAddErrors(t *testing.T) {
	full := tableOf("0", "1", "2", "3", "4", "5", "6", "7")
	for _, table := range []Table{{}, tableOf("0"), full} {
		for _, n := range []int{513, 514, 65536 + 1} {
			for _, turns := range append(wrongTurns, 1) { // ErrLong stands ahead of ErrArg
				more, e := Add(table, []byte(long(n)), saltOf(5), turns, keyOf(5))
				mustRefuse(t, "a long one", api.ErrLong, more, e)
			}
		}
		for _, turns := range wrongTurns { // ErrArg stands ahead of ErrThere and ErrSlots
			for _, pass := range []string{"0", "a", "", long(512)} {
				more, e := Add(table, []byte(pass), saltOf(5), turns, keyOf(5))
				mustRefuse(t, "wrong turns", api.ErrArg, more, e)
			}
		}
	}
	for i := range 8 { // ErrThere stands ahead of ErrSlots
		for _, table := range []Table{full, tableWith(Table{}, i, full[i])} {
			for _, pass := range []string{string(rune('0' + i)), string(rune('0'+i)) + "\x00\x00"} {
				more, e := Add(table, []byte(pass), saltOf(5), 9, keyOf(5))
				mustRefuse(t, "what is there", api.ErrThere, more, e)
			}
		}
	}
}

func TestAddTakesWhatASlotThatMayNotBeHas(t *testing.T) {
	table := tableOf("0", "1", "2")
	table[1].Used = false
	more, e := Add(table, []byte("1"), saltOf(5), 7, keyOf(5))
	mustMake(t, more, e)
	mustOpen(t, more, "1", keyOf(5), 1)
	table = tableOf("0", "1", "2")
	table[1].Turns = 0
	more, e = Add(table, []byte("1"), saltOf(5), 7, keyOf(5))
	mustMake(t, more, e)
	mustOpen(t, more, "1", keyOf(5), 3)
}

func TestAddTakesAnyMaster(t *testing.T) {
	table := tableOf("0")
	for i, master := range []api.Key{{}, keyOf(100), {31: 255}} {
		more, e := Add(table, []byte{byte('a' + i)}, saltOf(5), 1, master)
		table = mustMake(t, more, e)
		mustOpen(t, table, string(rune('a'+i)), master, i+1)
	}
}

func TestSaltAndTurnsMakeUnlikeSlots(t *testing.T) {
	seen := map[api.Key]bool{}
	for n := range 50 {
		for _, table := range []func() (Table, api.Errno){
			func() (Table, api.Errno) { return Add(Table{}, []byte("a"), saltOf(n), 100, keyOf(1)) },
			func() (Table, api.Errno) { return Add(Table{}, []byte("a"), saltOf(0), n+1, keyOf(1)) },
		} {
			made, e := table()
			if sealed := mustMake(t, made, e)[0].Sealed; seen[sealed] {
				t.Fatalf("%d: two slots are sealed alike", n)
			} else {
				seen[sealed] = true
			}
		}
	}
}

// P12.4: Remove.

func TestRemoveEmptiesTheSlot(t *testing.T) {
	full := tableOf("0", "1", "2", "3", "4", "5", "6", "7")
	for i := range 8 {
		less, e := Remove(full, []byte{byte('0' + i)})
		want := full
		want[i] = api.Slot{}
		if less != want || e != api.OK {
			t.Fatalf("the slot %d: %v, error %d", i, less, int(e))
		}
		mustNotOpen(t, less, string(rune('0'+i)), api.ErrPass)
		for j := range 8 {
			if j != i {
				mustOpen(t, less, string(rune('0'+j)), keyOf(100+j), j)
			}
		}
		got, e := Get(Put(less))
		if got != less || e != api.OK {
			t.Fatalf("the slot %d: it is not read again", i)
		}
	}
}

func TestRemoveLeavesOne(t *testing.T) {
	for i := range 8 {
		table := tableOf("0", "1", "2", "3", "4", "5", "6", "7")
		for j := range 8 {
			if j == i {
				continue
			}
			less, e := Remove(table, []byte{byte('0' + j)})
			table = mustMake(t, less, e)
		}
		none, e := Remove(table, []byte{byte('0' + i)})
		mustRefuse(t, "the last one", api.ErrLast, none, e)
		none, e = Remove(table, []byte("a")) // ErrPass stands ahead of ErrLast
		mustRefuse(t, "another one", api.ErrPass, none, e)
		none, e = Remove(table, []byte(long(513)))
		mustRefuse(t, "a long one", api.ErrLong, none, e)
		mustOpen(t, table, string(rune('0'+i)), keyOf(100+i), i)
	}
}

func TestRemoveErrors(t *testing.T) {
	for _, table := range []Table{{}, tableOf("0", "1"), tableOf("0", "1", "2", "3", "4", "5", "6", "7")} {
		for _, pass := range []string{"", "a", "00", long(512)} {
			none, e := Remove(table, []byte(pass))
			mustRefuse(t, "another one", api.ErrPass, none, e)
		}
		for _, n := range []int{513, 514, 65536 + 1} {
			none, e := Remove(table, []byte(long(n)))
			mustRefuse(t, "a long one", api.ErrLong, none, e)
		}
	}
}

func TestRemoveCountsWhatIsUsed(t *testing.T) {
	table := tableOf("-", "1")
	table[4] = junk(false, 1)
	none, e := Remove(table, []byte("1"))
	mustRefuse(t, "beside one that is not used", api.ErrLast, none, e)
	table[4] = junk(true, 0)
	less, e := Remove(table, []byte("1"))
	if less != (Table{4: junk(true, 0)}) || e != api.OK {
		t.Errorf("beside one that may not be, but is used: error %d", int(e))
	}
}

func TestRemoveTakesTheFirstSlot(t *testing.T) {
	table := Table{2: slowSlot("a", saltOf(1), 2, keyOf(1)), 6: slowSlot("a", saltOf(2), 3, keyOf(2))}
	less, e := Remove(table, []byte("a"))
	if less != (Table{6: table[6]}) || e != api.OK {
		t.Fatalf("%v, error %d", less, int(e))
	}
	mustOpen(t, less, "a", keyOf(2), 6)
}

// P12.4: Rotate.

func TestRotateSealsTheSlotAnew(t *testing.T) {
	full := tableOf("0", "1", "2", "3", "4", "5", "6", "7")
	for i := range 8 {
		for _, table := range []Table{full, tableWith(Table{}, i, full[i])} {
			old := string(rune('0' + i))
			got, e := Rotate(table, []byte(old), []byte("fresh"), saltOf(50+i), 4096-i)
			want := table
			want[i] = slowSlot("fresh", saltOf(50+i), 4096-i, keyOf(100+i))
			if got != want || e != api.OK {
				t.Fatalf("the slot %d: %v, error %d", i, got, int(e))
			}
			mustOpen(t, got, "fresh", keyOf(100+i), i)
			mustNotOpen(t, got, old, api.ErrPass)
		}
	}
}

func TestRotateThereAndBack(t *testing.T) {
	table := tableOf("a", "b", "c")
	got, e := Rotate(table, []byte("b"), []byte("d"), saltOf(9), 9)
	mustMake(t, got, e)
	back, e := Rotate(got, []byte("d"), []byte("b"), table[1].Salt, int(table[1].Turns))
	if back != table || e != api.OK {
		t.Fatalf("%v, error %d", back, int(e))
	}
}

func TestRotateErrors(t *testing.T) {
	for _, table := range []Table{tableOf("0"), tableOf("0", "1"), tableOf("0", "1", "2", "3", "4", "5", "6", "7")} {
		refuse := func(want api.Errno, old, fresh string, turns int) {
			t.Helper()
			got, e := Rotate(table, []byte(old), []byte(fresh), saltOf(5), turns)
			mustRefuse(t, old[:min(len(old), 5)]+" by "+fresh[:min(len(fresh), 5)], want, got, e)
		}
		for _, turns := range append(wrongTurns, 1) {
			for _, fresh := range []string{"0", "fresh", long(513)} { // old's errors stand ahead of fresh's
				refuse(api.ErrLong, long(514), fresh, turns)
				refuse(api.ErrPass, "a", fresh, turns)
			}
			refuse(api.ErrLong, "0", long(513), turns) // ErrLong stands ahead of ErrArg
		}
		for _, turns := range wrongTurns {
			for _, fresh := range []string{"0", "fresh", long(512)} { // ErrArg stands ahead of ErrThere
				refuse(api.ErrArg, "0", fresh, turns)
			}
		}
		refuse(api.ErrThere, "0", "0", 1)
		refuse(api.ErrThere, "0", "0\x00", 1)
		for i := range Used(table) {
			refuse(api.ErrThere, "0", string(rune('0'+i)), 4)
			refuse(api.ErrThere, string(rune('0'+i)), "0", 4)
		}
	}
	got, e := Rotate(Table{}, []byte("0"), []byte("1"), saltOf(5), 1)
	mustRefuse(t, "of no slots", api.ErrPass, got, e)
}

func TestRotateTakesTheFirstSlot(t *testing.T) {
	table := Table{2: slowSlot("a", saltOf(1), 2, keyOf(1)), 6: slowSlot("a", saltOf(2), 3, keyOf(2))}
	got, e := Rotate(table, []byte("a"), []byte("b"), saltOf(3), 4)
	if got != (Table{2: slowSlot("b", saltOf(3), 4, keyOf(1)), 6: table[6]}) || e != api.OK {
		t.Fatalf("%v, error %d", got, int(e))
	}
}

func TestRotateTakesEachLength(t *testing.T) {
	for _, n := range []int{0, 1, 64, 65, 511, 512} {
		for _, m := range []int{2, 63, 66, 510} {
			got, e := Rotate(tableOf(long(n)), []byte(long(n)), []byte(long(m)), saltOf(5), 2)
			mustMake(t, got, e)
			mustOpen(t, got, long(m), keyOf(100), 0)
			mustNotOpen(t, got, long(n), api.ErrPass)
			back, e := Rotate(got, []byte(long(m)), []byte(long(n)), saltOf(6), 3)
			mustMake(t, back, e)
			mustOpen(t, back, long(n), keyOf(100), 0)
		}
	}
}

// P12.5.

// TestEachPassphraseOpensUntilItIsTakenAway knows of each passphrase alone whether it was added, with which master key.
func TestEachPassphraseOpensUntilItIsTakenAway(t *testing.T) {
	passes := []string{"", "\x00", "a", "a\x00", "b", "c", "d", "e", "f", "g", long(64), long(65), long(512), long(513)}
	chance := rand.New(rand.NewSource(12))
	answers := map[api.Errno]int{}
	for range 8 {
		var table Table
		masters := map[string]api.Key{}
		for step := range 160 {
			pass, fresh := passes[chance.Intn(len(passes))], passes[chance.Intn(len(passes))]
			salt, turns, master := saltOf(chance.Intn(256)), chance.Intn(6), keyOf(chance.Intn(256))
			var next, want Table
			var e, f api.Errno
			rises := step/40%2 == 0 // the table fills, and empties again
			switch kind := chance.Intn(6); {
			case kind < 4 && rises || kind == 4:
				next, e = Add(table, []byte(pass), salt, turns, master)
				want, f = slowAdd(table, pass, salt, turns, master)
				if e == api.OK {
					masters[alike(pass)] = master
				}
			case kind < 4:
				next, e = Remove(table, []byte(pass))
				want, f = slowRemove(table, pass)
				if e == api.OK {
					delete(masters, alike(pass))
				}
			default:
				next, e = Rotate(table, []byte(pass), []byte(fresh), salt, turns)
				want, f = slowRotate(table, pass, fresh, salt, turns)
				if e == api.OK {
					masters[alike(fresh)] = masters[alike(pass)]
					delete(masters, alike(pass))
				}
			}
			if next != want || e != f {
				t.Fatalf("step %d: error %d, not %d", step, int(e), int(f))
			}
			answers[e]++
			if e == api.OK {
				table = next
			}
			mustHave(t, table, passes, masters)
		}
	}
	for _, e := range []api.Errno{api.OK, api.ErrLong, api.ErrArg, api.ErrThere, api.ErrSlots, api.ErrPass, api.ErrLast} {
		if answers[e] == 0 {
			t.Errorf("error %d was never met", int(e))
		}
	}
}

// mustHave asks of each passphrase whether it opens its master key, and whether the table is read again.
func mustHave(t *testing.T, table Table, passes []string, masters map[string]api.Key) {
	t.Helper()
	if Used(table) != len(masters) {
		t.Fatalf("%d slots are used, not %d", Used(table), len(masters))
	}
	if got, e := Get(Put(table)); got != table || e != api.OK {
		t.Fatalf("the table is not read again: error %d", int(e))
	}
	for _, pass := range passes {
		master, there := masters[alike(pass)]
		got, at, e := Open(table, []byte(pass))
		switch {
		case len(pass) > 512:
			mustNotOpen(t, table, pass, api.ErrLong)
		case !there:
			mustNotOpen(t, table, pass, api.ErrPass)
		case got != master || e != api.OK || !table[at].Used:
			t.Fatalf("%.20q opens %x by the slot %d, error %d, not %x", pass, got, at, int(e), master)
		}
	}
}

// The rules of the whole: what is answered hangs on the arguments alone, and they are not changed.

func TestPassphrasesAreNeitherChangedNorKept(t *testing.T) {
	room, other := []byte("passphrase and more"), []byte("fresh one and more")
	pass, fresh := room[:10], other[:5]
	table := tableOf("0", "1")
	added, e := Add(table, pass, saltOf(1), 2, keyOf(1))
	mustMake(t, added, e)
	rotated, e := Rotate(added, pass, fresh, saltOf(2), 3)
	mustMake(t, rotated, e)
	removed, e := Remove(rotated, fresh)
	mustMake(t, removed, e)
	mustOpen(t, added, "passphrase", keyOf(1), 2)
	if string(room) != "passphrase and more" || string(other) != "fresh one and more" {
		t.Error("what was given was changed")
	}
	for i := range room {
		room[i] = 0xee
	}
	mustOpen(t, added, "passphrase", keyOf(1), 2)
	mustOpen(t, rotated, "fresh", keyOf(1), 2)
	if table != tableOf("0", "1") || removed != table {
		t.Error("a table was changed")
	}
}

func TestWhatWasDoneAheadIsNotToBeSeen(t *testing.T) {
	table := tableOf("0", "1", "2")
	for n := range 5 {
		Add(table, []byte{byte(n)}, saltOf(n), n, keyOf(n))
		Remove(table, []byte("1"))
		Rotate(table, []byte("2"), []byte{byte(n)}, saltOf(n), n)
		Get(Put(tableWith(Table{}, n, junk(true, 5))))
		more, e := Add(table, []byte("a"), saltOf(7), 3, keyOf(7))
		if mustMake(t, more, e) != tableWith(table, 3, slowSlot("a", saltOf(7), 3, keyOf(7))) {
			t.Fatal("a second time it is another")
		}
		mustOpen(t, table, "1", keyOf(101), 1)
	}
}

func BenchmarkOpen(b *testing.B) {
	var table Table
	for i := range table {
		table[i] = slowSlot(string(rune('0'+i)), saltOf(i), 4096, keyOf(i))
	}
	for b.Loop() {
		Open(table, []byte("7"))
	}
}

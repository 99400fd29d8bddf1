package device

import (
	"math/rand"
	"testing"

	"reliquary/api"
)

// The chapter's examples.

func TestExamples(t *testing.T) {
	d := New(2000)
	mustSay(t, "Write", d.Write(0, full(1, 600)), api.OK)
	mustCount(t, d, 1, 2)
	mustSay(t, "Write behind the end", d.Write(601, full(1, 600)), api.ErrRange)
	mustSay(t, "Write of too much", d.Write(0, full(1, 2001)), api.ErrFull)
	d.Start([]byte{2})
	mustHave(t, d, append(full(0, 512), full(1, 88)...))

	d = New(2000)
	d.Fail(0, true)
	mustSay(t, "Write", d.Write(0, []byte("a")), api.ErrDown)
	_, e := d.Read(0, 1)
	mustSay(t, "Read", e, api.ErrDown)
	d.Start([]byte{1})
	mustHave(t, d, []byte("a"))
}

// P11.1.

func TestNew(t *testing.T) {
	for _, c := range [][2]int{{leastInt, 0}, {-1, 0}, {0, 0}, {1, 1}, {511, 511}, {513, 513}, {65536, 65536},
		{1<<24 - 1, 1<<24 - 1}, {1 << 24, 1 << 24}, {1<<24 + 1, 1 << 24}, {1 << 32, 1 << 24}, {mostInt, 1 << 24}} {
		d := New(c[0])
		if d.Most() != c[1] || d.Down() {
			t.Fatalf("New(%d): most %d, down %v", c[0], d.Most(), d.Down())
		}
		mustHave(t, d, nil)
		mustCount(t, d, 0, 0)
	}
}

func TestMostIsKept(t *testing.T) {
	for _, most := range []int{0, 1, 5, 511, 512, 513, 2000} {
		d := New(most)
		mustSay(t, "one byte too many", d.Write(0, full(1, most+1)), api.ErrFull)
		mustSay(t, "all of it", d.Write(0, full(1, most)), api.OK)
		mustSay(t, "one behind", d.Write(most, full(1, 1)), api.ErrFull)
		mustSay(t, "none behind", d.Write(most, nil), api.OK)
		mustHave(t, d, full(1, most))
	}
}

func TestGreatest(t *testing.T) {
	d := New(mostInt)
	mustSay(t, "too much", d.Write(0, make([]byte, 1<<24+1)), api.ErrFull)
	mustSay(t, "all of it", d.Write(0, full(7, 1<<24)), api.OK)
	mustCount(t, d, 1, 32768)
	mustSay(t, "Sync", d.Sync(), api.OK)
	mustSay(t, "the last byte", d.Write(1<<24-1, []byte{9}), api.OK)
	mustSay(t, "one more", d.Write(1<<24-1, []byte{9, 9}), api.ErrFull)
	if b := behind(d); b != string(full(7, 1<<24)) {
		t.Fatal("what was synced is lost")
	}
	if b := behind(d, 1); b[1<<24-2:] != "\x07\x09" {
		t.Fatal("what stays is lost")
	}
}

// P11.2: Write.

func TestWriteLaysBytes(t *testing.T) {
	d := New(20)
	for _, c := range []struct {
		at    int
		bytes string
		want  string
	}{{0, "abc", "abc"}, {3, "de", "abcde"}, {1, "XY", "aXYde"}, {4, "123", "aXYd123"}, {0, "", "aXYd123"}, {7, "", "aXYd123"},
		{0, "z", "zXYd123"}, {7, "0123456789abc", "zXYd1230123456789abc"}, {0, "ABCDEFGHIJKLMNOPQRST", "ABCDEFGHIJKLMNOPQRST"}} {
		mustSay(t, "Write", d.Write(c.at, []byte(c.bytes)), api.OK)
		mustHave(t, d, []byte(c.want))
	}
	mustCount(t, d, 9, 7)
}

func TestWriteRefuses(t *testing.T) {
	d := New(600)
	d.Write(0, full(5, 100))
	d.Sync()
	d.Write(10, []byte("loose"))
	file := d.Bytes()
	for _, c := range []struct {
		at, n int
		want  api.Errno
	}{{-1, 1, api.ErrRange}, {-1, 0, api.ErrRange}, {101, 0, api.ErrRange}, {101, 1, api.ErrRange}, {101, 700, api.ErrRange}, {-1, 700, api.ErrRange},
		{600, 1, api.ErrRange}, {leastInt, 1, api.ErrRange}, {mostInt, 1, api.ErrRange}, {mostInt, 0, api.ErrRange}, {leastInt, 700, api.ErrRange},
		{100, 501, api.ErrFull}, {0, 601, api.ErrFull}, {1, 600, api.ErrFull}, {99, 502, api.ErrFull}, {100, 5000, api.ErrFull}} {
		d.Fail(0, true)
		mustSay(t, "Write", d.Write(c.at, full(1, c.n)), c.want)
		mustHave(t, d, file)
		mustCount(t, d, 3, 1)
		if d.Down() || behind(d) != string(full(5, 100)) || behind(d, 255) != string(file) {
			t.Fatalf("Write(%d, %d bytes) has done something", c.at, c.n)
		}
	}
	mustSay(t, "the step that goes down", d.Write(100, full(1, 500)), api.ErrDown) // what was refused was no step
	d.Start(nil)
	mustSay(t, "as much as may be", d.Write(100, full(1, 500)), api.OK)
}

func TestWriteTakesNothing(t *testing.T) {
	d, b := New(2000), full(3, 700)
	d.Write(0, b[:600])
	if string(b) != string(full(3, 700)) {
		t.Fatal("the argument was changed")
	}
	clear(b)
	mustHave(t, d, full(3, 600))
	if behind(d, 3) != string(full(3, 600)) {
		t.Fatal("a loose write kept the argument")
	}
}

func TestLooseOnePerSector(t *testing.T) {
	for _, c := range [][3]int{{0, 0, 0}, {512, 0, 0}, {700, 0, 0}, {1536, 0, 0}, {0, 1, 1}, {0, 511, 1}, {0, 512, 1}, {0, 513, 2}, {1, 511, 1}, {1, 512, 2}, {511, 1, 1},
		{511, 2, 2}, {512, 1, 1}, {512, 512, 1}, {513, 512, 2}, {511, 513, 2}, {511, 514, 3}, {0, 1024, 2}, {0, 1025, 3}, {0, 4000, 8}, {1536, 4096, 8}} {
		d := New(6000)
		d.Write(0, full(1, 1536))
		d.Sync()
		mustSay(t, "Write", d.Write(c[0], full(2, c[1])), api.OK)
		mustCount(t, d, 3, c[2])
		d.Write(c[0], full(2, c[1]))
		mustCount(t, d, 4, 2*c[2])
	}
}

func TestLooseHasWholeSectors(t *testing.T) {
	d := New(2000)
	d.Write(0, full('.', 1100))
	d.Sync()
	d.Write(3, []byte("a"))
	d.Write(511, []byte("bc")) // the sectors 0 and 1
	d.Write(5, []byte("d"))
	for keep, want := range map[byte]string{0: "......", 1: "...a..", 2: "...a..", 4: "......", 8: "...a.d", 9: "...a.d", 3: "...a..", 15: "...a.d"} {
		if got := behind(d, keep); got[:6] != want || (got[511] == 'b') != (keep&10 != 0) || (got[512] == 'c') != (keep&4 != 0) || len(got) != 1100 {
			t.Errorf("keep %d: %q %q", keep, got[:6], got[511:513])
		}
	}
}

// P11.2: Sync, Beat.

func TestSyncMakesSafe(t *testing.T) {
	d := New(3000)
	d.Write(0, full(1, 600))
	d.Write(600, full(2, 600))
	mustCount(t, d, 2, 4)
	if behind(d) != "" {
		t.Fatal("safe too early")
	}
	mustSay(t, "Sync", d.Sync(), api.OK)
	mustCount(t, d, 3, 0)
	want := append(full(1, 600), full(2, 600)...)
	for _, keep := range []byte{0, 1, 255} {
		if behind(d, keep) != string(want) {
			t.Fatal("what was synced is lost")
		}
	}
	d.Write(1100, full(3, 500))
	mustCount(t, d, 4, 2)
	mustHave(t, d, append(want[:1100:1100], full(3, 500)...))
	if behind(d) != string(want) {
		t.Fatal("safe too early")
	}
	mustSay(t, "Sync", d.Sync(), api.OK)
	if behind(d) != string(append(want[:1100:1100], full(3, 500)...)) {
		t.Fatal("what was synced is lost")
	}
	mustSay(t, "Sync of nothing", d.Sync(), api.OK)
	mustCount(t, d, 6, 0)
}

func TestSyncTakesWhatIsSeen(t *testing.T) { // not what loose writes had
	d := New(3000)
	d.Write(0, full(1, 600))
	d.Edit(2, full(7, 3))
	d.Edit(600, full(8, 900))
	want := string(d.Bytes())
	d.Sync()
	if behind(d) != want {
		t.Fatalf("%.10q", behind(d))
	}
}

func TestBeatDoesNothing(t *testing.T) {
	d := New(3000)
	mustSay(t, "Beat", d.Beat(), api.OK)
	d.Write(0, full(1, 600))
	mustSay(t, "Beat", d.Beat(), api.OK)
	mustHave(t, d, full(1, 600))
	mustCount(t, d, 3, 2)
	if behind(d) != "" {
		t.Fatal("a Beat made something safe")
	}
}

// P11.2: the step that goes down.

func TestStepsGoDown(t *testing.T) {
	steps := map[string]func(*Device) api.Errno{
		"Write":      func(d *Device) api.Errno { return d.Write(1, []byte("b")) },
		"Write none": func(d *Device) api.Errno { return d.Write(1, nil) },
		"Sync":       func(d *Device) api.Errno { return d.Sync() },
		"Beat":       func(d *Device) api.Errno { return d.Beat() },
	}
	for name, step := range steps {
		for after := range 5 {
			for _, done := range []bool{false, true} {
				d, slow := New(10), slowNew(10)
				d.Write(0, []byte("a"))
				slow.write(0, []byte("a"))
				mustSay(t, "Fail", d.Fail(after, done), api.OK)
				slow.tellFail(after, done)
				for range after {
					mustSay(t, "Beat", d.Beat(), api.OK)
					slow.beat()
				}
				mustBeLike(t, d, slow)
				mustSay(t, name, step(d), api.ErrDown)
				file, loose, safe := "a", 1, ""
				if done && name == "Write" {
					file, loose = "ab", 2
				}
				if done && name == "Sync" {
					loose, safe = 0, "a"
				}
				mustHave(t, d, []byte(file))
				mustCount(t, d, after+2, loose)
				if !d.Down() || behind(d) != safe || behind(d, 255) != file {
					t.Fatalf("%s, %v: down %v, safe %q", name, done, d.Down(), behind(d))
				}
			}
		}
	}
}

func TestDownAnswers(t *testing.T) {
	d := New(1000)
	d.Write(0, full(1, 600))
	d.Fail(0, false)
	mustSay(t, "Beat", d.Beat(), api.ErrDown)
	for range 3 {
		for _, at := range []int{leastInt, -1, 0, 1, 600, 601, 5000, mostInt} { // ErrDown stands ahead of the others
			for _, n := range []int{leastInt, -1, 0, 1, 1001, mostInt} {
				b, e := d.Read(at, n)
				mustSay(t, "Read", e, api.ErrDown)
				if len(b) != 0 {
					t.Fatal("bytes beside an error")
				}
				mustSay(t, "Write", d.Write(at, full(2, min(max(n, 0), 2000))), api.ErrDown)
			}
		}
		mustSay(t, "Sync", d.Sync(), api.ErrDown)
		mustSay(t, "Beat", d.Beat(), api.ErrDown)
		mustSay(t, "Fail", d.Fail(0, true), api.ErrDown)
		mustHave(t, d, full(1, 600))
		mustCount(t, d, 2, 2) // what a device that is down answers is no step
	}
	if !d.Down() || d.Most() != 1000 || behind(d) != "" || behind(d, 3) != string(full(1, 600)) {
		t.Fatal("a device that is down was changed")
	}
}

// P11.3.

func TestReadTellsPieces(t *testing.T) {
	d := New(1000)
	file := some(rand.New(rand.NewSource(1)), 600)
	d.Write(0, file)
	for _, at := range []int{0, 1, 100, 511, 512, 513, 599, 600} {
		for _, n := range []int{0, 1, 2, 87, 88, 600 - at} {
			b, e := d.Read(at, n)
			if at+n > 600 {
				mustSay(t, "Read", e, api.ErrRange)
			} else if e != api.OK || string(b) != string(file[at:at+n]) {
				t.Fatalf("Read(%d, %d) = %q, error %d", at, n, b, int(e))
			}
		}
	}
	mustCount(t, d, 1, 2) // a Read is no step
}

func TestReadRefuses(t *testing.T) {
	d := New(1000)
	d.Write(0, full(1, 600))
	d.Fail(0, false)
	for _, c := range [][2]int{{-1, 0}, {-1, 1}, {0, -1}, {600, -1}, {1, -1}, {601, -1}, {601, 0}, {600, 1}, {599, 2}, {0, 601}, {700, 1}, {leastInt, 0}, {0, leastInt},
		{leastInt, leastInt}, {leastInt, mostInt}, {mostInt, 0}, {mostInt, 1}, {1, mostInt}, {0, mostInt}, {600, mostInt}, {mostInt, mostInt}, {mostInt, leastInt}} {
		b, e := d.Read(c[0], c[1])
		if e != api.ErrRange || len(b) != 0 {
			t.Fatalf("Read(%d, %d) = %d bytes, error %d", c[0], c[1], len(b), int(e))
		}
	}
	mustSay(t, "the next step", d.Beat(), api.ErrDown)
}

func TestAnswersAreNewMemory(t *testing.T) {
	d := New(1000)
	d.Write(0, full(1, 600))
	d.Sync()
	one, _ := d.Read(0, 600)
	two, _ := d.Read(0, 600)
	piece, _ := d.Read(10, 10)
	none, _ := d.Read(10, 0)
	for _, b := range [][]byte{one, d.Bytes(), piece, none} {
		clear(b[:cap(b)])
		_ = append(b, 9, 9, 9)
	}
	mustHave(t, d, full(1, 600))
	if string(two) != string(full(1, 600)) || behind(d) != string(full(1, 600)) {
		t.Fatal("an answer shares memory")
	}
	d.Write(0, full(2, 600))
	if string(two) != string(full(1, 600)) {
		t.Fatal("an answer was changed")
	}
}

func TestNilDevice(t *testing.T) {
	var d *Device
	for _, at := range []int{leastInt, -1, 0, 1, mostInt} { // ErrNil stands ahead of the others
		mustSay(t, "Write", d.Write(at, []byte("a")), api.ErrNil)
		b, e := d.Read(at, at)
		mustSay(t, "Read", e, api.ErrNil)
		if b != nil {
			t.Error("bytes of nil")
		}
		mustSay(t, "Fail", d.Fail(at, true), api.ErrNil)
		d.Edit(at, []byte("a"))
	}
	mustSay(t, "Sync", d.Sync(), api.ErrNil)
	mustSay(t, "Beat", d.Beat(), api.ErrNil)
	d.Start([]byte{1})
	d.Load([]byte("a"))
	if d.Size() != 0 || d.Most() != 0 || d.Steps() != 0 || d.Down() || d.Loose() != 0 || d.Bytes() != nil || d.Clone() != nil {
		t.Error("nil has something")
	}
}

// P11.4: Fail.

func TestFailForgetsWhatWasTold(t *testing.T) {
	d := New(100)
	d.Fail(1, true)
	d.Beat()
	mustSay(t, "Fail", d.Fail(2, false), api.OK)
	mustSay(t, "one ahead", d.Write(0, []byte("a")), api.OK)
	mustSay(t, "two ahead", d.Sync(), api.OK)
	mustSay(t, "the step", d.Write(0, []byte("b")), api.ErrDown)
	mustHave(t, d, []byte("a")) // not done, as was told last
	mustCount(t, d, 4, 0)
}

func TestFailBelowNought(t *testing.T) {
	for _, after := range []int{0, -1, -2, leastInt} {
		d := New(100)
		d.Beat()
		mustSay(t, "Fail", d.Fail(after, false), api.OK)
		mustSay(t, "the next step", d.Beat(), api.ErrDown)
	}
}

func TestFailFarAhead(t *testing.T) {
	d := New(100)
	d.Fail(mostInt, true)
	for range 1000 {
		mustSay(t, "Beat", d.Beat(), api.OK)
	}
	d.Fail(300, true)
	for range 300 {
		mustSay(t, "Beat", d.Beat(), api.OK)
	}
	mustSay(t, "the step", d.Beat(), api.ErrDown)
	mustCount(t, d, 1301, 0)
}

func TestLooksAreNoSteps(t *testing.T) {
	d := New(100)
	d.Write(0, []byte("a"))
	d.Fail(1, false)
	for range 5 {
		d.Read(0, 1)
		d.Edit(0, []byte("b"))
		d.Load([]byte("c"))
		d.Bytes()
		d.Clone()
	}
	mustCount(t, d, 1, 0)
	mustSay(t, "one ahead", d.Beat(), api.OK)
	mustSay(t, "the step", d.Beat(), api.ErrDown)
}

// P11.4: Start.

func TestStartKeepsByBits(t *testing.T) {
	d := New(20 * 512)
	d.Write(0, full(1, 20*512))
	d.Sync()
	d.Write(0, full(2, 20*512))
	chance := rand.New(rand.NewSource(2))
	for range 100 {
		keep := some(chance, chance.Intn(5))
		before := string(keep)
		got := behind(d, keep...)
		if string(keep) != before {
			t.Fatal("the argument was changed")
		}
		for sector := range 20 {
			want := full(1, 512)
			if sector < 8*len(keep) && keep[sector/8]&(1<<(sector%8)) != 0 {
				want = full(2, 512)
			}
			if got[sector*512:sector*512+512] != string(want) {
				t.Fatalf("keep %x: the sector %d", keep, sector)
			}
		}
	}
}

func TestStartReachesAsFarAsWhatStays(t *testing.T) {
	d := New(3000)
	d.Write(0, full(1, 100))
	d.Sync()
	d.Write(100, full(2, 500))  // the sectors 0 and 1, the second one up to 600
	d.Write(600, full(3, 1000)) // the sectors 1, 2 and 3, the last one up to 1600
	d.Write(0, full(4, 1))      // the sector 0
	for keep, want := range map[byte]int{0: 100, 1: 512, 2: 600, 3: 600, 4: 1024, 5: 1024, 6: 1024, 8: 1536, 10: 1536, 16: 1600, 31: 1600, 32: 512, 33: 512, 34: 600} {
		if got := behind(d, keep); len(got) != want {
			t.Errorf("keep %d: %d bytes, not %d", keep, len(got), want)
		}
	}
	noughts := string(full(0, 3000))
	if got := behind(d, 1); got != string(full(1, 100))+string(full(2, 412)) {
		t.Error("the first one alone")
	}
	if got := behind(d, 2); got != string(full(1, 100))+noughts[:412]+string(full(2, 88)) {
		t.Error("the second one alone")
	}
	if got := behind(d, 16); got != string(full(1, 100))+noughts[:1436]+string(full(3, 64)) {
		t.Error("the last sector alone")
	}
}

func TestStartOfOneSectorOfMany(t *testing.T) {
	for _, n := range []int{1, 511, 512, 513, 600, 1023, 1024, 1025, 2000} {
		d := New(2000)
		d.Write(0, full(1, n))
		for sector := range d.Loose() {
			at, end := sector*512, min(sector*512+512, n)
			if got := behind(d, 1<<sector); got != string(full(0, at))+string(full(1, end-at)) {
				t.Errorf("of %d bytes the sector %d stays: %d bytes", n, sector, len(got))
			}
		}
		if behind(d) != "" || behind(d, 255) != string(full(1, n)) {
			t.Errorf("of %d bytes none or all stay", n)
		}
	}
}

func TestStartNeverShortens(t *testing.T) {
	d := New(3000)
	d.Write(0, []byte("aaa"))
	d.Edit(3, full('e', 1000)) // farther than the file reached when a was written
	if got := behind(d, 1); got != "aaa"+string(full('e', 1000)) {
		t.Errorf("%d bytes %.10q", len(got), got)
	}
	if got := behind(d); got != "\x00\x00\x00"+string(full('e', 1000)) {
		t.Errorf("%d bytes %.10q", len(got), got)
	}
}

func TestStartLaysInOrder(t *testing.T) {
	d := New(100)
	d.Write(0, []byte("abc"))
	d.Write(1, []byte("X"))
	d.Write(2, []byte("YZ"))
	d.Write(0, []byte("0"))
	for keep, want := range map[byte]string{0: "", 1: "abc", 2: "aXc", 4: "aXYZ", 8: "0XYZ", 3: "aXc", 5: "aXYZ", 7: "aXYZ", 10: "0XYZ", 15: "0XYZ"} {
		if got := behind(d, keep); got != want {
			t.Errorf("keep %d: %q, not %q", keep, got, want)
		}
	}
}

func TestStartMakesAllSafe(t *testing.T) {
	d := New(100)
	d.Write(0, []byte("ab"))
	d.Fail(1, true)
	d.Beat()
	d.Write(2, []byte("cd"))
	mustCount(t, d, 3, 2)
	d.Start([]byte{1})
	if d.Down() {
		t.Fatal("down behind a Start")
	}
	mustHave(t, d, []byte("ab"))
	mustCount(t, d, 3, 0)
	for _, keep := range []byte{0, 1, 255} {
		d.Start([]byte{keep})
		mustHave(t, d, []byte("ab"))
	}
	mustSay(t, "Write", d.Write(2, []byte("ef")), api.OK)
	mustCount(t, d, 4, 1)
	if behind(d) != "ab" || behind(d, 1) != "abef" {
		t.Fatal("behind a Start a write is not as others")
	}
}

func TestStartOfWhatIsUp(t *testing.T) {
	d := New(100)
	d.Write(0, []byte("ab"))
	d.Sync()
	d.Write(0, []byte("cd"))
	d.Fail(0, false)
	d.Start(nil)
	mustHave(t, d, []byte("ab"))
	mustCount(t, d, 3, 0)
	for range 5 { // no fail is told
		mustSay(t, "Beat", d.Beat(), api.OK)
	}
}

// P11.5.

func TestEditIsSeenAndSafe(t *testing.T) {
	d := New(10)
	d.Write(0, []byte("abcd"))
	d.Sync()
	d.Write(0, []byte("ABCD"))
	d.Edit(1, []byte("xy"))
	mustHave(t, d, []byte("AxyD"))
	mustCount(t, d, 3, 1)
	if behind(d) != "axyd" || behind(d, 1) != "ABCD" { // a loose write stays as it is
		t.Fatalf("%q %q", behind(d), behind(d, 1))
	}
	d.Edit(3, []byte("1234567"))
	mustHave(t, d, []byte("Axy1234567"))
	mustCount(t, d, 3, 1)
	if behind(d) != "axy1234567" || behind(d, 1) != "ABCD234567" {
		t.Fatalf("%q %q", behind(d), behind(d, 1))
	}
}

func TestEditLaysNoughtsBetween(t *testing.T) {
	d := New(3000)
	d.Write(0, []byte("ab"))
	d.Sync()
	d.Write(2, full('c', 1000))
	d.Edit(1002, []byte("z"))
	if behind(d) != "ab"+string(full(0, 1000))+"z" || behind(d, 1) != "ab"+string(full('c', 510))+string(full(0, 490))+"z" {
		t.Fatal("what is safe")
	}
	mustHave(t, d, append(append([]byte("ab"), full('c', 1000)...), 'z'))
	d.Edit(700, []byte("y"))
	if got := behind(d); len(got) != 1003 || got[699:702] != "\x00y\x00" || got[1002] != 'z' {
		t.Fatal("an Edit in the noughts")
	}
}

func TestEditElseNothing(t *testing.T) {
	d := New(10)
	d.Write(0, []byte("ab"))
	d.Sync()
	d.Write(2, []byte("cdef"))
	for _, c := range []struct {
		at    int
		bytes string
	}{{-1, "x"}, {7, "x"}, {7, ""}, {6, "12345"}, {0, "12345678901"}, {leastInt, "x"}, {mostInt, "x"}, {-1, ""}, {6, ""}, {4, ""}, {0, ""}, {10, ""}} {
		d.Edit(c.at, []byte(c.bytes))
		mustHave(t, d, []byte("abcdef"))
		mustCount(t, d, 3, 1)
		if behind(d) != "ab" || behind(d, 1) != "abcdef" {
			t.Fatalf("Edit(%d, %q): %q %q", c.at, c.bytes, behind(d), behind(d, 1))
		}
	}
}

func TestEditAndLoadOfWhatIsDown(t *testing.T) {
	d := New(10)
	d.Write(0, []byte("ab"))
	d.Fail(0, false)
	d.Sync()
	d.Edit(1, []byte("x"))
	mustHave(t, d, []byte("ax"))
	mustCount(t, d, 2, 1)
	if !d.Down() || behind(d) != "\x00x" || behind(d, 1) != "ab" {
		t.Fatalf("down %v, %q %q", d.Down(), behind(d), behind(d, 1))
	}
	d.Load([]byte("new"))
	mustHave(t, d, []byte("new"))
	mustCount(t, d, 2, 0)
	if !d.Down() || behind(d) != "new" {
		t.Fatalf("down %v, %q", d.Down(), behind(d))
	}
	mustSay(t, "Beat", d.Beat(), api.ErrDown)
}

func TestLoad(t *testing.T) {
	for _, file := range []string{"", "x", "xyz", "0123456789"} {
		d := New(10)
		d.Write(0, []byte("abcd"))
		d.Sync()
		d.Write(4, []byte("ef"))
		d.Fail(1, false)
		d.Load([]byte(file))
		mustHave(t, d, []byte(file))
		mustCount(t, d, 3, 0)
		if behind(d) != file || behind(d, 255) != file || d.Down() {
			t.Fatalf("behind Load(%q): %q", file, behind(d))
		}
		mustSay(t, "Beat", d.Beat(), api.OK) // what was told of the power stays
		mustSay(t, "Beat", d.Beat(), api.ErrDown)
		mustCount(t, d, 5, 0)
	}
}

func TestLoadElseNothing(t *testing.T) {
	d := New(10)
	d.Write(0, []byte("abcd"))
	d.Load([]byte("0123456789a"))
	mustHave(t, d, []byte("abcd"))
	mustCount(t, d, 1, 1)
	if behind(d) != "" || behind(d, 1) != "abcd" {
		t.Fatal("a file that is too long was loaded")
	}
}

func TestEditAndLoadTakeNothing(t *testing.T) {
	d, b := New(20), []byte("abcdefgh")
	d.Load(b[:4])
	_ = d.Write(4, []byte("XX"))
	if string(b) != "abcdefgh" {
		t.Fatal("a Write in the spare room of an argument")
	}
	d.Edit(0, b[:2])
	if string(b) != "abcdefgh" {
		t.Fatal("the argument was changed")
	}
	clear(b)
	mustHave(t, d, []byte("abcdXX"))
	if behind(d) != "abcd" {
		t.Fatalf("%q", behind(d))
	}
}

// P11.6.

func TestCloneIsAsItsDevice(t *testing.T) {
	d := New(1000)
	d.Write(0, []byte("ab"))
	d.Sync()
	d.Write(1, []byte("cd"))
	d.Fail(1, true)
	c := d.Clone()
	if c == nil || c == d || c.Most() != 1000 || c.Down() {
		t.Fatal("not a device of its own")
	}
	mustHave(t, c, []byte("acd"))
	mustCount(t, c, 3, 1)
	for _, one := range []*Device{d, c, d.Clone()} { // the fail is each one's own
		if one.Steps() == 3 {
			mustSay(t, "one ahead", one.Beat(), api.OK)
		}
		if !one.Down() {
			mustSay(t, "the step", one.Sync(), api.ErrDown)
		}
		if !one.Down() || behind(one) != "acd" {
			t.Fatalf("down %v, %q", one.Down(), behind(one))
		}
	}
	if !d.Clone().Down() || d.Clone().Beat() != api.ErrDown || d.Clone().Steps() != 5 {
		t.Fatal("a clone of what is down")
	}
}

func TestClonesHaveNothingInCommon(t *testing.T) {
	made := func() *Device {
		d := New(3000)
		d.Write(0, full('a', 600))
		d.Sync()
		d.Write(0, full('b', 700))
		return d
	}
	change := map[string]func(*Device){
		"Write":  func(d *Device) { d.Write(0, full('c', 1000)) },
		"append": func(d *Device) { d.Write(700, full('c', 1)) },
		"Sync":   func(d *Device) { d.Sync() },
		"Fail":   func(d *Device) { d.Fail(0, true); d.Beat() },
		"Start":  func(d *Device) { d.Start([]byte{2}) },
		"Edit":   func(d *Device) { d.Edit(0, full('c', 600)) },
		"Load":   func(d *Device) { d.Load([]byte("c")) },
		"all":    func(d *Device) { d.Start([]byte{3}); d.Write(0, full('c', 700)); d.Sync() },
	}
	for name, do := range change {
		for twice := range 2 {
			d := made()
			c := d.Clone()
			if twice == 1 {
				d, c = c, d
			}
			do(c)
			do(d.Clone())
			mustHave(t, d, full('b', 700))
			mustCount(t, d, 3, 2)
			if d.Down() || behind(d) != string(full('a', 600)) || behind(d, 3) != string(full('b', 700)) {
				t.Fatalf("%s of a clone changed its device", name)
			}
			mustSay(t, "Beat", d.Beat(), api.OK)
		}
	}
}

func TestClonesWriteApart(t *testing.T) {
	d := New(100)
	d.Load([]byte("........"))
	for at := range 8 { // of some of these numbers a list of loose writes has spare room
		c, want := d.Clone(), string(d.Bytes()[:at])
		d.Write(at, []byte("d"))
		c.Write(at, []byte("c"))
		mustCount(t, c, at+1, at+1)
		if last := byte(1) << at; behind(d, last)[:at+1] != want+"d" || behind(c, last)[:at+1] != want+"c" {
			t.Fatalf("%q %q", behind(d, last), behind(c, last))
		}
	}
}

func TestDevicesHaveNothingInCommon(t *testing.T) {
	a, b := New(10), New(20)
	a.Write(0, []byte("a"))
	a.Fail(0, false)
	a.Beat()
	mustHave(t, b, nil)
	mustCount(t, b, 0, 0)
	if b.Down() || b.Most() != 20 || a.Most() != 10 {
		t.Fatal("two devices have something in common")
	}
}

// P11.7.

func TestWhatWasSyncedIsThere(t *testing.T) {
	chance := rand.New(rand.NewSource(3))
	for range 300 {
		d := New(4000)
		d.Write(0, some(chance, chance.Intn(4000)))
		d.Sync()
		safe, written := string(d.Bytes()), map[int]bool{}
		had := map[int]map[string]bool{}
		for sector := range 8 {
			had[sector] = map[string]bool{sectorOf(safe, sector): true}
		}
		for range chance.Intn(12) {
			at := chance.Intn(d.Size() + 1)
			b := some(chance, chance.Intn(min(4000-at, 1200)+1))
			d.Write(at, b)
			for i := range b {
				sector := (at + i) / 512
				written[sector] = true
				if i == len(b)-1 || (at+i)%512 == 511 {
					had[sector][sectorOf(string(d.Bytes()), sector)] = true
				}
			}
		}
		keep := make([]byte, chance.Intn(8))
		chance.Read(keep)
		d.Start(keep)
		file := string(d.Bytes())
		for sector := range 8 {
			if !isOneOf(file, sector, had[sector]) {
				t.Fatalf("the sector %d is as it never was", sector)
			}
			if !written[sector] && !isOneOf(file, sector, map[string]bool{sectorOf(safe, sector): true}) {
				t.Fatalf("the sector %d was safe, and is lost", sector)
			}
		}
		if len(file) < len(safe) {
			t.Fatalf("%d bytes were safe, %d are there", len(safe), len(file))
		}
	}
}

// sectorOf tells what a file has of a sector.
func sectorOf(file string, sector int) string {
	return file[min(sector*512, len(file)):min(sector*512+512, len(file))]
}

// isOneOf tells whether a sector of a file is as it was once: noughts may stand behind that only where the file has more behind the sector.
func isOneOf(file string, sector int, had map[string]bool) bool {
	got := sectorOf(file, sector)
	for one := range had {
		if got == one || len(file) > sector*512+512 && got == one+string(make([]byte, 512-len(one))) {
			return true
		}
	}
	return false
}

// All of it against the slow way.

func TestAgainstTheSlowWay(t *testing.T) {
	chance := rand.New(rand.NewSource(11))
	for range 150 {
		most := []int{0, 7, 300, 512, 513, 1100, 2600}[chance.Intn(7)]
		d, slow := New(most), slowNew(most)
		for range 60 {
			playOne(t, chance, d, slow)
			mustBeLike(t, d, slow)
			keep := make([]byte, chance.Intn(4))
			chance.Read(keep)
			if chance.Intn(8) == 0 {
				keep = all(400)
			}
			c, sc := d.Clone(), slow.clone()
			c.Start(keep)
			sc.start(keep)
			mustBeLike(t, c, sc)
			if chance.Intn(10) == 0 {
				d, slow = c, sc
			}
		}
	}
}

// playOne does one call upon both devices, and asks whether they answer the same.
func playOne(t *testing.T, chance *rand.Rand, d *Device, slow *slowDevice) {
	t.Helper()
	at := chance.Intn(slow.most+2) - 1
	if chance.Intn(3) > 0 {
		at = chance.Intn(slow.seen.reach + 1)
	}
	b := some(chance, chance.Intn(chance.Intn(1100)+1))
	if chance.Intn(3) == 0 {
		b = b[:min(len(b), chance.Intn(4))]
	}
	switch kind := chance.Intn(20); {
	case kind < 8:
		mustSay(t, "Write", d.Write(at, b), slow.write(at, b))
	case kind < 10:
		mustSay(t, "Sync", d.Sync(), slow.sync())
	case kind < 11:
		mustSay(t, "Beat", d.Beat(), slow.beat())
	case kind < 13:
		n := chance.Intn(slow.most+2) - 1
		got, e := d.Read(at, n)
		want, slowE := slow.read(at, n)
		mustSay(t, "Read", e, slowE)
		if string(got) != string(want) {
			t.Fatalf("Read(%d, %d)", at, n)
		}
	case kind < 15:
		after, done := chance.Intn(6)-1, chance.Intn(2) == 0
		mustSay(t, "Fail", d.Fail(after, done), slow.tellFail(after, done))
	case kind < 18:
		d.Edit(at, b)
		slow.edit(at, b)
	case kind < 19:
		d.Load(b)
		slow.load(b)
	default:
		keep := []byte{byte(chance.Intn(256))}
		d.Start(keep)
		slow.start(keep)
	}
}

package super

import (
	"bytes"
	"math"
	"slices"
	"testing"

	"reliquary/api"
	"reliquary/octet"
	"reliquary/sha"
)

// The chapter's examples.

func TestExamples(t *testing.T) {
	b, e := Put(api.Geometry{Clusters: 64, Per: 1})
	if e != api.OK || len(b) != 512 || sha.Hex(b[:13]) != "52454c49515541525901004001" || !octet.Nought(b[13:]) {
		t.Errorf("%x, error %d", b, int(e))
	}
	if at := Place(api.Geometry{Clusters: 5, Per: 2}, 1); at != 5120 {
		t.Errorf("the cluster at %d", at)
	}
	if Area(1) != 1536 || Root(2) != -1 {
		t.Errorf("the area at %d, the root at %d", Area(1), Root(2))
	}
	if n := Capacity(api.Geometry{Clusters: 5, Per: 1}, 5000); n != 1 {
		t.Errorf("%d clusters", n)
	}
}

// P13.1: Put.

func TestPutFollowsTheChapter(t *testing.T) {
	for _, g := range allShapes() {
		if got, e := Put(g); !bytes.Equal(got, slowPut(g)) || e != api.OK {
			t.Fatalf("%v: %x, error %d", g, got, int(e))
		}
	}
}

func TestWhatMayNotBeIsRefused(t *testing.T) {
	for _, g := range append(wrongShapes(), api.Geometry{}) {
		mustRefuseAll(t, g)
	}
}

func TestTheEdgesOfWhatMayBe(t *testing.T) {
	for clusters := -3; clusters < 70; clusters++ {
		for per := -3; per < 7; per++ {
			g := api.Geometry{Clusters: clusters, Per: per}
			if clusters < 1 || clusters > 64 || per < 1 || per > 2 {
				mustRefuseAll(t, g)
				continue
			}
			if _, e := Put(g); e != api.OK || Sum(g) == (api.Sum{}) || Place(g, 0) != 4096 || Capacity(g, math.MaxInt) != 65536 {
				t.Errorf("%v: error %d, at %d", g, int(e), Place(g, 0))
			}
		}
	}
}

func TestPutAnswersNewMemory(t *testing.T) {
	g := api.Geometry{Clusters: 7, Per: 2}
	got, _ := Put(g)
	other, _ := Put(g)
	room := got[:cap(got)]
	for i := range room {
		room[i] = 0xee
	}
	if !bytes.Equal(other, slowPut(g)) { // asked ahead of a further call, which would lay the same bytes again
		t.Error("two answers have one memory")
	}
	if later, _ := Put(g); !bytes.Equal(later, slowPut(g)) {
		t.Error("a later answer has the memory of one ahead")
	}
}

// P13.1: Sum.

// TestKnownSums has what another SHA-256 told of sectors that were laid by hand.
func TestKnownSums(t *testing.T) {
	for _, c := range []struct {
		clusters, per int
		want          string
	}{
		{64, 1, "ec95242652bdc06ecad3ca80446c8f175fa19b49bb7c02cc2ea89d620b4b03a1"},
		{64, 2, "9e5862931d78f1f46f2252b26a3639198069098e8ca4fe22859f5b42a9c1e8de"},
		{1, 1, "a2b6382f93a9f3e3f9364751fce692959e217aa3da8f556ba80c73f7c81ad280"},
		{1, 2, "3d477be1563122c70474d11ff3fcab1527daf8950346e059e999749c65e029a5"},
		{4, 1, "df84c6913aedc1eb63be0e70520b95d91c416f3934e83bfcd95fcf3a4b89b2e3"},
		{4, 2, "6fd2f1380aba307892e9f882c04f6de66bcb2c4f3c17d86550e330decd4ecaa3"},
		{10, 1, "2271ec1f663fa49933a84d50810dee11c75dc90b7d41a4181992692122561113"},
		{63, 2, "eee11826e2f1002b41fc0369913b2741dab7d8b6de75b0b5d2ccf3adad8e8062"},
	} {
		if sum := Sum(api.Geometry{Clusters: c.clusters, Per: c.per}); sha.Hex(sum[:]) != c.want {
			t.Errorf("%d clusters of %d: %x, not %s", c.clusters, c.per, sum, c.want)
		}
	}
	all, sums := sha.New(), sha.New()
	for _, g := range allShapes() {
		laid, _ := Put(g)
		all.Write(laid)
		sum := Sum(g)
		sums.Write(sum[:])
	}
	if sum := all.Sum(); sha.Hex(sum[:]) != "e3d86d41d30c5155a84941c095476cb2be2ebd9522305e4ab1859a293091e558" {
		t.Errorf("all that is laid has the sum %x", sum)
	}
	if sum := sums.Sum(); sha.Hex(sum[:]) != "3a0419c59e1c0c56bcd2dc81b4aba2043cfc9349a6c1f1fed3341d9c0ae8671a" {
		t.Errorf("all sums have the sum %x", sum)
	}
}

func TestUnlikeShapesHaveUnlikeSums(t *testing.T) {
	seen := map[api.Sum]api.Geometry{}
	for _, g := range allShapes() {
		sum := Sum(g)
		if other, met := seen[sum]; met || sum != sha.Of(slowPut(g)) {
			t.Fatalf("%v: the sum %x, as %v", g, sum, other)
		}
		seen[sum] = g
	}
}

// P13.2: Get.

func TestGetLeadsBackFromPut(t *testing.T) {
	for _, g := range allShapes() {
		laid, _ := Put(g)
		if got, e := Get(laid); got != g || e != api.OK {
			t.Fatalf("%v: %v, error %d", g, got, int(e))
		}
		if got, e := Get(slowPut(g)); got != g || e != api.OK {
			t.Fatalf("%v by hand: %v, error %d", g, got, int(e))
		}
	}
}

func TestGetAsksForTheShape(t *testing.T) {
	laid := slowPut(api.Geometry{})
	for clusters := range 65536 {
		for _, per := range []byte{0, 1, 2, 3, 255} {
			laid[10], laid[11], laid[12] = byte(clusters/256), byte(clusters%256), per
			if clusters < 1 || clusters > 64 || per < 1 || per > 2 {
				mustNotGet(t, "a shape that may not be", laid)
				continue
			}
			if got, e := Get(laid); got.Clusters != clusters || got.Per != int(per) || e != api.OK {
				t.Fatalf("%d clusters of %d: %v, error %d", clusters, per, got, int(e))
			}
		}
	}
}

func TestGetLooksAtEachByte(t *testing.T) {
	for _, g := range []api.Geometry{{Clusters: 1, Per: 1}, {Clusters: 64, Per: 1}, {Clusters: 64, Per: 2}, {Clusters: 33, Per: 2}} {
		laid := slowPut(g)
		for at := range laid {
			was := laid[at]
			for turn := 1; turn < 256; turn++ {
				laid[at] = was ^ byte(turn)
				got, e := Get(laid)
				if at != 11 && at != 12 {
					mustNotGet(t, "a byte that is another", laid)
				} else if want, f := slowGet(laid); got != want || e != f || got == g {
					t.Fatalf("%v: the byte %d is %d, not %d: %v, error %d, not %d", g, at, laid[at], was, got, int(e), int(f))
				}
			}
			laid[at] = was
		}
	}
}

func TestGetRefusesOtherSizes(t *testing.T) {
	for _, g := range []api.Geometry{{Clusters: 1, Per: 1}, {Clusters: 64, Per: 2}} {
		whole := slowPut(g)
		more := append(append(slices.Clone(whole), whole...), make([]byte, 512)...)
		for n := range len(more) + 1 {
			if n != 512 {
				mustNotGet(t, "another size", more[:n:n])
				mustNotGet(t, "another size, with room", more[:n])
			}
			mustNotGet(t, "noughts", make([]byte, n))
		}
		mustNotGet(t, "noughts behind", append(slices.Clone(whole), 0))
		mustNotGet(t, "noughts ahead", append([]byte{0}, whole...))
	}
	mustNotGet(t, "none", nil)
	mustNotGet(t, "many", make([]byte, 1<<20))
	mustNotGet(t, "all bits", bytes.Repeat([]byte{255}, 512))
}

func TestGetRefusesWhatIsMoved(t *testing.T) {
	whole := slowPut(api.Geometry{Clusters: 1, Per: 1})
	for by := 1; by < 512; by++ {
		mustNotGet(t, "turned round", append(slices.Clone(whole[by:]), whole[:by]...))
	}
}

func TestGetNeitherChangesNorKeepsWhatItIsGiven(t *testing.T) {
	g := api.Geometry{Clusters: 9, Per: 2}
	room := append(slowPut(g), 1, 2, 3)
	given := slices.Clone(room)
	got, e := Get(room[:512])
	if got != g || e != api.OK || !bytes.Equal(room, given) {
		t.Errorf("%v, error %d, behind it %x", got, int(e), room)
	}
	for i := range room {
		room[i] = 0xee
	}
	if later, e := Get(given[:512]); later != g || e != api.OK || got != g {
		t.Error("a change of what was given is to be seen")
	}
}

// P13.3: Area, Root.

func TestAreasAndRoots(t *testing.T) {
	if Area(0) != 512 || Area(1) != 1536 || Root(0) != 2560 || Root(1) != 3072 {
		t.Errorf("the areas at %d and %d, the roots at %d and %d", Area(0), Area(1), Root(0), Root(1))
	}
	for _, i := range []int{-1, -2, 2, 3, 4, 255, 256, 257, 65536, 65537, 1 << 32, 1<<32 + 1, math.MaxInt, math.MaxInt - 1, math.MinInt, math.MinInt + 1} {
		if Area(i) != -1 || Root(i) != -1 {
			t.Errorf("of %d: the area at %d, the root at %d", i, Area(i), Root(i))
		}
	}
}

// P13.3: Place.

func TestPlaceFollowsTheChapter(t *testing.T) {
	for _, g := range allShapes() {
		for _, n := range []int{0, 1, 2, 3, 7, 8, 63, 64, 65, 255, 256, 32767, 32768, 65534, 65535} {
			if got, want := Place(g, uint32(n)), slowPlace(g, n); got != want {
				t.Fatalf("%v: the cluster %d at %d, not %d", g, n, got, want)
			}
		}
	}
}

func TestPlaceOfEachCluster(t *testing.T) {
	for _, clusters := range []int{1, 64} { // how many an image has tells nothing of where they stand
		for n := range 65536 {
			if at := Place(api.Geometry{Clusters: clusters, Per: 1}, uint32(n)); at != 4096+512*n {
				t.Fatalf("the cluster %d of one sector at %d", n, at)
			}
			if at := Place(api.Geometry{Clusters: clusters, Per: 2}, uint32(n)); at != 4096+1024*n {
				t.Fatalf("the cluster %d of two sectors at %d", n, at)
			}
		}
	}
}

func TestPlaceBeyondTheLastCluster(t *testing.T) {
	for _, g := range allShapes() {
		for _, n := range []uint32{65536, 65537, 65536 + 5, 1 << 17, 1 << 24, 1 << 31, math.MaxInt32, math.MaxUint32 - 1, math.MaxUint32} {
			if at := Place(g, n); at != -1 {
				t.Fatalf("%v: the cluster %d at %d", g, n, at)
			}
		}
	}
}

// P13.4.

func TestCapacityFollowsTheChapter(t *testing.T) {
	for _, per := range []int{1, 2} {
		g := api.Geometry{Clusters: 64, Per: per}
		for most := range 12 * 1024 {
			if got, want := Capacity(g, most), slowCapacity(g, most); got != want {
				t.Fatalf("%v: in %d bytes %d, not %d", g, most, got, want)
			}
		}
	}
	for _, g := range allShapes() {
		for _, near := range []int{0, 4096, 5120, 65536, 4096 + 512*65535, 4096 + 512*65536, 4096 + 1024*65535, 4096 + 1024*65536, api.MaxDevice, 1 << 31, 1 << 32} {
			for _, most := range []int{near - 1025, near - 1024, near - 513, near - 512, near - 1, near, near + 1, near + 511, near + 512, near + 1023, near + 1024} {
				if got, want := Capacity(g, most), slowCapacity(g, most); got != want {
					t.Fatalf("%v: in %d bytes %d, not %d", g, most, got, want)
				}
			}
		}
	}
}

func TestCapacityAtTheEdges(t *testing.T) {
	for _, c := range []struct{ per, most, want int }{
		{1, 0, 0}, {1, 4095, 0}, {1, 4096, 0}, {1, 4607, 0}, {1, 4608, 1}, {1, 5119, 1}, {1, 5120, 2},
		{2, 0, 0}, {2, 4095, 0}, {2, 4096, 0}, {2, 4608, 0}, {2, 5119, 0}, {2, 5120, 1}, {2, 6143, 1}, {2, 6144, 2},
		{1, -1, 0}, {2, -1, 0}, {1, -4096, 0}, {2, -1 << 32, 0},
		{1, math.MinInt, 0}, {1, math.MinInt + 4095, 0}, {1, math.MinInt + 4096, 0}, {2, math.MinInt, 0}, {2, math.MinInt + 4095, 0},
		{1, 33558527, 65535}, {1, 33558528, 65536}, {1, 33559040, 65536}, {2, 67112959, 65535}, {2, 67112960, 65536}, {2, 67113984, 65536},
		{1, 1 << 24, 32760}, {2, 1 << 24, 16380}, {1, math.MaxInt, 65536}, {2, math.MaxInt, 65536}, {1, math.MaxInt32, 65536},
	} {
		for _, clusters := range []int{1, 2, 64} {
			if got := Capacity(api.Geometry{Clusters: clusters, Per: c.per}, c.most); got != c.want {
				t.Errorf("%d clusters of %d sectors, in %d bytes: %d, not %d", clusters, c.per, c.most, got, c.want)
			}
		}
	}
}

// TestCapacityIsWhatPlaceHasRoomFor holds them against each other: the last cluster ends within, the one behind it would not.
func TestCapacityIsWhatPlaceHasRoomFor(t *testing.T) {
	for _, g := range allShapes() {
		for most := 4096; most < 1<<24; most += 99991 {
			n := Capacity(g, most)
			if n > 0 && Place(g, uint32(n-1))+512*g.Per > most {
				t.Fatalf("%v: in %d bytes the last one of %d clusters has no room", g, most, n)
			}
			if Place(g, uint32(n))+512*g.Per <= most {
				t.Fatalf("%v: in %d bytes there is room for more than %d clusters", g, most, n)
			}
		}
	}
}

// P13.5.

func TestNothingStandsWhereAnythingElseDoes(t *testing.T) {
	const most = 4096 + 300*512 + 100
	for _, g := range allShapes() {
		names := make([]string, most)
		for _, p := range parts(t, g, Capacity(g, most)) {
			if p.at < 0 || p.at+p.bytes > most {
				t.Fatalf("%v: %s stands at %d, of %d bytes", g, p.name, p.at, most)
			}
			for at := p.at; at < p.at+p.bytes; at++ {
				if names[at] != "" {
					t.Fatalf("%v: at %d stands %s, and %s", g, at, p.name, names[at])
				}
				names[at] = p.name
			}
		}
		for at := range 4096 + 300*512 { // and of all that there is but one sector is left out
			if (names[at] == "") != (at/512 == 7) {
				t.Fatalf("%v: at %d stands %q", g, at, names[at])
			}
		}
	}
}

func TestNoClusterReachesIntoTheNext(t *testing.T) {
	for _, per := range []int{1, 2} {
		end := 0
		all := parts(t, api.Geometry{Clusters: 64, Per: per}, 65536)
		slices.SortStableFunc(all, func(a, b part) int { return a.at - b.at })
		for i, p := range all {
			if p.at < end || p.at%512 != 0 || p.bytes < 1 {
				t.Fatalf("the part %d, %s, stands at %d; the one ahead ends at %d", i, p.name, p.at, end)
			}
			end = p.at + p.bytes
		}
		if end != 4096+65536*512*per {
			t.Fatalf("the last cluster ends at %d", end)
		}
	}
}

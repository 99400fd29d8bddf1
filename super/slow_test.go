package super

import (
	"math"
	"testing"

	"reliquary/api"
)

// slowMayBe looks for a geometry among all those that may be.
func slowMayBe(g api.Geometry) bool {
	for _, other := range allShapes() {
		if other.Clusters == g.Clusters && other.Per == g.Per {
			return true
		}
	}
	return false
}

// allShapes are the geometries that may be.
func allShapes() []api.Geometry {
	var all []api.Geometry
	for clusters := 1; clusters <= 64; clusters++ {
		for per := 1; per <= 2; per++ {
			all = append(all, api.Geometry{Clusters: clusters, Per: per})
		}
	}
	return all
}

// wrongShapes may not be: beyond the edges, and such as look right when they are cut to 8, 16 or 32 bits.
func wrongShapes() []api.Geometry {
	odd := []int{0, -1, -2, -63, -64, -255, -256, -65535, -65472, 255, 256, 257, 258, 320, 65535, 65536, 65537, 65538, 65600, 1<<32 + 1, 1<<32 + 2, math.MaxInt, math.MaxInt - 1, math.MinInt, math.MinInt + 1, math.MinInt + 2}
	var wrong []api.Geometry
	for _, clusters := range append(odd, 65, 66, 127, 128) {
		for _, per := range []int{1, 2, 0, 3, -1} {
			wrong = append(wrong, api.Geometry{Clusters: clusters, Per: per})
		}
	}
	for _, per := range append(odd, 3, 4, 63, 64) {
		for _, clusters := range []int{1, 2, 3, 32, 63, 64} {
			wrong = append(wrong, api.Geometry{Clusters: clusters, Per: per})
		}
	}
	return wrong
}

// slowPut lays each byte where the chapter's words have it.
func slowPut(g api.Geometry) []byte {
	b := make([]byte, 512)
	b[0], b[1], b[2], b[3], b[4], b[5], b[6], b[7], b[8] = 'R', 'E', 'L', 'I', 'Q', 'U', 'A', 'R', 'Y'
	b[9] = 1
	b[11] = byte(g.Clusters)
	b[12] = byte(g.Per)
	return b
}

// slowGet looks for bytes among all those that are laid for some geometry.
func slowGet(b []byte) (api.Geometry, api.Errno) {
	for _, g := range allShapes() {
		if string(slowPut(g)) == string(b) {
			return g, api.OK
		}
	}
	return api.Geometry{}, api.ErrForm
}

// slowPlace goes over what stands ahead of a cluster, one by one.
func slowPlace(g api.Geometry, n int) int {
	if !slowMayBe(g) || n > 65535 {
		return -1
	}
	at := 512 + 2*1024 + 2*512 + 512 // the first sector, areas, roots, and one that is not used
	for range n {
		for range g.Per {
			at += 512
		}
	}
	return at
}

// slowCapacity lays clusters as long as there is room for one more.
func slowCapacity(g api.Geometry, most int) int {
	if !slowMayBe(g) {
		return 0
	}
	n := 0
	for end := 4096; n < 65536; n++ {
		end += 512 * g.Per
		if end > most {
			break
		}
	}
	return n
}

// part is a part of an image: where it begins, and how many bytes it has.
type part struct {
	name      string
	at, bytes int
}

// parts tells an image's parts, with so many clusters.
func parts(t *testing.T, g api.Geometry, clusters int) []part {
	t.Helper()
	laid, e := Put(g)
	if e != api.OK {
		t.Fatalf("%v: error %d", g, int(e))
	}
	all := []part{
		{"the first sector", 0, len(laid)},
		{"the area 0", Area(0), api.Slots * api.SlotSize}, {"the area 1", Area(1), api.Slots * api.SlotSize},
		{"the root 0", Root(0), api.Sector}, {"the root 1", Root(1), api.Sector},
	}
	for n := range clusters {
		all = append(all, part{"a cluster", Place(g, uint32(n)), g.Per * api.Sector})
	}
	return all
}

// mustRefuseAll asks whether a geometry that may not be is answered by no call.
func mustRefuseAll(t *testing.T, g api.Geometry) {
	t.Helper()
	if b, e := Put(g); b != nil || e != api.ErrArg {
		t.Errorf("%v: Put = %x, error %d", g, b, int(e))
	}
	if sum := Sum(g); sum != (api.Sum{}) {
		t.Errorf("%v: the sum %x", g, sum)
	}
	for _, n := range []uint32{0, 1, 65535, 65536, math.MaxUint32} {
		if at := Place(g, n); at != -1 {
			t.Errorf("%v: the cluster %d at %d", g, n, at)
		}
	}
	for _, most := range []int{math.MinInt, -1, 0, 4096, 4608, 5120, 1 << 24, math.MaxInt} {
		if n := Capacity(g, most); n != 0 {
			t.Errorf("%v: %d clusters in %d bytes", g, n, most)
		}
	}
}

// mustNotGet asks whether bytes are refused.
func mustNotGet(t *testing.T, what string, b []byte) {
	t.Helper()
	if g, e := Get(b); g != (api.Geometry{}) || e != api.ErrForm {
		t.Fatalf("%s: %v, error %d", what, g, int(e))
	}
}

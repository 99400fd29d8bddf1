package space

import (
	"bytes"
	"math"
	"math/rand"
	"slices"
	"testing"

	"reliquary/api"
	"reliquary/device"
	"reliquary/sha"
)

var master = api.Key(run(0))

// The chapter's examples.

func TestExamples(t *testing.T) {
	d := fileOf(32768, 16384)
	s := New(d, api.Geometry{Clusters: 8, Per: 2}, master)
	r, e := s.PutData(0, count(1024))
	if r.At != 1 || e != api.OK {
		t.Fatalf("the At %d, error %d", r.At, int(e))
	}
	if b, e := s.Data(r); !bytes.Equal(b, count(1024)) || e != api.OK {
		t.Errorf("%x, error %d", b, int(e))
	}
	if b, e := s.Data(api.Ref{}); b != nil || e != api.ErrArg {
		t.Errorf("the zero ref: %x, error %d", b, int(e))
	}
	if r, e := s.PutPage(0, make([]byte, 1025)); r != (api.Ref{}) || e != api.ErrArg {
		t.Errorf("1025 bytes: %v, error %d", r, int(e))
	}
	if b, e := s.Data(api.Ref{At: 13}); b != nil || e != api.ErrTampered {
		t.Errorf("beyond the file: %x, error %d", b, int(e))
	}
}

// P16.1.

func TestNewOfAllShapes(t *testing.T) {
	for _, g := range allShapes() {
		for _, d := range []*device.Device{device.New(0), device.New(20000)} {
			if New(d, g, master) == nil || New(d, g, api.Key{}) == nil {
				t.Errorf("%v: no space", g)
			}
		}
		if New(nil, g, master) != nil {
			t.Errorf("%v: a space without a device", g)
		}
	}
}

func TestNewRefusesShapesThatMayNotBe(t *testing.T) {
	d := fileOf(20000, 20000)
	for _, g := range wrongShapes() {
		if New(d, g, master) != nil || New(nil, g, master) != nil {
			t.Errorf("%v: a space", g)
		}
	}
	if New(d, api.Geometry{}, master) != nil || New(nil, api.Geometry{}, api.Key{}) != nil {
		t.Error("a space of nothing")
	}
}

func TestNewLeavesTheDeviceAsItIs(t *testing.T) {
	d := fileOf(20000, 9000)
	d.Write(5, count(700))
	d.Fail(0, true)
	ahead := d.Clone()
	mustNew(t, d, 2, master)
	mustBeLike(t, d, ahead)
	if e := d.Beat(); e != api.ErrDown {
		t.Errorf("the step that was told to fail: error %d", int(e))
	}
	ahead = d.Clone()
	s := mustNew(t, d, 2, master) // of a device that is down, too
	mustBeLike(t, d, ahead)
	mustNotGet(t, s, data(), api.Ref{At: 1}, api.ErrDown)
}

// TestTheNumberOfClustersDoesNotCount lays beyond it, as trees and pages stand there.
func TestTheNumberOfClustersDoesNotCount(t *testing.T) {
	for _, k := range kinds() {
		for _, clusters := range []int{1, 2, 63, 64} {
			d := fileOf(200000, 200000)
			s, slow := New(d, api.Geometry{Clusters: clusters, Per: 2}, master), slowSpace{d.Clone(), 2, master}
			for _, n := range []uint32{0, 1, 2, 62, 63, 64, 65, 100} {
				b := k.sample(2, byte(n))
				want, _ := k.slowPut(slow, n, b)
				if got := mustPut(t, s, k, n, b); got != want {
					t.Fatalf("of %d clusters, a %s at %d: %v, not %v", clusters, k.name, n, got, want)
				}
				mustGet(t, s, k, want, b)
			}
			mustBeLike(t, d, slow.d)
		}
	}
}

func TestEachBitOfTheMasterKeyCounts(t *testing.T) {
	d := fileOf(16384, 16384)
	s := mustNew(t, d, 1, master)
	refs := map[api.Sum]bool{mustPut(t, s, data(), 3, count(512)).Sum: true}
	laid, _ := d.Read(4096+3*512, 512)
	seen := map[string]bool{string(laid): true}
	for i := range master {
		for bit := range 8 {
			other := master
			other[i] ^= 1 << bit
			o := mustNew(t, d, 1, other)
			r := mustPut(t, o, data(), 3, count(512))
			laid, _ := d.Read(4096+3*512, 512)
			refs[r.Sum], seen[string(laid)] = true, true
			mustNotGet(t, s, data(), r, api.ErrTampered)
		}
	}
	if len(refs) != 257 || len(seen) != 257 {
		t.Errorf("%d sums, %d clusters", len(refs), len(seen))
	}
}

// TestNodesAndPagesHangOnNoKey has another space read them.
func TestNodesAndPagesHangOnNoKey(t *testing.T) {
	d := fileOf(16384, 16384)
	s, other := mustNew(t, d, 2, master), mustNew(t, d, 2, api.Key{})
	for _, k := range []kind{nodes(), pages()} {
		b := k.sample(2, 9)
		mustGet(t, other, k, mustPut(t, s, k, 4, b), b)
	}
}

// P16.2.

func TestPutFollowsTheChapter(t *testing.T) {
	for _, k := range kinds() {
		for per := 1; per <= 2; per++ {
			for i, m := range []api.Key{{}, master, run(200), {31: 1}} {
				s, d, slow := both(t, per, 300000, 300000, m)
				for seed, n := range []uint32{0, 1, 2, 3, 7, 8, 127, 255, 256, 257, 1} {
					b := k.sample(per, byte(seed+20*i))
					got, e := k.put(s, n, b)
					if want, f := k.slowPut(slow, n, b); got != want || e != f || f != api.OK {
						t.Fatalf("a %s of %d at %d: %v, error %d, not %v, error %d", k.name, per, n, got, int(e), want, int(f))
					}
					mustBeLike(t, d, slow.d)
				}
				if d.Steps() != 11 || d.Loose() != 11*per {
					t.Errorf("%d steps, %d loose", d.Steps(), d.Loose())
				}
			}
		}
	}
}

// TestKnownData has what another AES, SHA-256 and HMAC told of clusters that another program laid.
func TestKnownData(t *testing.T) {
	for _, c := range []struct {
		master    api.Key
		n         uint32
		b         []byte
		laid, sum string
	}{
		{api.Key{}, 0, make([]byte, 512), "a03545d3eed8f899380f95dda59b9dd9963aca99f449a632f6e721afea266d56", "e73bdceac357496013784a2d00099e5e63ad7d3e1c7176067073e3b7671f9edd"},
		{api.Key{}, 0, make([]byte, 1024), "0efa7e7371b108cee7a5061b1f1599a72461c23aab68b370700dea16e2b13cd7", "85c440a1160db56ddfaeddb199dd2564937d6ef4942888294a81e52c2fcc7c17"},
		{run(0), 0, count(512), "84543272808ac0230e9056459a064bd4f842f193938f1796c9929f786c34f2a7", "aea90ebacd738cb7a702bcde9d28d0ebafb6ec29b762b9aebe280b1b04b73924"},
		{run(0), 0, count(1024), "850199c48548a2a9bb9f34d48d61c099b714c7ecc7b308ff239171ff869453ff", "46ea22ca74b872905d7e20a1e8529905613abf7c57f66d2ebb6ae300577acde5"},
		{run(0), 1, count(512), "de7132cf14387ec6b79b17ce839d2a60d1fce63d164053a76412973cdb9f7283", "4adc83df9354696f16799890f7bfe310fd8a0d594c1c9ec6992d0e10c8057f99"},
		{run(0), 1, count(1024), "aca063cf392c2b52c675acd817ec2884eb501b4cca956d113bc9a207e8c85d5e", "a5f9bd13ece06e3634312a50461f607b5745ebff8f890677911bde1231599223"},
		{run(0), 7, count(1024), "ab642fa30bcda5bbe887d697e05f5c39ab02b3fbc97d59a07564a0282a0867e0", "de66485866fa38a48a778c09bae4d34756b4c9fed6134bf115647b3297e54cda"},
		{run(200), 255, count(512), "2fb39c153b380b0a97249429479b9038b5754cb080b9b1fe40da69052e9fbef8", "3e752f73b498353b37e17905f70cc5bcbbd45b2b0c5e66d3cbd96ef28167bd59"},
		{run(200), 256, count(1024), "7fe405c23e66a3a750e6ecbfc1cb3ed9e843d2cb65dffcb85a95e306c58f125e", "258869b28addba586ca416f7cb553213a2933295b998e76b84e9b1ba624a821c"},
		{run(200), 32759, count(512), "da65d29372b8d9d2bee33ec6a421a2832dd4316d74dd78f40e40dd3298efa14b", "608cfdeee0e15fba1c478be27d7141d7e692a0e4b1dea0d4131fceb6c1bb32d7"}, // the last ones that a device has room for
		{run(200), 16379, count(1024), "ae0f5be6c8cbd7ebe4a7e031e418d426bbbd422875282a733c1c9502680cec91", "3500effcca94ab7200ecefb775b7286112209437e3e00467117a0802ead15eb0"},
	} {
		place := 4096 + int(c.n)*len(c.b)
		d := fileOf(api.MaxDevice, place)
		s := mustNew(t, d, len(c.b)/512, c.master)
		r := mustPut(t, s, data(), c.n, c.b)
		laid := sha.Of(d.Bytes()[place:])
		if sha.Hex(laid[:]) != c.laid || sha.Hex(r.Sum[:]) != c.sum {
			t.Errorf("%d bytes at %d: laid with the sum %x, told as %x", len(c.b), c.n, laid, r.Sum)
		}
		mustGet(t, s, data(), r, c.b)
	}
}

// TestKnownNodes has what another SHA-256 told of clusters that another program laid.
func TestKnownNodes(t *testing.T) {
	few := fewNodes()
	for _, c := range []struct {
		per       int
		x         api.Node
		laid, sum string
	}{
		{1, few[0], "076a27c79e5ace2a3d47f9dd2e83e4ff6ea8872b3c2218f66c92b89b55f36560", "6a966af8efa12f59d88b2dd0b5d9111ec2ed021165f53125b795aebc7ee54393"},
		{2, few[0], "5f70bf18a086007016e948b04aed3b82103a36bea41755b6cddfaf10ace3c6ef", "039c4de70123b4c1064d6f957704ebb21a547b0a05dea938fb7fa82cc196c34b"},
		{1, few[1], "5206d78cb348efd75829280f6f46ef5d91c2bac414529b3b5110af580d031c22", "918101f515997470ba56c3450c950d9883b51163de33772fcc8d6d19463ccd6f"},
		{2, few[1], "202c4ac986cdb669739264860a658422ffae37984395e3faed4ccd10a0efe769", "ad898777840f5b52d422dfa53b754cdbe96933b6701bfb1c213e23b06fbfab3f"},
		{1, few[2], "628506b2b34c4c46d10a44489e0dd1d8f96e11f981d535b587506142eeb01dfc", "04d926b3ef6c0b45517c72c7cbb65e098473e3e28d489301010c45c5b709da7f"},
		{2, few[2], "c1ac38f4539f5622d14a619aae020e6fcda6460cbca4a2d0395b8e7e8224445f", "c2d578622d05c2baebc406d17e273e071fa7cba5cfcb0ae8312892151ae3b7c7"},
		{1, few[3], "ca01cb278966b51bd3cb0a8d26fd23a0cac37c8a818166ab1193f1003e7b26c5", "5de6302e1dda2ba89ef188dcd78f2718eb639b7642e69289e919b8070d63afbe"},
		{2, few[3], "c363d779ad4f7bb84786015e490e0ee493007e1c0e9149c59b95414feb91d79c", "c2d3354e3292caba6402d3619e49552da3d6884ebebb3d2c5bb5e065fd2afc92"},
		{1, few[4], "2d52e9dd69235362620df948196e522eaa84054c333916cc991422b756d69e27", "0bf0e3a9f6ac1cc82d971caac7afeb52da598648c980725e9c3e2474c29e379f"},
		{2, few[4], "fe84f87262f0a3c820efa591d84a9d1e1aa523adc77d89d74412bb827065ed6c", "456ca36b4a3926cee8e0fc1ae17cd8cc68299d6560809dff279af726b8c2adab"},
		{1, api.Node{5: {Sum: run(1)}}, "a4a0b7bb6c24cd05bb24674ac21240b3475e964cbc548f35bd434deb51c7d384", "73802064f93747f04c9c046af7a31bf0a038c0dbd49231110516f12297b846fa"}, // a ref that may not be is laid, too
		{2, api.Node{5: {Sum: run(1)}}, "17a85b4a474ad3517ac3044b3df1e31fe9977eca1bd9f76229d0c3970a9f07cb", "294368d5058a807d8e87cb33196859444865ae9ce55c29e49baadc15f0f73493"},
	} {
		d := fileOf(9000, 9000)
		r, e := mustNew(t, d, c.per, master).PutNode(2, c.x)
		b, _ := d.Read(4096+2*512*c.per, 512*c.per)
		laid := sha.Of(b)
		if e != api.OK || r.At != 3 || sha.Hex(laid[:]) != c.laid || sha.Hex(r.Sum[:]) != c.sum {
			t.Errorf("%v: laid with the sum %x, told as %x, error %d", c.x, laid, r.Sum, int(e))
		}
	}
}

// TestKnownPages has what another SHA-256 told.
func TestKnownPages(t *testing.T) {
	for _, c := range []struct {
		per, size int
		laid, sum string
	}{
		{1, 0, "076a27c79e5ace2a3d47f9dd2e83e4ff6ea8872b3c2218f66c92b89b55f36560", "f434f911eedd190c7338f4ab25d737b49f3b6bf763a8d5db3078e40aaf1ab082"},
		{2, 0, "5f70bf18a086007016e948b04aed3b82103a36bea41755b6cddfaf10ace3c6ef", "cb698692516f67bd4d67cb6e5b1db1507e11ba2086aebd5ec225a06085782fdb"},
		{1, 1, "3a6beb1327209fed02a9250caa242a0e7378cacf8fa25bfa3c296dde881f2f2a", "4c8eeae841a062da93b4a027364e1c84e9afec5254dd3a106bd4a73a7093cbba"},
		{2, 1, "63687f85d261c8b8824b61727fc86b2e63c26ecc30b0667a468af8ff559a7c8c", "c39341de55230e5bb2ea149be2f8518ee9402723dc3270dbc11730a75ef230f2"},
		{1, 288, "2ccb2edf283b1861ca3e081a9bdaed91c3500edea90b2b1fe7f3eccbe8f9278e", "75f73da418e1d705ac1cbe43d1ae1e0e80d18366e1b428f15ef066b8d3a9a297"},
		{1, 511, "8ada635dea92968cbd3d888571a17140439378f08e7e2a4ae0ed54c4a5f49de8", "d9f1791f23d5a4e9fae6f7f8e9d8753588ab31aaea9ae1f46e3f6220c0c1943c"},
		{1, 512, "c9d8e3352f9f790d8b0be13cb1c18ed7963009888be04acc065ee5efbd934076", "10106de0fe31660c0a912484f78bf906f4e6f24b1ec7ea0c2037e8beb1cf44ff"},
		{2, 512, "9e73cc7dcbd63bc25ef27efab5e74fcfe36ab27e17f6d768bd2b9f639c9e3a61", "6dbb78829d922854d04bc45846a9bf47d207d7c7f5ec9add4f255d19e0a4ff59"},
		{2, 513, "c1615c120a5affcd5e239deb613759cb709b19e052b7784664404486ee2617f8", "6c7ba0d4cb925381704186c634c893d6d8f9e57eae5a481a9583e0b7b9a9d549"},
		{2, 1024, "e9183d9a79aad8a047b8e67981210d50b01fc75b1edba5bc32ba3d3ec4d5056d", "7f7748da2963fe497a9a8b650ddaa6c06dba58a183a5ceeabcc9e4ae807bbc0d"},
	} {
		d := fileOf(9000, 9000)
		r := mustPut(t, mustNew(t, d, c.per, master), pages(), 2, count(c.size))
		b, _ := d.Read(4096+2*512*c.per, 512*c.per)
		laid := sha.Of(b)
		if sha.Hex(laid[:]) != c.laid || sha.Hex(r.Sum[:]) != c.sum {
			t.Errorf("%d bytes in %d: laid with the sum %x, told as %x", c.size, c.per, laid, r.Sum)
		}
	}
}

func TestPutLaysRefsThatMayNotBe(t *testing.T) {
	s, d, slow := both(t, 1, 9000, 9000, master)
	for _, x := range append(wrongNodes(), fewNodes()...) {
		got, e := s.PutNode(5, x)
		if want, _ := nodes().slowPut(slow, 5, laidNode(x)); got != want || e != api.OK {
			t.Fatalf("%v: %v, error %d", x, got, int(e))
		}
		mustBeLike(t, d, slow.d)
	}
}

func TestPutDataAsksForJustAsManyBytes(t *testing.T) {
	for per := 1; per <= 2; per++ {
		s, d, _ := both(t, per, 16384, 16384, master)
		sizes := []int{1535, 1536, 1537, 2048, 4096, 65535, 65536, 65537, 1 << 20}
		for size := range 1100 {
			sizes = append(sizes, size)
		}
		for _, size := range sizes {
			if size != 512*per {
				mustNotPut(t, s, d, data(), 2, make([]byte, size), api.ErrArg)
			}
		}
		mustNotPut(t, s, d, data(), 2, nil, api.ErrArg)
		mustPut(t, s, data(), 2, count(512 * per)[:512*per:512*per])
		mustPut(t, s, data(), 2, count(5000)[:512*per]) // its room does not count
	}
}

func TestPutPageOfAllLengths(t *testing.T) {
	for per := 1; per <= 2; per++ {
		s, d, slow := both(t, per, 16384, 16384, master)
		for size := range 512*per + 1 {
			b := count(2000)[:size]
			got, e := s.PutPage(1, b) // laid over a longer one, too, as the noughts are to be seen
			if want, _ := pages().slowPut(slow, 1, b); got != want || e != api.OK {
				t.Fatalf("%d bytes: %v, error %d", size, got, int(e))
			}
			mustGet(t, s, pages(), got, noughtsBehind(b, 512*per))
			if size%100 == 0 {
				mustPut(t, s, pages(), 1, mixed(512*per, 1))
				pages().slowPut(slow, 1, mixed(512*per, 1))
			}
		}
		none, e := s.PutPage(1, nil)
		want, _ := pages().slowPut(slow, 1, nil)
		if none != want || e != api.OK {
			t.Errorf("none: %v, error %d", none, int(e))
		}
		mustBeLike(t, d, slow.d)
		for _, more := range []int{1, 2, 15, 16, 511, 512, 513, 1024, 65536 - 512*per, 65537 - 512*per, 65536, 1 << 20} {
			mustNotPut(t, s, d, pages(), 1, make([]byte, 512*per+more), api.ErrArg)
		}
	}
}

func TestPutRefusesOtherClusters(t *testing.T) {
	for _, k := range kinds() {
		s, d, _ := both(t, 1, 16384, 16384, master)
		for _, at := range wrongAts() {
			mustNotPut(t, s, d, k, at-1, k.sample(1, 1), api.ErrArg)
		}
	}
}

// TestPutTellsTheDevicesErrors has files that reach as far as a cluster, or less, and devices that have room for it, or not.
func TestPutTellsTheDevicesErrors(t *testing.T) {
	for _, k := range kinds() {
		for per := 1; per <= 2; per++ {
			size := 512 * per
			place := 4096 + 3*size
			for _, c := range []struct {
				most, has int
				want      api.Errno
			}{
				{0, 0, api.ErrTampered}, {65536, 0, api.ErrTampered}, {65536, 4096, api.ErrTampered}, {65536, place - 1, api.ErrTampered}, {place - 1, place - 1, api.ErrTampered},
				{place, place - 1, api.ErrTampered}, {place, place, api.ErrFull}, {place + size - 1, place, api.ErrFull}, {place + size - 1, place + size - 1, api.ErrFull},
				{place + size, place, api.OK}, {place + size, place + 1, api.OK}, {65536, place, api.OK}, {65536, 65536, api.OK}, {place + size, place + size, api.OK},
			} {
				s, d, slow := both(t, per, c.most, c.has, master)
				b := k.sample(per, 4)
				if c.want != api.OK {
					mustNotPut(t, s, d, k, 3, b, c.want)
					continue
				}
				mustPut(t, s, k, 3, b)
				k.slowPut(slow, 3, b)
				mustBeLike(t, d, slow.d)
			}
		}
	}
}

// TestTheLastClusters has the greatest device: beyond it stand clusters for which no device has room.
func TestTheLastClusters(t *testing.T) {
	for per := 1; per <= 2; per++ {
		fit := uint32((api.MaxDevice - 4096) / (512 * per))
		d := fileOf(api.MaxDevice, api.MaxDevice)
		s, slow := mustNew(t, d, per, master), slowSpace{d.Clone(), per, master}
		for _, k := range kinds() {
			b := k.sample(per, 3)
			want, _ := k.slowPut(slow, fit-1, b)
			if r := mustPut(t, s, k, fit-1, b); r != want {
				t.Errorf("a %s in the last cluster: %v", k.name, r)
			}
			for n, e := range map[uint32]api.Errno{fit: api.ErrFull, fit + 1: api.ErrTampered, 65534: api.ErrTampered, 65535: api.ErrTampered, 65536: api.ErrArg} {
				if r, f := k.put(s, n, b); f != e || r != (api.Ref{}) {
					t.Errorf("a %s laid at %d: %v, error %d", k.name, n, r, int(f))
				}
			}
			for at, e := range map[uint32]api.Errno{fit + 1: api.ErrTampered, fit + 2: api.ErrTampered, 65535: api.ErrTampered, 65536: api.ErrTampered, 65537: api.ErrArg} {
				mustNotGet(t, s, k, api.Ref{At: at, Sum: want.Sum}, e)
			}
			mustGet(t, s, k, want, b)
		}
		mustBeLike(t, d, slow.d)
	}
}

func TestPutTellsTheFirstError(t *testing.T) {
	for _, k := range kinds() {
		s, d, _ := both(t, 2, 5000, 4096, master)
		d.Fail(0, false)
		d.Beat()
		for _, n := range []uint32{0, 1, 65535, 65536, math.MaxUint32} {
			b := k.sample(2, 1)
			if r, e := k.put(nil, n, b); r != (api.Ref{}) || e != api.ErrNil {
				t.Errorf("a %s: %v, error %d", k.name, r, int(e))
			}
			want := api.ErrDown
			if n > 65535 {
				want = api.ErrArg
			}
			mustNotPut(t, s, d, k, n, b, want)
		}
	}
	var none *Space
	s, d, _ := both(t, 2, 5000, 4096, master)
	mustNotPut(t, s, d, pages(), 0, make([]byte, 1025), api.ErrArg)   // there is no room either
	mustNotPut(t, s, d, data(), 1, make([]byte, 1023), api.ErrArg)    // the file does not reach there either
	mustNotPut(t, s, d, data(), 0, make([]byte, 1024), api.ErrFull)   // the file ends there
	mustNotPut(t, s, d, pages(), 0, make([]byte, 1), api.ErrFull)     // the noughts have no room
	mustNotPut(t, s, d, pages(), 1, make([]byte, 1), api.ErrTampered) // no room either
	d.Fail(0, true)
	d.Sync()
	for _, size := range []int{0, 1, 1023, 1025, 2000} {
		mustNotPut(t, s, d, data(), 0, make([]byte, size), api.ErrArg)
		if r, e := none.PutData(0, make([]byte, size)); r != (api.Ref{}) || e != api.ErrNil {
			t.Errorf("%d bytes: %v, error %d", size, r, int(e))
		}
		if r, e := none.PutPage(0, make([]byte, size)); r != (api.Ref{}) || e != api.ErrNil {
			t.Errorf("%d bytes: %v, error %d", size, r, int(e))
		}
	}
	mustNotPut(t, s, d, pages(), 0, make([]byte, 1025), api.ErrArg)
	mustNotPut(t, s, d, pages(), 0, make([]byte, 1024), api.ErrDown)
}

// TestPutWhereThePowerFails has the step done, or not.
func TestPutWhereThePowerFails(t *testing.T) {
	for _, k := range kinds() {
		for _, done := range []bool{false, true} {
			s, d, slow := both(t, 2, 16384, 16384, master)
			was := d.Bytes()
			d.Fail(1, done)
			slow.d.Fail(1, done)
			mustPut(t, s, k, 1, k.sample(2, 1))
			k.slowPut(slow, 1, k.sample(2, 1))
			want, _ := k.slowPut(slowSpace{slow.d.Clone(), 2, master}, 0, k.sample(2, 2))
			if r, e := k.put(s, 4, k.sample(2, 2)); r != want || r != (api.Ref{}) || e != api.ErrDown {
				t.Errorf("a %s: %v, error %d", k.name, r, int(e))
			}
			k.slowPut(slow, 4, k.sample(2, 2))
			mustBeLike(t, d, slow.d)
			mustNotPut(t, s, d, k, 4, k.sample(2, 2), api.ErrDown)
			for _, c := range []*device.Device{d, slow.d} {
				c.Start([]byte{255})
			}
			mustBeLike(t, d, slow.d)
			if laid := !bytes.Equal(d.Bytes()[4096+4096:], was[4096+4096:]); laid != done {
				t.Errorf("a %s was laid: %v", k.name, laid)
			}
		}
	}
}

func TestPutNeitherChangesNorKeepsWhatItIsGiven(t *testing.T) {
	s, d, slow := both(t, 1, 16384, 16384, master)
	for _, k := range []kind{data(), pages()} {
		room := mixed(700, 5)
		got := mustPut(t, s, k, 2, room[:512])
		if !bytes.Equal(room, mixed(700, 5)) {
			t.Fatalf("what was given as a %s is %x now", k.name, room)
		}
		clear(room)
		want, _ := k.slowPut(slow, 2, mixed(700, 5)[:512])
		mustBeLike(t, d, slow.d)
		mustGet(t, s, k, got, mixed(700, 5)[:512])
		if got != want {
			t.Errorf("a %s: %v", k.name, got)
		}
	}
	short := mixed(2000, 5) // with room enough for the noughts
	mustPut(t, s, pages(), 2, short[:40])
	if !bytes.Equal(short, mixed(2000, 5)) {
		t.Errorf("behind a short page stands %x now", short[40:])
	}
}

// P16.3.

// TestReadsFollowTheChapter reads what was laid by hand.
func TestReadsFollowTheChapter(t *testing.T) {
	for _, k := range kinds() {
		for per := 1; per <= 2; per++ {
			for i, m := range []api.Key{{}, master, run(200), {31: 1}} {
				s, d, slow := both(t, per, 300000, 300000, m)
				for seed, n := range []uint32{0, 1, 2, 3, 7, 8, 127, 255, 256, 257} {
					b := k.sample(per, byte(seed+20*i))
					laid := k.laid(slow, n, b)
					d.Edit(slow.place(n), laid)
					mustGet(t, s, k, api.Ref{At: n + 1, Sum: k.sum(slow, n+1, laid)}, b)
				}
			}
		}
	}
}

func TestReadRefusesOtherAts(t *testing.T) {
	for _, k := range kinds() {
		s, d, _ := both(t, 1, 70000, 70000, master)
		sum := mustPut(t, s, k, 0, k.sample(1, 1)).Sum
		for _, at := range wrongAts() {
			mustNotGet(t, s, k, api.Ref{At: at, Sum: sum}, api.ErrArg)
			mustNotGet(t, s, k, api.Ref{At: at}, api.ErrArg)
		}
		d.Load(nil)
		mustNotGet(t, s, k, api.Ref{}, api.ErrArg)
		mustNotGet(t, s, k, api.Ref{At: 1, Sum: sum}, api.ErrTampered)
		mustNotGet(t, s, k, api.Ref{At: 65536, Sum: sum}, api.ErrTampered)
	}
}

func TestReadTellsTheFirstError(t *testing.T) {
	for _, k := range kinds() {
		s, d, _ := both(t, 2, 16384, 16384, master)
		r := mustPut(t, s, k, 2, k.sample(2, 1))
		elsewhere := mustPut(t, s, k, 3, k.sample(2, 2))
		for _, ref := range []api.Ref{{}, r, {At: 3}, {At: 9000}, {At: 65536}, {At: 65537}} {
			mustNotGet(t, nil, k, ref, api.ErrNil)
		}
		d.Edit(4096+3*1024, []byte("somebody"))
		d.Fail(0, true)
		d.Sync()
		for _, ref := range []api.Ref{r, {At: 3}, elsewhere, {At: 9000, Sum: r.Sum}, {At: 65536}} {
			mustNotGet(t, s, k, ref, api.ErrDown)
		}
		for _, at := range wrongAts() {
			mustNotGet(t, s, k, api.Ref{At: at, Sum: r.Sum}, api.ErrArg)
		}
		d.Start(nil)
		mustGet(t, s, k, r, k.sample(2, 1))
		mustNotGet(t, s, k, elsewhere, api.ErrTampered)
	}
}

func TestReadWhereTheFileDoesNotReach(t *testing.T) {
	for _, k := range kinds() {
		for per := 1; per <= 2; per++ {
			s, d, _ := both(t, per, 16384, 16384, master)
			r := mustPut(t, s, k, 5, k.sample(per, 1))
			file := d.Bytes()
			end := 4096 + 6*512*per
			for _, has := range []int{end, end + 1, 16384} {
				d.Load(noughtsBehind(file[:end], has))
				mustGet(t, s, k, r, k.sample(per, 1))
			}
			for _, has := range []int{0, 1, 4096, end - 512*per, end - 512*per + 1, end - 512, end - 2, end - 1} {
				d.Load(file[:has])
				mustNotGet(t, s, k, r, api.ErrTampered)
			}
		}
	}
}

func TestEachBitOfARefCounts(t *testing.T) {
	for _, k := range kinds() {
		s, _, _ := both(t, 1, 16384, 16384, master)
		r := mustPut(t, s, k, 2, k.sample(1, 1))
		for i := range r.Sum {
			for bit := range 8 {
				other := r
				other.Sum[i] ^= 1 << bit
				mustNotGet(t, s, k, other, api.ErrTampered)
			}
		}
		mustNotGet(t, s, k, api.Ref{At: 3}, api.ErrTampered)
		for _, at := range []uint32{1, 2, 4, 5, 23, 24, 25} {
			mustNotGet(t, s, k, api.Ref{At: at, Sum: r.Sum}, api.ErrTampered)
		}
		mustGet(t, s, k, r, k.sample(1, 1))
	}
}

// TestNoKindIsTakenForAnother reads clusters of noughts, whose bytes any kind might have, by the sums of other kinds.
func TestNoKindIsTakenForAnother(t *testing.T) {
	for per := 1; per <= 2; per++ {
		s, d, slow := both(t, per, 16384, 16384, master)
		noughts := make([]byte, 512*per)
		d.Edit(slow.place(2), noughts)
		for _, k := range kinds() {
			for _, other := range kinds() {
				r := api.Ref{At: 3, Sum: other.sum(slow, 3, noughts)}
				if b, e := k.get(s, r); (e == api.OK) != (k.name == other.name) || e != api.OK && (e != api.ErrTampered || b != nil) {
					t.Errorf("a %s read as a %s: %x, error %d", other.name, k.name, b, int(e))
				}
			}
			mustNotGet(t, s, k, api.Ref{At: 3, Sum: sha.Of(noughts)}, api.ErrTampered)
			mustNotGet(t, s, k, api.Ref{At: 3}, api.ErrTampered)
		}
		b, _ := data().get(s, api.Ref{At: 3, Sum: slow.leaf(3, noughts)})
		if !bytes.Equal(b, slow.opened(2, noughts)) {
			t.Errorf("%x", b)
		}
	}
}

func TestNodeTakesRefsThatMayBe(t *testing.T) {
	for per := 1; per <= 2; per++ {
		s, d, slow := both(t, per, 16384, 16384, master)
		for _, x := range fewNodes() {
			laid := noughtsBehind(laidNode(x), 512*per)
			d.Edit(slow.place(1), laid)
			if got, e := s.Node(api.Ref{At: 2, Sum: nodeSum(laid)}); got != x || e != api.OK {
				t.Errorf("%v, not %v, error %d", got, x, int(e))
			}
		}
	}
}

func TestNodeRefusesRefsThatMayNotBe(t *testing.T) {
	for per := 1; per <= 2; per++ {
		s, d, slow := both(t, per, 16384, 16384, master)
		for _, x := range wrongNodes() {
			laid := noughtsBehind(laidNode(x), 512*per)
			d.Edit(slow.place(1), laid)
			mustNotGet(t, s, nodes(), api.Ref{At: 2, Sum: nodeSum(laid)}, api.ErrTampered)
			if r, e := s.PutNode(1, x); e != api.OK || r.Sum != nodeSum(laid) {
				t.Fatalf("%v: %v, error %d", x, r, int(e))
			}
			mustNotGet(t, s, nodes(), api.Ref{At: 2, Sum: nodeSum(laid)}, api.ErrTampered) // whoever laid them
		}
	}
}

// TestNodeLooksAtEachByte lets each byte be another one, with the sum that they have then: behind the node it is told, within it another node is.
func TestNodeLooksAtEachByte(t *testing.T) {
	for per := 1; per <= 2; per++ {
		s, d, slow := both(t, per, 16384, 16384, master)
		for i := range 512 * per {
			for _, turn := range []byte{1, 16, 128, 255} {
				laid := noughtsBehind(nodes().sample(per, 1), 512*per)
				laid[i] ^= turn
				d.Edit(slow.place(1), laid)
				slow.d.Edit(slow.place(1), laid)
				r := api.Ref{At: 2, Sum: nodeSum(laid)}
				if i >= 288 {
					mustNotGet(t, s, nodes(), r, api.ErrTampered)
					continue
				}
				got, e := nodes().get(s, r)
				if want, f := nodes().slowGet(slow, r); !bytes.Equal(got, want) || e != f {
					t.Fatalf("the byte %d: %x, error %d, not %x, error %d", i, got, int(e), want, int(f))
				}
			}
		}
	}
}

func TestReadsLeaveTheDeviceAsItIs(t *testing.T) {
	for _, k := range kinds() {
		s, d, _ := both(t, 2, 16384, 16384, master)
		r := mustPut(t, s, k, 1, k.sample(2, 1))
		d.Fail(0, false)
		ahead := d.Clone()
		for range 3 {
			mustGet(t, s, k, r, k.sample(2, 1))
			mustNotGet(t, s, k, api.Ref{At: 1}, api.ErrTampered)
			mustNotGet(t, s, k, api.Ref{At: 40}, api.ErrTampered)
			mustNotGet(t, s, k, api.Ref{}, api.ErrArg)
		}
		mustBeLike(t, d, ahead)
		if e := d.Beat(); e != api.ErrDown {
			t.Errorf("the step that was told to fail: error %d", int(e))
		}
	}
}

func TestAnswersAreNewMemory(t *testing.T) {
	for _, k := range []kind{data(), pages()} {
		s, d, _ := both(t, 1, 16384, 16384, master)
		want, file := k.sample(1, 1), d.Bytes()
		r := mustPut(t, s, k, 1, want)
		copy(file[4096+512:], d.Bytes()[4096+512:4096+1024])
		one, _ := k.get(s, r)
		other, _ := k.get(s, r)
		room := one[:cap(one)]
		for i := range room {
			room[i] = 0xee
		}
		if !bytes.Equal(other, want) || !bytes.Equal(d.Bytes(), file) {
			t.Fatalf("two answers of a %s, or it and the file, have one memory", k.name)
		}
		mustGet(t, s, k, r, want)
		mustPut(t, s, k, 1, k.sample(1, 2))
		if !bytes.Equal(other, want) {
			t.Fatalf("a later %s is laid into an answer", k.name)
		}
	}
}

// P16.4.

func TestWhatWasLaidIsRead(t *testing.T) {
	for per := 1; per <= 2; per++ {
		s, d, _ := both(t, per, 70000, 4096, master)
		var refs []api.Ref
		for n := range uint32(30) {
			k := kinds()[n%3]
			refs = append(refs, mustPut(t, s, k, n, k.sample(per, byte(n))))
		}
		for i, r := range slices.Repeat(refs, 2) {
			k := kinds()[i%3]
			mustGet(t, s, k, r, k.sample(per, byte(i%30)))
			mustGet(t, mustNew(t, d.Clone(), per, master), k, r, k.sample(per, byte(i%30))) // another space of the same key
		}
		d.Sync()
		d.Start(nil)
		for i, r := range refs {
			mustGet(t, s, kinds()[i%3], r, kinds()[i%3].sample(per, byte(i)))
		}
	}
}

func TestWhatWasChangedIsSeen(t *testing.T) {
	for _, k := range kinds() {
		for per := 1; per <= 2; per++ {
			s, d, slow := both(t, per, 16384, 16384, master)
			r := mustPut(t, s, k, 2, k.sample(per, 1))
			place := slow.place(2)
			laid := d.Bytes()[place : place+512*per]
			for i := range laid {
				for bit := range 8 {
					d.Edit(place+i, []byte{laid[i] ^ 1<<bit})
					mustNotGet(t, s, k, r, api.ErrTampered)
				}
				d.Edit(place+i, laid[i:i+1])
			}
			mustGet(t, s, k, r, k.sample(per, 1))
			d.Edit(place-1, []byte{99}) // what stands beside it does not count
			d.Edit(place+512*per, []byte{99})
			mustGet(t, s, k, r, k.sample(per, 1))
		}
	}
}

// TestAnElderClusterIsSeen lays a cluster as it was, where another one was laid over it.
func TestAnElderClusterIsSeen(t *testing.T) {
	for _, k := range kinds() {
		s, d, slow := both(t, 2, 16384, 16384, master)
		elder := mustPut(t, s, k, 2, k.sample(2, 1))
		was := d.Bytes()[slow.place(2):slow.place(3)]
		newer := mustPut(t, s, k, 2, k.sample(2, 2))
		mustNotGet(t, s, k, elder, api.ErrTampered)
		mustGet(t, s, k, newer, k.sample(2, 2))
		d.Edit(slow.place(2), was)
		mustNotGet(t, s, k, newer, api.ErrTampered)
		mustGet(t, s, k, elder, k.sample(2, 1)) // it has the very same sum
	}
}

// TestDataLaidElsewhereAreSeen holds of data alone: where nodes and pages stand is not in their sums.
func TestDataLaidElsewhereAreSeen(t *testing.T) {
	for _, k := range kinds() {
		s, d, slow := both(t, 1, 70000, 70000, master)
		r := mustPut(t, s, k, 2, k.sample(1, 1))
		was := d.Bytes()[slow.place(2):slow.place(3)]
		for _, n := range []uint32{0, 1, 3, 50} {
			d.Edit(slow.place(n), was)
			moved := api.Ref{At: n + 1, Sum: r.Sum}
			if k.name == "data" {
				mustNotGet(t, s, k, moved, api.ErrTampered)
			} else {
				mustGet(t, s, k, moved, k.sample(1, 1))
			}
		}
	}
}

// TestALostSectorIsSeen has the power fail while both sectors of a cluster are loose.
func TestALostSectorIsSeen(t *testing.T) {
	for _, k := range []kind{data(), pages()} {
		for keep := range byte(4) {
			s, d, _ := both(t, 2, 16384, 16384, master)
			elder := mustPut(t, s, k, 2, k.sample(2, 1))
			d.Sync()
			newer := mustPut(t, s, k, 2, k.sample(2, 2))
			d.Start([]byte{keep})
			for _, c := range []struct {
				r    api.Ref
				seed byte
				is   bool
			}{{elder, 1, keep == 0}, {newer, 2, keep == 3}} {
				if c.is {
					mustGet(t, s, k, c.r, k.sample(2, c.seed))
				} else {
					mustNotGet(t, s, k, c.r, api.ErrTampered)
				}
			}
		}
	}
}

func TestSpacesHaveTheDeviceAloneInCommon(t *testing.T) {
	d := fileOf(70000, 70000)
	one, other := mustNew(t, d, 1, master), mustNew(t, d, 1, run(99))
	apart := mustNew(t, d.Clone(), 1, master)
	for _, k := range kinds() {
		r := mustPut(t, one, k, 5, k.sample(1, 1))
		mustNotGet(t, apart, k, r, api.ErrTampered)
		q := mustPut(t, other, k, 6, k.sample(1, 2))
		mustGet(t, one, k, r, k.sample(1, 1))
		mustGet(t, other, k, q, k.sample(1, 2))
		mustPut(t, other, k, 5, k.sample(1, 3))
		mustNotGet(t, one, k, r, api.ErrTampered)
	}
}

// TestWalks goes at random among calls, edits and crashes, with a slow space beside.
func TestWalks(t *testing.T) {
	for seed := range int64(30) {
		chance := rand.New(rand.NewSource(seed))
		per := 1 + int(seed%2)
		s, d, slow := both(t, per, 4096+10*512*per+chance.Intn(600), 4096+chance.Intn(2000), run(byte(seed)))
		refs := []api.Ref{{}, {At: 1}, {At: 65536}, {At: 65537}}
		for range 150 {
			k := kinds()[chance.Intn(3)]
			switch chance.Intn(8) {
			case 0, 1, 2:
				n, b := uint32(chance.Intn(12)), k.sample(per, byte(chance.Intn(256)))
				if chance.Intn(8) == 0 && k.name != "node" {
					b = b[:chance.Intn(len(b))]
				}
				got, e := k.put(s, n, b)
				want, f := k.slowPut(slow, n, b)
				if got != want || e != f {
					t.Fatalf("seed %d: %d bytes of a %s at %d: %v, error %d, not %v, error %d", seed, len(b), k.name, n, got, int(e), want, int(f))
				}
				refs = append(refs, got)
			case 3, 4, 5, 6:
				r := refs[chance.Intn(len(refs))]
				got, e := k.get(s, r)
				if want, f := k.slowGet(slow, r); !bytes.Equal(got, want) || e != f {
					t.Fatalf("seed %d: a %s at %d: %x, error %d, not %x, error %d", seed, k.name, r.At, got, int(e), want, int(f))
				}
			case 7:
				disturb(chance, d, slow.d)
			}
			mustBeLike(t, d, slow.d)
		}
	}
}

// disturb does one thing to both devices behind their spaces' backs.
func disturb(chance *rand.Rand, devices ...*device.Device) {
	what, at, one, done := chance.Intn(5), chance.Intn(9000), byte(chance.Intn(256)), chance.Intn(2) == 0
	for _, d := range devices {
		switch what {
		case 0:
			d.Edit(at, []byte{one})
		case 1:
			d.Sync()
		case 2:
			d.Fail(int(one%8), done)
		default:
			d.Start([]byte{one, ^one, one})
		}
	}
}

// The rules of the whole: a nil space answers zero values.

func TestNilSpace(t *testing.T) {
	var s *Space
	for _, r := range []api.Ref{{}, {At: 1}, {At: 65536, Sum: run(1)}, {At: 65537}, {At: math.MaxUint32}} {
		if b, e := s.Data(r); b != nil || e != api.ErrNil {
			t.Errorf("Data: %x, error %d", b, int(e))
		}
		if x, e := s.Node(r); x != (api.Node{}) || e != api.ErrNil {
			t.Errorf("Node: %v, error %d", x, int(e))
		}
		if b, e := s.Page(r); b != nil || e != api.ErrNil {
			t.Errorf("Page: %x, error %d", b, int(e))
		}
	}
	for _, n := range []uint32{0, 65535, 65536, math.MaxUint32} {
		for _, size := range []int{0, 1, 512, 1024, 70000} {
			if r, e := s.PutData(n, make([]byte, size)); r != (api.Ref{}) || e != api.ErrNil {
				t.Errorf("PutData: %v, error %d", r, int(e))
			}
			if r, e := s.PutPage(n, make([]byte, size)); r != (api.Ref{}) || e != api.ErrNil {
				t.Errorf("PutPage: %v, error %d", r, int(e))
			}
		}
		if r, e := s.PutNode(n, fewNodes()[1]); r != (api.Ref{}) || e != api.ErrNil {
			t.Errorf("PutNode: %v, error %d", r, int(e))
		}
	}
}

func BenchmarkPutData(b *testing.B) {
	d, given := fileOf(16384, 16384), count(1024)
	s := New(d, api.Geometry{Clusters: 8, Per: 2}, master)
	for b.Loop() {
		s.PutData(0, given)
		d.Sync() // or the loose writes become ever more
	}
}

func BenchmarkData(b *testing.B) {
	s := New(fileOf(16384, 16384), api.Geometry{Clusters: 8, Per: 2}, master)
	r, _ := s.PutData(0, count(1024))
	for b.Loop() {
		s.Data(r)
	}
}

package space

import (
	"bytes"
	"math"
	"slices"
	"testing"

	"reliquary/api"
	"reliquary/device"
	"reliquary/hmac"
	"reliquary/sha"
	"reliquary/xts"
)

// run tells 32 bytes that rise one by one from the first one on.
func run(first byte) [32]byte {
	var b [32]byte
	for i := range b {
		b[i] = first + byte(i)
	}
	return b
}

// count tells so many bytes, unlike ones.
func count(n int) []byte {
	b := make([]byte, n)
	for i := range b {
		b[i] = byte(7*i + 3)
	}
	return b
}

// mixed tells so many bytes that hang on a seed.
func mixed(n int, seed byte) []byte {
	b := make([]byte, n)
	for i := range b {
		b[i] = byte(i*i>>3+11*i+i/1024*37) + seed
	}
	return b
}

// four tells a number's bytes, the highest one first.
func four(n uint32) []byte { return []byte{byte(n >> 24), byte(n >> 16), byte(n >> 8), byte(n)} }

// noughtsBehind tells bytes with noughts behind them, so many in all.
func noughtsBehind(b []byte, n int) []byte { return append(slices.Clone(b), make([]byte, n-len(b))...) }

// laidNode lays each byte where node's chapter has it.
func laidNode(x api.Node) []byte {
	b := make([]byte, 288)
	for i, ref := range x {
		copy(b[36*i:], four(ref.At))
		copy(b[36*i+4:], ref.Sum[:])
	}
	return b
}

// nodeOf reads what laidNode lays.
func nodeOf(b []byte) api.Node {
	var x api.Node
	for i := range x {
		one := b[36*i : 36*i+36]
		x[i].At = uint32(one[0])<<24 | uint32(one[1])<<16 | uint32(one[2])<<8 | uint32(one[3])
		x[i].Sum = api.Sum(one[4:])
	}
	return x
}

// mayBe goes by the words of node's chapter.
func mayBe(x api.Node) bool {
	for _, ref := range x {
		if ref.At == 0 && ref.Sum != (api.Sum{}) {
			return false
		}
	}
	return true
}

// slowSpace is a space as the chapter's words say.
type slowSpace struct {
	d      *device.Device
	per    int
	master api.Key
}

func (s slowSpace) size() int { return 512 * s.per }

// place goes over what stands ahead of a cluster: eight sectors, and the clusters ahead.
func (s slowSpace) place(n uint32) int { return 8*512 + int(n)*s.size() }

func (s slowSpace) key(label string) api.Key {
	return api.Key(hmac.Of(s.master[:], []byte("reliquary "+label)))
}

// sealed seals each sector by itself.
func (s slowSpace) sealed(n uint32, b []byte) []byte {
	var all []byte
	x := xts.New(s.key("data one"), s.key("data two"))
	for i := range s.per {
		one, _ := x.Seal(8+uint64(n)*uint64(s.per)+uint64(i), b[512*i:512*i+512])
		all = append(all, one...)
	}
	return all
}

// opened leads back from sealed.
func (s slowSpace) opened(n uint32, b []byte) []byte {
	var all []byte
	x := xts.New(s.key("data one"), s.key("data two"))
	for i := range s.per {
		one, _ := x.Open(8+uint64(n)*uint64(s.per)+uint64(i), b[512*i:512*i+512])
		all = append(all, one...)
	}
	return all
}

// leaf tells the sum of data to which a ref has the At.
func (s slowSpace) leaf(at uint32, b []byte) api.Sum {
	key := s.key("tag")
	return hmac.Of(key[:], slices.Concat([]byte("leaf"), four(at), b))
}

func nodeSum(b []byte) api.Sum { return sha.Of([]byte("node" + string(b))) }

func pageSum(b []byte) api.Sum { return sha.Of([]byte("page" + string(b))) }

// kind is one of the three kinds of clusters: its calls, with what stands in a cluster as bytes, and what the chapter says of them.
type kind struct {
	name   string
	sample func(per int, seed byte) []byte // what fills a cluster of this kind, as far as it may
	put    func(s *Space, n uint32, b []byte) (api.Ref, api.Errno)
	get    func(s *Space, r api.Ref) ([]byte, api.Errno)
	fits   func(s slowSpace, b []byte) bool
	laid   func(s slowSpace, n uint32, b []byte) []byte
	sum    func(s slowSpace, at uint32, laid []byte) api.Sum
	back   func(s slowSpace, n uint32, laid []byte) ([]byte, bool) // what stands in it, if the kind takes it
}

func data() kind {
	return kind{"data",
		func(per int, seed byte) []byte { return mixed(512*per, seed) },
		(*Space).PutData,
		(*Space).Data,
		func(s slowSpace, b []byte) bool { return len(b) == s.size() },
		func(s slowSpace, n uint32, b []byte) []byte { return s.sealed(n, b) },
		func(s slowSpace, at uint32, laid []byte) api.Sum { return s.leaf(at, laid) },
		func(s slowSpace, n uint32, laid []byte) ([]byte, bool) { return s.opened(n, laid), true },
	}
}

// nodes tell a node as its 288 bytes, and none as no bytes.
func nodes() kind {
	return kind{"node",
		func(_ int, seed byte) []byte {
			return laidNode(api.Node{0: {At: 1}, 3: {At: uint32(seed) + 1, Sum: run(seed)}, 7: {At: math.MaxUint32, Sum: run(^seed)}})
		},
		func(s *Space, n uint32, b []byte) (api.Ref, api.Errno) { return s.PutNode(n, nodeOf(b)) },
		func(s *Space, r api.Ref) ([]byte, api.Errno) {
			x, e := s.Node(r)
			if e != api.OK && x == (api.Node{}) {
				return nil, e
			}
			return laidNode(x), e
		},
		func(s slowSpace, b []byte) bool { return true },
		func(s slowSpace, n uint32, b []byte) []byte { return noughtsBehind(b, s.size()) },
		func(s slowSpace, at uint32, laid []byte) api.Sum { return nodeSum(laid) },
		func(s slowSpace, n uint32, laid []byte) ([]byte, bool) {
			return laid[:288], mayBe(nodeOf(laid)) && string(laid[288:]) == string(make([]byte, len(laid)-288))
		},
	}
}

func pages() kind {
	return kind{"page",
		func(per int, seed byte) []byte { return mixed(512*per, seed+77) },
		(*Space).PutPage,
		(*Space).Page,
		func(s slowSpace, b []byte) bool { return len(b) <= s.size() },
		func(s slowSpace, n uint32, b []byte) []byte { return noughtsBehind(b, s.size()) },
		func(s slowSpace, at uint32, laid []byte) api.Sum { return pageSum(laid) },
		func(s slowSpace, n uint32, laid []byte) ([]byte, bool) { return laid, true },
	}
}

func kinds() []kind { return []kind{data(), nodes(), pages()} }

// asTampered tells what becomes of a device's error.
func asTampered(e api.Errno) api.Errno {
	if e == api.ErrRange {
		return api.ErrTampered
	}
	return e
}

// slowPut goes by the chapter's words.
func (k kind) slowPut(s slowSpace, n uint32, b []byte) (api.Ref, api.Errno) {
	if n > 65535 || !k.fits(s, b) {
		return api.Ref{}, api.ErrArg
	}
	laid := k.laid(s, n, b)
	if e := s.d.Write(s.place(n), laid); e != api.OK {
		return api.Ref{}, asTampered(e)
	}
	return api.Ref{At: n + 1, Sum: k.sum(s, n+1, laid)}, api.OK
}

// slowGet goes by the chapter's words.
func (k kind) slowGet(s slowSpace, r api.Ref) ([]byte, api.Errno) {
	if r.At < 1 || r.At > 65536 {
		return nil, api.ErrArg
	}
	laid, e := s.d.Read(s.place(r.At-1), s.size())
	if e != api.OK {
		return nil, asTampered(e)
	}
	b, takes := k.back(s, r.At-1, laid)
	if !takes || k.sum(s, r.At, laid) != r.Sum {
		return nil, api.ErrTampered
	}
	return b, api.OK
}

// allShapes are the geometries that may be.
func allShapes() []api.Geometry {
	var all []api.Geometry
	for clusters := 1; clusters <= 64; clusters++ {
		all = append(all, api.Geometry{Clusters: clusters, Per: 1}, api.Geometry{Clusters: clusters, Per: 2})
	}
	return all
}

// wrongShapes may not be: beyond the edges, and such as look right when they are cut to 8, 16 or 32 bits.
func wrongShapes() []api.Geometry {
	odd := []int{0, -1, -2, -255, -256, -65535, 256, 257, 258, 65536, 65537, 65538, 1<<32 + 1, 1<<32 + 2, math.MaxInt, math.MinInt, math.MinInt + 1}
	var wrong []api.Geometry
	for _, one := range append(odd, 65, 128, 255) {
		wrong = append(wrong, api.Geometry{Clusters: one, Per: 1}, api.Geometry{Clusters: one, Per: 2}, api.Geometry{Clusters: one, Per: one})
	}
	for _, one := range append(odd, 3, 4, 64) {
		wrong = append(wrong, api.Geometry{Clusters: 1, Per: one}, api.Geometry{Clusters: 8, Per: one}, api.Geometry{Clusters: 64, Per: one})
	}
	return wrong
}

// wrongNodes have a ref that may not be, alone, and beside others that may.
func wrongNodes() []api.Node {
	var wrong []api.Node
	for i := range api.Fan {
		for _, j := range []int{0, 1, 15, 30, 31} {
			for _, turn := range []byte{1, 128, 255} {
				var alone, beside api.Node
				for other := range beside {
					beside[other] = api.Ref{At: uint32(other + 1), Sum: run(byte(other))}
				}
				alone[i].Sum[j] = turn
				beside[i] = alone[i]
				wrong = append(wrong, alone, beside)
			}
		}
	}
	return wrong
}

// fewNodes have refs that all may be.
func fewNodes() []api.Node {
	var full, turns api.Node
	for i := range full {
		full[i] = api.Ref{At: uint32(i + 1), Sum: run(byte(32 * i))}
		turns[i] = api.Ref{At: []uint32{0x01020304, 0x10203040}[i%2], Sum: run(byte(3 * i))}
	}
	all := []api.Node{{}, {3: {At: 9, Sum: run(1)}}, full, turns, {7: {At: math.MaxUint32, Sum: run(200)}}}
	for i := range api.Fan {
		one, alone := full, api.Node{}
		one[i], alone[i].At = api.Ref{}, 1 // a ref without a sum may be
		all = append(all, one, alone)
	}
	return all
}

// wrongAts are those of no cluster: beyond the edges, and such as look right when they are cut to 16 bits.
func wrongAts() []uint32 {
	return []uint32{0, 65537, 65538, 65536 + 256, 131072, 131073, 1 << 24, 1<<24 + 1, 1 << 31, 1<<31 + 1, math.MaxUint32 - 65535, math.MaxUint32 - 1, math.MaxUint32}
}

// fileOf makes a device with a file of so many bytes.
func fileOf(most, has int) *device.Device {
	d := device.New(most)
	d.Load(mixed(has, 201))
	return d
}

// both makes a space, and a slow one upon a device of its own, with a file of so many bytes.
func both(t *testing.T, per, most, has int, master api.Key) (*Space, *device.Device, slowSpace) {
	t.Helper()
	d := fileOf(most, has)
	return mustNew(t, d, per, master), d, slowSpace{d.Clone(), per, master}
}

// mustNew makes a space.
func mustNew(t *testing.T, d *device.Device, per int, master api.Key) *Space {
	t.Helper()
	s := New(d, api.Geometry{Clusters: 8, Per: per}, master)
	if s == nil {
		t.Fatal("there is no space")
	}
	return s
}

// mustPut lays what fits.
func mustPut(t *testing.T, s *Space, k kind, n uint32, b []byte) api.Ref {
	t.Helper()
	r, e := k.put(s, n, b)
	if e != api.OK || r.At != n+1 {
		t.Fatalf("a %s laid at %d: the At %d, error %d", k.name, n, r.At, int(e))
	}
	return r
}

// mustGet asks for what is read.
func mustGet(t *testing.T, s *Space, k kind, r api.Ref, want []byte) {
	t.Helper()
	if b, e := k.get(s, r); e != api.OK || !bytes.Equal(b, want) {
		t.Fatalf("a %s read at %d: %x, error %d, not %x", k.name, r.At, b, int(e), want)
	}
}

// mustNotGet asks for the error of what is read.
func mustNotGet(t *testing.T, s *Space, k kind, r api.Ref, want api.Errno) {
	t.Helper()
	if b, e := k.get(s, r); e != want || b != nil {
		t.Fatalf("a %s read at %d: %x, error %d, not %d", k.name, r.At, b, int(e), int(want))
	}
}

// mustNotPut asks for the error of what is laid, and that the device stays as it is.
func mustNotPut(t *testing.T, s *Space, d *device.Device, k kind, n uint32, b []byte, want api.Errno) {
	t.Helper()
	ahead := d.Clone()
	if r, e := k.put(s, n, b); e != want || r != (api.Ref{}) {
		t.Fatalf("%d bytes of a %s laid at %d: %v, error %d, not %d", len(b), k.name, n, r, int(e), int(want))
	}
	mustBeLike(t, d, ahead)
}

// mustBeLike asks whether two devices are alike.
func mustBeLike(t *testing.T, d, want *device.Device) {
	t.Helper()
	if d.Steps() != want.Steps() || d.Loose() != want.Loose() || d.Down() != want.Down() {
		t.Fatalf("%d steps, %d loose, down %v, not %d, %d, %v", d.Steps(), d.Loose(), d.Down(), want.Steps(), want.Loose(), want.Down())
	}
	if got, file := d.Bytes(), want.Bytes(); !bytes.Equal(got, file) {
		at := 0
		for at < min(len(got), len(file)) && got[at] == file[at] {
			at++
		}
		t.Fatalf("files of %d and %d bytes are unlike from %d on", len(got), len(file), at)
	}
}

package tree

import (
	"bytes"
	"math"
	"math/rand"
	"slices"
	"testing"

	"reliquary/alloc"
	"reliquary/api"
	"reliquary/device"
	layer "reliquary/node"
	"reliquary/space"
)

var master = api.Key{3, 1, 4, 1, 5}

// bench is what trees are laid on: a device, a space of it, and which clusters are free.
type bench struct {
	d    *device.Device
	s    *space.Space
	free *alloc.Set
	per  int
}

// newBench makes one with a file that reaches as far as the clusters, and has something everywhere.
func newBench(t *testing.T, per, clusters int) bench {
	t.Helper()
	d := device.New(4096 + 512*per*clusters)
	d.Load(bytes.Repeat([]byte{0xa5}, d.Most()))
	return onto(t, d, alloc.New(clusters), per)
}

func onto(t *testing.T, d *device.Device, free *alloc.Set, per int) bench {
	t.Helper()
	s := space.New(d, api.Geometry{Clusters: 1, Per: per}, master) // how many clusters an image has does not count here
	if s == nil {
		t.Fatal("there is no space")
	}
	return bench{d: d, s: s, free: free, per: per}
}

// fork tells a bench of its own that is as this one.
func (b bench) fork(t *testing.T) bench {
	t.Helper()
	return onto(t, b.d.Clone(), b.free.Fork(), b.per)
}

// data tells a cluster's bytes that hang on a seed.
func (b bench) data(seed int) []byte {
	c := make([]byte, 512*b.per)
	for i := range c {
		c[i] = byte(seed*31 + i*7 + i/256*seed)
	}
	c[0], c[1], c[2] = byte(seed), byte(seed>>8), byte(seed>>16)
	return c
}

// changes tells changes of these clusters, unlike ones, by a seed.
func (b bench) changes(seed int, ats ...int) []Change {
	var l []Change
	for _, at := range ats {
		l = append(l, Change{At: at, Data: b.data(100*seed + at)})
	}
	return l
}

// turn turns a byte of a cluster behind everybody's back.
func (b bench) turn(at uint32, i int) {
	place := 4096 + int(at-1)*512*b.per + i
	b.d.Edit(place, []byte{b.d.Bytes()[place] ^ 1})
}

// all are the places of all clusters of data.
func all() []int {
	var ats []int
	for i := range 64 {
		ats = append(ats, i)
	}
	return ats
}

// few are lists of places that rise: edges of the tree, and of its nodes.
func few() [][]int {
	return [][]int{
		{0}, {1}, {7}, {8}, {9}, {31}, {56}, {62}, {63},
		{0, 1}, {0, 7}, {0, 8}, {7, 8}, {0, 63}, {62, 63}, {55, 56}, {3, 60},
		{0, 1, 2, 3, 4, 5, 6, 7}, {56, 57, 58, 59, 60, 61, 62, 63}, {0, 8, 16, 24, 32, 40, 48, 56}, {7, 15, 23, 31, 39, 47, 55, 63},
		{5, 6, 7, 8, 9, 10}, {9, 18, 27, 36, 45, 54, 63}, all(),
	}
}

// wrongPlaces are of no cluster: beyond the edges, and such as look right when they are cut to 8, 16 or 32 bits.
func wrongPlaces() []int {
	return []int{-1, -2, -8, -63, -64, -65, 64, 65, 71, 72, 127, 128, 256, 257, 65536, 65537, 1 << 32, 1<<32 + 9, -1 << 32, math.MaxInt32, math.MinInt32, math.MaxInt, math.MinInt, math.MinInt + 9}
}

// farRefs are to no cluster that may be.
func farRefs() []api.Ref {
	return []api.Ref{{At: 65537}, {At: 65538, Sum: api.Sum{1}}, {At: 1 << 31}, {At: math.MaxUint32}}
}

// noTrees are refs to nothing. Of one the Sum does not count.
func noTrees() []api.Ref { return []api.Ref{{}, {Sum: api.Sum{1}}, {Sum: api.Sum{31: 255}}} }

// need tells how many clusters changes of these take: theirs, those of the nodes above them, and the top's.
func need(ats []int) int {
	under := map[int]bool{}
	for _, at := range ats {
		under[at/8] = true
	}
	return len(ats) + len(under) + 1
}

// paths tells for each cluster of data the refs that lead to it, as far as they are there.
func (b bench) paths(t *testing.T, top api.Ref) [64][]api.Ref {
	t.Helper()
	var paths [64][]api.Ref
	upper := b.mustNode(t, top)
	for i := range paths {
		paths[i] = []api.Ref{top}
		if below := upper[i/8]; below.At != 0 {
			paths[i] = append(paths[i], below, b.mustNode(t, below)[i%8])
		}
	}
	return paths
}

// mustNode reads a node.
func (b bench) mustNode(t *testing.T, r api.Ref) api.Node {
	t.Helper()
	x, e := b.s.Node(r)
	if e != api.OK {
		t.Fatalf("the node at %d: error %d", r.At-1, int(e))
	}
	return x
}

// oddTrees lays trees that no Set lays, and tells their tops.
func (b bench) oddTrees(t *testing.T) []api.Ref {
	t.Helper()
	next := uint32(0)
	put := func(lay func(n uint32) (api.Ref, api.Errno)) api.Ref {
		t.Helper()
		b.free.Mark(next)
		r, e := lay(next)
		if next++; e != api.OK {
			t.Fatalf("error %d", int(e))
		}
		return r
	}
	data := put(func(n uint32) (api.Ref, api.Errno) { return b.s.PutData(n, b.data(77)) })
	node := func(x api.Node) api.Ref {
		return put(func(n uint32) (api.Ref, api.Errno) { return b.s.PutNode(n, x) })
	}
	empty, far, beyond := node(api.Node{}), api.Ref{At: 65537, Sum: data.Sum}, api.Ref{At: 60000}
	leaves := node(api.Node{0: data, 1: far, 3: beyond, 5: empty, 7: data})
	page := put(func(n uint32) (api.Ref, api.Errno) { return b.s.PutPage(n, layer.Put(api.Node{2: data})) })
	wrong := api.Ref{At: leaves.At, Sum: empty.Sum}
	mixed := node(api.Node{0: leaves, 1: empty, 2: far, 3: beyond, 4: data, 6: page, 7: wrong})
	var eight api.Node
	for j := range eight {
		eight[j] = leaves
	}
	return []api.Ref{data, empty, far, beyond, leaves, page, wrong, mixed,
		node(eight), node(api.Node{3: empty, 4: leaves}), node(api.Node{1: mixed}),
		node(api.Node{0: leaves, 7: far}), node(api.Node{7: leaves, 0: beyond}), node(api.Node{6: leaves, 7: page})}
}

// randomChanges tells some changes, sometimes none, sometimes all of them.
func (b bench) randomChanges(r *rand.Rand, seed int) []Change {
	odds := []int{1, 2, 8, 30, 64}[r.Intn(5)]
	var ats []int
	for at := range 64 {
		if r.Intn(odds) == 0 {
			ats = append(ats, at)
		}
	}
	return b.changes(seed, ats...)
}

// slowGet goes by the chapter's words.
func slowGet(s *space.Space, top api.Ref, i int) ([]byte, api.Errno) {
	if i < 0 || i > 63 {
		return nil, api.ErrRange
	}
	if top.At == 0 {
		return nil, api.OK
	}
	upper, e := s.Node(top)
	if e != api.OK {
		return nil, e
	}
	j, k := 0, i
	for k >= 8 {
		j, k = j+1, k-8
	}
	if upper[j].At == 0 {
		return nil, api.OK
	}
	lower, e := s.Node(upper[j])
	if e != api.OK {
		return nil, e
	}
	if lower[k].At == 0 {
		return nil, api.OK
	}
	return s.Data(lower[k])
}

// slowError tells the error of what Set is asked, by the chapter's words.
func slowError(l []Change) api.Errno {
	for _, c := range l {
		if c.At < 0 || c.At > 63 {
			return api.ErrRange
		}
	}
	for i := range l {
		for j := range i {
			if l[j].At >= l[i].At {
				return api.ErrArg
			}
		}
	}
	return api.OK
}

// slowSet goes by the chapter's words, one cluster after the other.
func slowSet(s *space.Space, free *alloc.Set, top api.Ref, l []Change) (api.Ref, api.Errno) {
	if e := slowError(l); e != api.OK {
		return api.Ref{}, e
	}
	if len(l) == 0 {
		return top, api.OK
	}
	ahead := free.Fork()
	fails := func(e api.Errno) (api.Ref, api.Errno) {
		for _, n := range free.List() {
			if !ahead.Has(n) {
				free.Clear(n)
			}
		}
		return api.Ref{}, e
	}
	var e api.Errno
	var upper api.Node
	if top.At != 0 {
		if upper, e = s.Node(top); e != api.OK {
			return fails(e)
		}
	}
	for j := range 8 {
		var lower api.Node
		met := 0
		for k := range 8 {
			at := slices.IndexFunc(l, func(c Change) bool { return c.At == 8*j+k })
			if at < 0 {
				continue
			}
			if met++; met == 1 && upper[j].At != 0 { // of what has no changes nothing is read
				if lower, e = s.Node(upper[j]); e != api.OK {
					return fails(e)
				}
			}
			n, e := free.Take()
			if e != api.OK {
				return fails(e)
			}
			if lower[k], e = s.PutData(n, l[at].Data); e != api.OK {
				return fails(e)
			}
		}
		if met == 0 {
			continue
		}
		n, e := free.Take()
		if e != api.OK {
			return fails(e)
		}
		if upper[j], e = s.PutNode(n, lower); e != api.OK {
			return fails(e)
		}
	}
	n, e := free.Take()
	if e != api.OK {
		return fails(e)
	}
	if top, e = s.PutNode(n, upper); e != api.OK {
		return fails(e)
	}
	return top, api.OK
}

// slowRefs goes by the chapter's words.
func slowRefs(s *space.Space, top api.Ref) ([]api.Ref, api.Errno) {
	if top.At == 0 {
		return nil, api.OK
	}
	list := []api.Ref{top}
	upper, e := s.Node(top)
	if e != api.OK {
		return nil, e
	}
	for j := range 8 {
		if upper[j].At == 0 {
			continue
		}
		list = append(list, upper[j])
		lower, e := s.Node(upper[j])
		if e != api.OK {
			return nil, e
		}
		for k := range 8 {
			if lower[k].At != 0 {
				list = append(list, lower[k])
			}
		}
	}
	return list, api.OK
}

// set sets, holds what comes of it against the slow way, and tells it.
func (b bench) set(t *testing.T, top api.Ref, l []Change) (api.Ref, api.Errno) {
	t.Helper()
	slow := b.fork(t)
	given := clone(l)
	want, no := slowSet(slow.s, slow.free, top, clone(l))
	got, e := Set(b.s, b.free, top, l)
	if got != want || e != no {
		t.Fatalf("of %v the tree %v, error %d, not %v, error %d", places(l), got, int(e), want, int(no))
	}
	mustBeLike(t, b, slow)
	if !slices.EqualFunc(l, given, func(x, y Change) bool { return x.At == y.At && bytes.Equal(x.Data, y.Data) }) {
		t.Fatalf("the changes %v became others", places(given))
	}
	return got, e
}

// mustSet sets what has no error.
func (b bench) mustSet(t *testing.T, top api.Ref, l []Change) api.Ref {
	t.Helper()
	fresh, e := b.set(t, top, l)
	if e != api.OK {
		t.Fatalf("of %v error %d", places(l), int(e))
	}
	return fresh
}

// mustNotSet asks for an error, and that nothing is taken.
func (b bench) mustNotSet(t *testing.T, top api.Ref, l []Change, want api.Errno) {
	t.Helper()
	ahead := b.free.List()
	if fresh, e := b.set(t, top, l); e != want || fresh != (api.Ref{}) {
		t.Fatalf("of %v the tree %v, error %d, not %d", places(l), fresh, int(e), int(want))
	}
	if !slices.Equal(b.free.List(), ahead) {
		t.Fatalf("of %v the used ones %v became %v", places(l), ahead, b.free.List())
	}
}

// mustTell asks what a tree has, and that asking changes nothing.
func (b bench) mustTell(t *testing.T, top api.Ref, rows map[int][]byte) {
	t.Helper()
	ahead := b.fork(t)
	for i := range 64 {
		if got, e := Get(b.s, top, i); e != api.OK || !bytes.Equal(got, rows[i]) {
			t.Fatalf("the cluster %d: %x, error %d, not %x", i, got, int(e), rows[i])
		}
	}
	mustBeRefs(t, b, top)
	mustBeLike(t, b, ahead)
}

// mustGet holds each answer of Get against the slow way.
func (b bench) mustGet(t *testing.T, top api.Ref, i int) ([]byte, api.Errno) {
	t.Helper()
	got, e := Get(b.s, top, i)
	if want, no := slowGet(b.s, top, i); !bytes.Equal(got, want) || e != no {
		t.Fatalf("the cluster %d: %x, error %d, not %x, error %d", i, got, int(e), want, int(no))
	}
	return got, e
}

// mustBeRefs holds what Refs tells against the slow way.
func mustBeRefs(t *testing.T, b bench, top api.Ref) ([]api.Ref, api.Errno) {
	t.Helper()
	got, e := Refs(b.s, top)
	if want, no := slowRefs(b.s, top); !slices.Equal(got, want) || e != no {
		t.Fatalf("the refs %v, error %d, not %v, error %d", got, int(e), want, int(no))
	}
	return got, e
}

// mustBeLike asks whether two benches are alike.
func mustBeLike(t *testing.T, b, want bench) {
	t.Helper()
	if b.d.Steps() != want.d.Steps() || b.d.Loose() != want.d.Loose() || b.d.Down() != want.d.Down() {
		t.Fatalf("%d steps, %d loose, down %v, not %d, %d, %v", b.d.Steps(), b.d.Loose(), b.d.Down(), want.d.Steps(), want.d.Loose(), want.d.Down())
	}
	if !bytes.Equal(b.d.Bytes(), want.d.Bytes()) {
		t.Fatal("the files are unlike")
	}
	if got, list := b.free.List(), want.free.List(); !slices.Equal(got, list) || b.free.Total() != want.free.Total() {
		t.Fatalf("the used ones of %d are %v, not %v of %d", b.free.Total(), got, list, want.free.Total())
	}
}

// with tells rows that have the changes, too.
func with(rows map[int][]byte, l []Change) map[int][]byte {
	more := map[int][]byte{}
	for i, row := range rows {
		more[i] = row
	}
	for _, c := range l {
		more[c.At] = bytes.Clone(c.Data)
	}
	return more
}

// clone tells changes that share nothing with those given.
func clone(l []Change) []Change {
	var own []Change
	for _, c := range l {
		own = append(own, Change{At: c.At, Data: bytes.Clone(c.Data)})
	}
	return own
}

// places tells the changes' places.
func places(l []Change) []int {
	var ats []int
	for _, c := range l {
		ats = append(ats, c.At)
	}
	return ats
}

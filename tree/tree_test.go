package tree

import (
	"bytes"
	"math/rand"
	"slices"
	"testing"

	"reliquary/alloc"
	"reliquary/api"
)

// The chapter's example.

func TestExample(t *testing.T) {
	b := newBench(t, 1, 20)
	data := b.data(9)
	top, e := Set(b.s, b.free, api.Ref{}, []Change{{At: 9, Data: data}})
	if e != api.OK || !slices.Equal(b.free.List(), []uint32{0, 1, 2}) {
		t.Fatalf("error %d, %v are used", int(e), b.free.List())
	}
	if got, e := b.s.Data(api.Ref{At: 1, Sum: refAt(t, b, top, 2).Sum}); !bytes.Equal(got, data) || e != api.OK {
		t.Errorf("not data at 0: error %d", int(e))
	}
	if under, e := b.s.Node(refAt(t, b, top, 1)); under[1].At != 1 || e != api.OK {
		t.Errorf("not the node at 1: %v, error %d", under, int(e))
	}
	if top.At != 3 {
		t.Errorf("the top at %d", top.At-1)
	}
	if got, e := Get(b.s, top, 9); !bytes.Equal(got, data) || e != api.OK {
		t.Errorf("the cluster 9: %x, error %d", got, int(e))
	}
	if got, e := Get(b.s, top, 8); len(got) != 0 || e != api.OK {
		t.Errorf("the cluster 8: %x, error %d", got, int(e))
	}
	if list, e := Refs(b.s, top); len(list) != 3 || e != api.OK {
		t.Errorf("%v, error %d", list, int(e))
	}
	if fresh, e := Set(b.s, b.free, top, b.changes(1, 1, 1)); fresh != (api.Ref{}) || e != api.ErrArg || b.free.Used() != 3 {
		t.Errorf("twice the same: %v, error %d, %d used", fresh, int(e), b.free.Used())
	}
}

// P19.1: Get.

func TestGetOfNothing(t *testing.T) {
	b := newBench(t, 1, 4)
	for _, top := range noTrees() {
		b.mustTell(t, top, nil)
	}
	b.d.Fail(0, false)
	b.d.Beat()
	for _, top := range noTrees() {
		b.mustTell(t, top, nil) // a device that is down is not asked
	}
}

func TestGetErrors(t *testing.T) {
	b := newBench(t, 1, 100)
	top := b.mustSet(t, api.Ref{}, b.changes(1, 0, 9, 63))
	tops := slices.Concat(noTrees(), farRefs(), []api.Ref{top, {At: 1}, {At: 1000}})
	for _, top := range tops {
		for _, i := range append(wrongPlaces(), all()...) {
			if got, e := Get(nil, top, i); got != nil || e != api.ErrNil {
				t.Fatalf("of nil: %x, error %d", got, int(e))
			}
		}
		for _, i := range wrongPlaces() {
			if got, e := Get(b.s, top, i); got != nil || e != api.ErrRange {
				t.Fatalf("the cluster %d: %x, error %d", i, got, int(e))
			}
		}
	}
	for _, top := range farRefs() {
		for _, i := range all() {
			if got, e := Get(b.s, top, i); got != nil || e != api.ErrArg {
				t.Fatalf("at %d: %x, error %d", top.At, got, int(e))
			}
		}
	}
	b.d.Fail(0, false)
	b.d.Beat()
	for _, i := range all() {
		if got, e := Get(b.s, top, i); got != nil || e != api.ErrDown {
			t.Fatalf("down: %x, error %d", got, int(e))
		}
	}
}

// TestGetReadsNoMoreThanItNeeds turns each cluster of a tree.
func TestGetReadsNoMoreThanItNeeds(t *testing.T) {
	b := newBench(t, 1, 100)
	l := b.changes(1, 0, 3, 7, 8, 20, 21, 56, 63)
	top := b.mustSet(t, api.Ref{}, l)
	rows := with(nil, l)
	list, _ := mustBeRefs(t, b, top)
	paths := b.paths(t, top)
	for _, r := range list {
		for _, byteAt := range []int{0, 3, 200, 287, 288, 511} {
			b.turn(r.At, byteAt)
			for i := range 64 {
				want := api.OK
				if slices.Contains(paths[i], r) {
					want = api.ErrTampered
				}
				got, e := b.mustGet(t, top, i)
				if e != want || e == api.OK && !bytes.Equal(got, rows[i]) || e != api.OK && got != nil {
					t.Fatalf("with the cluster %d turned, %d: %x, error %d", r.At-1, i, got, int(e))
				}
			}
			b.turn(r.At, byteAt)
		}
	}
	b.mustTell(t, top, rows)
}

// TestGetOfWhatNoSetLays has nodes with nothing below them, and with refs to what is not there.
func TestGetOfWhatNoSetLays(t *testing.T) {
	b := newBench(t, 2, 40)
	for _, top := range b.oddTrees(t) {
		for i := range 64 {
			b.mustGet(t, top, i)
		}
	}
}

// P19.2: Set.

func TestSetErrors(t *testing.T) {
	b := newBench(t, 1, 100)
	top := b.mustSet(t, api.Ref{}, b.changes(1, 0, 9, 63))
	wrong := [][]Change{nil, {}, b.changes(2, 5), b.changes(2, 5, 5), b.changes(2, 64), {{}}, {{}, {}}}
	for _, top := range slices.Concat(noTrees(), farRefs(), []api.Ref{top, {At: 1}}) {
		for _, l := range wrong {
			mustBeNil := func(fresh api.Ref, e api.Errno) {
				t.Helper()
				if fresh != (api.Ref{}) || e != api.ErrNil {
					t.Fatalf("of %v: %v, error %d", places(l), fresh, int(e))
				}
			}
			ahead := b.fork(t)
			mustBeNil(Set(nil, b.free, top, l))
			mustBeNil(Set(b.s, nil, top, l))
			mustBeNil(Set(nil, nil, top, l))
			mustBeLike(t, b, ahead)
		}
	}
}

func TestSetRefusesPlaces(t *testing.T) {
	b := newBench(t, 1, 100)
	top := b.mustSet(t, api.Ref{}, b.changes(1, 0, 9, 63))
	for _, top := range slices.Concat(noTrees(), farRefs(), []api.Ref{top, {At: 1}}) {
		for _, at := range wrongPlaces() {
			for _, ats := range [][]int{{at}, {0, at}, {at, 0}, {5, at, 6}, {at, at}, {63, 0, at}, {0, 0, at}, {at, 0, 0}, {0, 1, 2, 3, 4, 5, at}} {
				b.mustNotSet(t, top, b.changes(2, ats...), api.ErrRange)
			}
		}
		for _, ats := range [][]int{{0, 0}, {1, 1}, {63, 63}, {1, 0}, {63, 0}, {63, 62}, {8, 7}, {0, 8, 1}, {0, 1, 2, 2}, {0, 0, 1}, {7, 15, 14}, {0, 63, 1, 62}, slices.Concat(all(), []int{63}), slices.Concat(all(), all())} {
			b.mustNotSet(t, top, b.changes(2, ats...), api.ErrArg)
		}
	}
}

// TestSetRefusesWithoutASpaceThatAnswers has errors of what it is asked come ahead of all others.
func TestSetRefusesWithoutASpaceThatAnswers(t *testing.T) {
	b := newBench(t, 1, 0)
	b.d.Fail(0, false)
	b.d.Beat()
	for _, top := range []api.Ref{{}, {At: 1}} {
		b.mustNotSet(t, top, b.changes(1, 64), api.ErrRange)
		b.mustNotSet(t, top, b.changes(1, 2, 1), api.ErrArg)
		b.mustNotSet(t, top, []Change{{At: 2}, {At: 2}}, api.ErrArg)
	}
	b.mustNotSet(t, api.Ref{}, b.changes(1, 1), api.ErrFull)
	b.mustNotSet(t, api.Ref{}, []Change{{At: 1}}, api.ErrFull)
	b.mustNotSet(t, api.Ref{At: 1}, []Change{{At: 1}}, api.ErrDown)
}

func TestSetOfNoChanges(t *testing.T) {
	b := newBench(t, 1, 5)
	top := b.mustSet(t, api.Ref{}, b.changes(1, 9))
	for range 2 {
		for _, top := range slices.Concat(noTrees(), farRefs(), []api.Ref{top, {At: 1}, {At: 5}, {At: 6}, {At: 1, Sum: api.Sum{9}}}) {
			for _, l := range [][]Change{nil, {}} {
				ahead := b.free.List()
				if same := b.mustSet(t, top, l); same != top || !slices.Equal(b.free.List(), ahead) {
					t.Errorf("%v became %v", top, same)
				}
			}
		}
		b.free.Mark(3)
		b.free.Mark(4) // the same where nothing is free, and where nobody answers
		b.d.Fail(0, false)
		b.d.Beat()
	}
}

func TestSetLaysInOrder(t *testing.T) {
	for per := 1; per <= 2; per++ {
		for _, ats := range few() {
			b := newBench(t, per, 200)
			l := b.changes(1, ats...)
			top := b.mustSet(t, api.Ref{}, l)
			b.mustTell(t, top, with(nil, l))
			b.mustTell(t, top, with(nil, l)) // again
			if n := need(ats); b.free.Used() != n || top.At != uint32(n) || b.d.Steps() != n {
				t.Fatalf("of %v %d used, the top at %d, %d steps, not %d", ats, b.free.Used(), top.At-1, b.d.Steps(), n)
			}
			for j, r := range refsRising(t, b, top, l) {
				if r.At != uint32(j+1) {
					t.Fatalf("of %v the cluster %d is laid at %d", ats, j, r.At-1)
				}
			}
		}
	}
}

func TestSetUponAnother(t *testing.T) {
	for i, first := range few() {
		for j, next := range few() {
			if (i+j)%5 != 0 { // some of all, as there are many
				continue
			}
			b := newBench(t, 1, 146)
			l, m := b.changes(1, first...), b.changes(2, next...)
			old := b.mustSet(t, api.Ref{}, l)
			fresh := b.mustSet(t, old, m)
			if fresh == old {
				t.Fatalf("%v and %v are one tree", first, next)
			}
			b.mustTell(t, old, with(nil, l))
			b.mustTell(t, fresh, with(with(nil, l), m))
		}
	}
}

// TestSetKeepsWhatHasNoChanges asks for the very refs of the old tree.
func TestSetKeepsWhatHasNoChanges(t *testing.T) {
	b := newBench(t, 1, 200)
	old := b.mustSet(t, api.Ref{}, b.changes(1, all()...))
	for _, ats := range few() {
		fresh := b.fork(t).mustSet(t, old, b.changes(2, ats...))
		if fresh.At != uint32(73+need(ats)) {
			t.Fatalf("of %v the top at %d", ats, fresh.At-1)
		}
	}
	fresh := b.mustSet(t, old, b.changes(2, 3, 60))
	was, _ := Refs(b.s, old)
	is, _ := Refs(b.s, fresh)
	for i := range was {
		changed := slices.Contains([]int{0, 1, 5, 64, 69}, i) // the top, both nodes, both clusters
		if (was[i] == is[i]) == changed {
			t.Errorf("the ref %d was %v, and is %v", i, was[i], is[i])
		}
	}
}

// TestSetTakesTheLowestFreeOnes has used ones between them.
func TestSetTakesTheLowestFreeOnes(t *testing.T) {
	for _, ats := range few() {
		b := newBench(t, 1, 400)
		for n := range uint32(400) {
			if n%3 != 1 && n != 60 {
				b.free.Mark(n)
			}
		}
		l := b.changes(1, ats...)
		top := b.mustSet(t, api.Ref{}, l)
		b.mustTell(t, top, with(nil, l))
	}
}

// TestSetOfAFullOne has fewer free ones than it takes.
func TestSetOfAFullOne(t *testing.T) {
	for _, ats := range few() {
		b := newBench(t, 1, 90)
		top := b.mustSet(t, api.Ref{}, b.changes(1, 0, 9, 63))
		for has := range need(ats) {
			if has > 8 && has%7 != 0 && has+1 < need(ats) { // some of all, as there are many
				continue
			}
			for _, from := range []api.Ref{{}, top} {
				own := b.fork(t)
				for n := uint32(7 + has); n < 90; n++ { // seven are the tree's
					own.free.Mark(n)
				}
				own.mustNotSet(t, from, own.changes(2, ats...), api.ErrFull)
				if own.free.Free() != has {
					t.Fatalf("of %v %d are free", ats, own.free.Free())
				}
			}
		}
	}
}

// TestSetWhereThePowerFails has it fail in each of the steps, done or not.
func TestSetWhereThePowerFails(t *testing.T) {
	for _, ats := range few()[:18] {
		b := newBench(t, 1, 100)
		top := b.mustSet(t, api.Ref{}, b.changes(1, 0, 9, 63))
		b.d.Sync()
		for at := range need(ats) {
			for _, done := range []bool{false, true} {
				own := b.fork(t)
				own.d.Fail(at, done)
				own.mustNotSet(t, top, own.changes(2, ats...), api.ErrDown)
				own.d.Start([]byte{0xaa, 0x55})
				own.mustTell(t, top, with(nil, b.changes(1, 0, 9, 63)))
				own.mustSet(t, top, own.changes(2, ats...)) // nothing is lost by it
				last := b.fork(t)
				for n := uint32(7 + at + 1); n < 100; n++ { // what would be taken next is not free, which is not seen any more
					last.free.Mark(n)
				}
				last.d.Fail(at, done)
				last.mustNotSet(t, top, last.changes(2, ats...), api.ErrDown)
			}
		}
	}
}

// TestSetOfWrongData has data that are no cluster at each of the places.
func TestSetOfWrongData(t *testing.T) {
	for per := 1; per <= 2; per++ {
		b := newBench(t, per, 100)
		top := b.mustSet(t, api.Ref{}, b.changes(1, 0, 9, 63))
		for _, ats := range [][]int{{0}, {63}, {0, 1, 8, 9}, {7, 8, 63}} {
			for i := range ats {
				for _, size := range []int{0, 1, 511, 513, 512*per - 1, 512*per + 1, 1536, 512 * (3 - per)} {
					l := b.changes(2, ats...)
					l[i].Data = make([]byte, size)
					for _, from := range []api.Ref{{}, top} {
						b.mustNotSet(t, from, l, api.ErrArg)
					}
				}
			}
		}
		b.mustNotSet(t, top, []Change{{}}, api.ErrArg)
	}
}

// TestSetWhereTheFileEnds has free clusters that the device has no room for, and such as the file does not reach.
func TestSetWhereTheFileEnds(t *testing.T) {
	for room := range 9 {
		b := newBench(t, 1, room)
		own := onto(t, b.d, alloc.New(100), 1)
		l := own.changes(1, 0, 1, 2, 3, 8) // eight clusters
		if room < 8 {
			own.mustNotSet(t, api.Ref{}, l, api.ErrFull)
			continue
		}
		own.mustTell(t, own.mustSet(t, api.Ref{}, l), with(nil, l))
	}
	b := newBench(t, 1, 10)
	b.d.Load(make([]byte, 4096))
	for n := range uint32(3) {
		b.free.Mark(n)
	}
	b.mustNotSet(t, api.Ref{}, b.changes(1, 4), api.ErrTampered)
}

// TestSetReadsNoMoreThanItNeeds turns each cluster of a tree: data are not read, and nodes without changes neither.
func TestSetReadsNoMoreThanItNeeds(t *testing.T) {
	b := newBench(t, 1, 200)
	was := b.changes(1, 0, 3, 7, 8, 20, 21, 56, 63)
	top := b.mustSet(t, api.Ref{}, was)
	list, _ := Refs(b.s, top)
	upper, _ := b.s.Node(top)
	for _, r := range list {
		b.turn(r.At, 30)
		for _, ats := range few() {
			want := api.OK
			if read := func(at int) bool { return upper[at/8] == r }; r == top || slices.ContainsFunc(ats, read) {
				want = api.ErrTampered
			}
			own := b.fork(t)
			if _, e := own.set(t, top, own.changes(2, ats...)); e != want {
				t.Fatalf("with the cluster %d turned, %v: error %d", r.At-1, ats, int(e))
			}
		}
		b.turn(r.At, 30)
	}
}

// TestSetReadsANodeWhereItComesToIt has old trees whose clusters are not marked, so that what is laid is laid over them.
func TestSetReadsANodeWhereItComesToIt(t *testing.T) {
	seen := map[api.Errno]int{}
	for _, first := range [][]int{{0}, {0, 8}, {3, 60}, {0, 8, 16, 24, 32, 40, 48, 56}, {5, 6, 7, 8, 9, 10}} {
		for _, next := range few() {
			b := newBench(t, 1, 100)
			for n := range uint32(3) {
				b.free.Mark(n)
			}
			old := b.mustSet(t, api.Ref{}, b.changes(1, first...))
			for from := range uint32(4) {
				own := onto(t, b.d.Clone(), alloc.New(100), 1)
				for n := range from {
					own.free.Mark(n)
				}
				_, e := own.set(t, old, own.changes(2, next...))
				seen[e]++
			}
		}
	}
	if len(seen) != 2 || seen[api.OK] < 20 || seen[api.ErrTampered] < 20 {
		t.Errorf("not both: %v", seen)
	}
}

func TestSetOfTreesThatAreNot(t *testing.T) {
	b := newBench(t, 1, 100)
	b.mustSet(t, api.Ref{}, b.changes(1, 0, 9, 63))
	for _, ats := range few() {
		for _, top := range farRefs() {
			b.mustNotSet(t, top, b.changes(2, ats...), api.ErrArg)
		}
		for _, top := range []api.Ref{{At: 1}, {At: 1000, Sum: api.Sum{1}}, {At: 65536}} {
			b.mustNotSet(t, top, b.changes(2, ats...), api.ErrTampered)
		}
		for _, top := range noTrees() { // the Sum of no tree does not count
			own := b.fork(t)
			own.mustTell(t, own.mustSet(t, top, own.changes(2, ats...)), with(nil, own.changes(2, ats...)))
		}
	}
	for _, top := range newBench(t, 2, 40).oddTrees(t) {
		for _, ats := range few() {
			own := newBench(t, 2, 140)
			own.oddTrees(t)
			own.set(t, top, own.changes(2, ats...))
		}
	}
}

// TestSetTellsTheFirstError has faults of all kinds at once.
func TestSetTellsTheFirstError(t *testing.T) {
	seen := map[api.Errno]int{}
	r := rand.New(rand.NewSource(7))
	for round := range 300 {
		b := newBench(t, 1, 60)
		top := b.mustSet(t, api.Ref{}, b.changes(1, 0, 9, 10, 40, 63))
		l := b.randomChanges(r, round)
		for n := uint32(11 + r.Intn(49)); n < 60; n++ {
			b.free.Mark(n)
		}
		if r.Intn(2) == 0 {
			b.d.Fail(r.Intn(20), r.Intn(2) == 0)
		}
		if r.Intn(2) == 0 {
			b.turn(uint32(1+r.Intn(11)), 5)
		}
		if len(l) > 0 && r.Intn(2) == 0 {
			l[r.Intn(len(l))].Data = b.data(5)[:511]
		}
		_, e := b.set(t, top, l)
		seen[e]++
	}
	for _, e := range []api.Errno{api.OK, api.ErrFull, api.ErrDown, api.ErrTampered, api.ErrArg} {
		if seen[e] < 10 {
			t.Errorf("error %d is seen but %d times", int(e), seen[e])
		}
	}
}

// TestSetHoldsWhatItTook asks that what was used ahead stays so where something fails, and what was free is free.
func TestSetHoldsWhatItTook(t *testing.T) {
	b := newBench(t, 1, 100)
	top := b.mustSet(t, api.Ref{}, b.changes(1, 0, 9, 63))
	ahead := b.free.List()
	l := b.changes(2, 0, 1, 2)
	l[2].Data = nil
	for range 3 {
		b.mustNotSet(t, top, l, api.ErrArg)
	}
	b.turn(top.At, 1)
	for range 3 {
		b.mustNotSet(t, top, b.changes(2, 0), api.ErrTampered)
	}
	if !slices.Equal(b.free.List(), ahead) {
		t.Errorf("%v are used", b.free.List())
	}
}

// P19.3: Refs.

func TestRefsErrors(t *testing.T) {
	b := newBench(t, 1, 100)
	top := b.mustSet(t, api.Ref{}, b.changes(1, 0, 9, 63))
	for _, top := range slices.Concat(noTrees(), farRefs(), []api.Ref{top, {At: 1}}) {
		if list, e := Refs(nil, top); list != nil || e != api.ErrNil {
			t.Errorf("of nil: %v, error %d", list, int(e))
		}
	}
	for _, top := range farRefs() {
		if list, e := Refs(b.s, top); list != nil || e != api.ErrArg {
			t.Errorf("at %d: %v, error %d", top.At, list, int(e))
		}
	}
	if list, e := Refs(b.s, api.Ref{At: 1}); list != nil || e != api.ErrTampered {
		t.Errorf("of data: %v, error %d", list, int(e))
	}
	for _, top := range noTrees() {
		if list, e := Refs(b.s, top); len(list) != 0 || e != api.OK {
			t.Errorf("of nothing: %v, error %d", list, int(e))
		}
	}
	b.d.Fail(0, false)
	b.d.Beat()
	if list, e := Refs(b.s, top); list != nil || e != api.ErrDown {
		t.Errorf("down: %v, error %d", list, int(e))
	}
}

func TestRefsInOrder(t *testing.T) {
	b := newBench(t, 1, 20)
	top := b.mustSet(t, api.Ref{}, b.changes(1, 0, 9, 10, 63)) // data 0, node 1; data 2, 3, node 4; data 5, node 6; top 7
	list, e := Refs(b.s, top)
	var ats []uint32
	for _, r := range list {
		ats = append(ats, r.At-1)
	}
	if e != api.OK || !slices.Equal(ats, []uint32{7, 1, 0, 4, 2, 3, 6, 5}) {
		t.Errorf("%v, error %d", ats, int(e))
	}
	for _, ats := range few() {
		b := newBench(t, 2, 80)
		top := b.mustSet(t, api.Ref{}, b.changes(1, ats...))
		if list, e := mustBeRefs(t, b, top); e != api.OK || len(list) != b.free.Used() || list[0] != top {
			t.Errorf("of %v %d refs, error %d", ats, len(list), int(e))
		}
	}
}

// TestRefsReadNodesAlone turns each cluster of a tree.
func TestRefsReadNodesAlone(t *testing.T) {
	b := newBench(t, 1, 200)
	top := b.mustSet(t, api.Ref{}, b.changes(1, 0, 3, 7, 8, 20, 21, 56, 63))
	list, _ := mustBeRefs(t, b, top)
	upper, _ := b.s.Node(top)
	for _, r := range list {
		b.turn(r.At, 100)
		got, e := mustBeRefs(t, b, top)
		isNode := r == top || slices.Contains(upper[:], r)
		if isNode && (e != api.ErrTampered || got != nil) || !isNode && (e != api.OK || !slices.Equal(got, list)) {
			t.Errorf("with the cluster %d turned: %v, error %d", r.At-1, got, int(e))
		}
		b.turn(r.At, 100)
	}
}

func TestRefsOfWhatNoSetLays(t *testing.T) {
	b := newBench(t, 2, 40)
	for _, top := range b.oddTrees(t) {
		mustBeRefs(t, b, top)
	}
}

// P19.4: the fresh tree and the old one.

func TestRandomTreesAgainstRows(t *testing.T) {
	type kept struct {
		top  api.Ref
		rows map[int][]byte
	}
	r := rand.New(rand.NewSource(19))
	for round := range 6 {
		b := newBench(t, 1+round%2, 200)
		trees := []kept{{}}
		for step := range 15 {
			from := trees[r.Intn(len(trees))]
			l := b.randomChanges(r, 1000*round+step)
			ahead := b.free.List()
			fresh, e := b.set(t, from.top, l)
			if e != api.OK && (e != api.ErrFull || !slices.Equal(b.free.List(), ahead)) {
				t.Fatalf("of %v error %d", places(l), int(e))
			}
			if e == api.OK {
				trees = append(trees, kept{fresh, with(from.rows, l)})
			}
			if r.Intn(4) == 0 {
				b.d.Sync()
			}
			one := trees[r.Intn(len(trees))]
			b.mustTell(t, one.top, one.rows)
		}
		for _, one := range trees {
			b.mustTell(t, one.top, one.rows)
		}
	}
}

// TestTreesThatShareClusters frees what the old tree alone has, and goes on.
func TestTreesThatShareClusters(t *testing.T) {
	b := newBench(t, 1, 100)
	var top api.Ref
	var rows map[int][]byte
	r := rand.New(rand.NewSource(4))
	for step := range 40 {
		l := b.randomChanges(r, step)
		fresh, e := b.set(t, top, l)
		if e == api.ErrFull {
			l = l[:min(len(l), 1)]
			fresh = b.mustSet(t, top, l)
		}
		rows = with(rows, l)
		b.mustTell(t, fresh, rows)
		old, _ := Refs(b.s, top)
		held, _ := Refs(b.s, fresh)
		for _, was := range old {
			if !slices.Contains(held, was) {
				b.free.Clear(was.At - 1)
			}
		}
		if top = fresh; b.free.Used() != len(held) {
			t.Fatalf("%d are used, %d named", b.free.Used(), len(held))
		}
	}
}

// The rules of the whole.

func TestAnswersShareNoMemory(t *testing.T) {
	b := newBench(t, 1, 100)
	l := b.changes(1, 0, 9, 10, 63)
	top := b.mustSet(t, api.Ref{}, l)
	rows := with(nil, l)
	for _, c := range l {
		for range 2 {
			got, e := Get(b.s, top, c.At)
			if e != api.OK || !bytes.Equal(got, rows[c.At]) {
				t.Fatalf("the cluster %d: error %d", c.At, int(e))
			}
			spoil(got[:cap(got)])
		}
		spoil(c.Data[:cap(c.Data)]) // what was laid does not hang on it any more
	}
	want, _ := slowRefs(b.s, top)
	for range 2 {
		list, e := Refs(b.s, top)
		if e != api.OK || !slices.Equal(list, want) {
			t.Fatalf("%v, error %d", list, int(e))
		}
		clear(list[:cap(list)])
	}
	b.mustTell(t, top, rows)
}

// TestSetLeavesTheChangesAlone has data with spare room, which is not laid and not written.
func TestSetLeavesTheChangesAlone(t *testing.T) {
	b := newBench(t, 1, 100)
	whole := slices.Concat(b.data(1), b.data(2), b.data(3))
	l := []Change{{At: 3, Data: whole[:512]}, {At: 4, Data: whole[512:1024]}, {At: 60, Data: whole[:512]}, {At: 61, Data: whole[5:517]}}
	spare := append(slices.Clone(l), Change{At: 62, Data: b.data(4)})
	was := bytes.Clone(whole)
	top := b.mustSet(t, api.Ref{}, spare[:4])
	if !bytes.Equal(whole, was) || spare[4].At != 62 || !bytes.Equal(spare[4].Data, b.data(4)) {
		t.Error("something was written")
	}
	b.mustTell(t, top, with(nil, l))
}

// refAt tells a ref of a tree by its place.
func refAt(t *testing.T, b bench, top api.Ref, i int) api.Ref {
	t.Helper()
	list, e := Refs(b.s, top)
	if e != api.OK || i >= len(list) {
		t.Fatalf("%d refs, error %d", len(list), int(e))
	}
	return list[i]
}

// refsRising tells the refs of a tree in the order in which they are laid.
func refsRising(t *testing.T, b bench, top api.Ref, l []Change) []api.Ref {
	t.Helper()
	var rising []api.Ref
	upper, e := b.s.Node(top)
	for i, c := range l {
		lower, f := b.s.Node(upper[c.At/8])
		if e != api.OK || f != api.OK {
			t.Fatalf("errors %d, %d", int(e), int(f))
		}
		rising = append(rising, lower[c.At%8])
		if i+1 == len(l) || l[i+1].At/8 != c.At/8 {
			rising = append(rising, upper[c.At/8])
		}
	}
	return append(rising, top)
}

// spoil turns all bytes.
func spoil(b []byte) {
	for i := range b {
		b[i] ^= 0xff
	}
}

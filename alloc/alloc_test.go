package alloc

import (
	"math"
	"math/rand"
	"slices"
	"testing"

	"reliquary/api"
)

// P17.1: the chapter's example.

func TestExample(t *testing.T) {
	s := New(3)
	take := func(want uint32, no api.Errno) {
		t.Helper()
		if n, e := s.Take(); n != want || e != no {
			t.Errorf("Take = %d, error %d, not %d, error %d", n, int(e), want, int(no))
		}
	}
	take(0, api.OK)
	take(1, api.OK)
	if e := s.Clear(0); e != api.OK {
		t.Errorf("Clear(0) = error %d", int(e))
	}
	take(0, api.OK)
	take(2, api.OK)
	take(0, api.ErrFull)
	if e := s.Mark(3); e != api.ErrRange {
		t.Errorf("Mark(3) = error %d", int(e))
	}
	if e := s.Mark(1); e != api.ErrThere {
		t.Errorf("Mark(1) = error %d", int(e))
	}
}

// P17.1: New.

func TestNewHasNoneUsed(t *testing.T) {
	for _, total := range append(someTotals(), greatTotals()...) {
		s := New(total)
		if s == nil || s.Total() != total {
			t.Fatalf("New(%d) has %d", total, s.Total())
		}
		mustBe(t, s, slowNew(total))
	}
}

func TestNewBringsTotalIn(t *testing.T) {
	for total, want := range wrongTotals() {
		s := New(total)
		if s == nil || s.Total() != want {
			t.Fatalf("New(%d) has %d, not %d", total, s.Total(), want)
		}
		mustBe(t, s, slowNew(total))
		if e := s.Mark(uint32(want)); e != api.ErrRange {
			t.Errorf("of New(%d) Mark(%d) = error %d", total, want, int(e))
		}
		if last := uint32(want) - 1; want > 0 && s.Mark(last) != api.OK {
			t.Errorf("of New(%d) Mark(%d) has an error", total, last)
		}
	}
}

func TestNoneThere(t *testing.T) {
	for _, total := range []int{0, -1, math.MinInt} {
		s, slow := New(total), slowNew(total)
		for _, n := range beyond(0) {
			mustMark(t, s, slow, n)
			mustClear(t, s, slow, n)
		}
		mustTake(t, s, slow)
		mustBe(t, s, slow)
		if f := s.Fork(); f == nil || f == s {
			t.Error("not a set of its own")
		} else {
			mustBe(t, f, slow)
		}
	}
}

// P17.1: Mark, Has.

func TestMarkEachAlone(t *testing.T) {
	for _, total := range someTotals() {
		for n := range uint32(min(total, 200)) {
			s, slow := New(total), slowNew(total)
			mustMark(t, s, slow, n)
			if !s.Has(n) {
				t.Fatalf("of %d %d is not used", total, n)
			}
			mustBe(t, s, slow)
			mustMark(t, s, slow, n) // ErrThere, and it stays used
			mustBe(t, s, slow)
		}
	}
}

func TestMarkAtTheEnds(t *testing.T) {
	for _, total := range greatTotals() {
		s, slow := New(total), slowNew(total)
		for _, n := range []uint32{0, 63, 64, 255, 256, 32767, uint32(total) - 1, uint32(total), uint32(total) - 1} {
			mustMark(t, s, slow, n)
		}
		mustBe(t, s, slow)
	}
}

func TestMarkUsed(t *testing.T) {
	for _, total := range someTotals() {
		s, slow := full(t, total)
		for n := range uint32(total) {
			if e := s.Mark(n); e != api.ErrThere {
				t.Fatalf("of %d Mark(%d) = error %d", total, n, int(e))
			}
		}
		mustBe(t, s, slow)
	}
}

func TestMarkBeyond(t *testing.T) {
	for _, total := range append(someTotals(), greatTotals()...) {
		s, slow := New(total), slowNew(total)
		for _, n := range beyond(total) {
			if e := s.Mark(n); e != api.ErrRange {
				t.Fatalf("of %d Mark(%d) = error %d", total, n, int(e))
			}
		}
		mustBe(t, s, slow)
	}
}

// P17.1: Clear.

func TestClearEachAlone(t *testing.T) {
	for _, total := range someTotals() {
		s, slow := full(t, total)
		for n := range uint32(min(total, 200)) {
			mustClear(t, s, slow, n)
			if s.Has(n) {
				t.Fatalf("of %d %d is used", total, n)
			}
			mustBe(t, s, slow)
			mustClear(t, s, slow, n) // ErrNone, and it stays free
			mustBe(t, s, slow)
			mustMark(t, s, slow, n)
		}
	}
}

func TestClearFree(t *testing.T) {
	for _, total := range someTotals() {
		s, slow := New(total), slowNew(total)
		for n := range uint32(total) {
			if e := s.Clear(n); e != api.ErrNone {
				t.Fatalf("of %d Clear(%d) = error %d", total, n, int(e))
			}
		}
		mustBe(t, s, slow)
	}
}

func TestClearBeyond(t *testing.T) {
	for _, total := range someTotals() {
		for _, used := range []bool{false, true} {
			s, slow := some(t, total, func(uint32) bool { return used })
			for _, n := range beyond(total) {
				if e := s.Clear(n); e != api.ErrRange {
					t.Fatalf("of %d Clear(%d) = error %d", total, n, int(e))
				}
			}
			mustBe(t, s, slow)
		}
	}
}

// P17.1: Take.

func TestTakeAll(t *testing.T) {
	for _, total := range someTotals() {
		s, slow := New(total), slowNew(total)
		for n := range uint32(total) {
			got, e := s.Take()
			if got != n || e != api.OK || slow.mark(n) != api.OK {
				t.Fatalf("of %d Take = %d, error %d, not %d", total, got, int(e), n)
			}
			if n < 200 {
				mustBe(t, s, slow)
			}
		}
		for range 3 { // and none comes back by asking
			if n, e := s.Take(); n != 0 || e != api.ErrFull {
				t.Fatalf("of %d Take = %d, error %d", total, n, int(e))
			}
			mustBe(t, s, slow)
		}
	}
}

func TestTakeAllOfTheGreatest(t *testing.T) {
	for _, total := range []int{65535, 65536, 70000} {
		s := New(total)
		for n := range uint32(min(total, 65536)) {
			if got, e := s.Take(); got != n || e != api.OK {
				t.Fatalf("of %d Take = %d, error %d, not %d", total, got, int(e), n)
			}
		}
		if n, e := s.Take(); n != 0 || e != api.ErrFull || s.Free() != 0 || s.Used() != min(total, 65536) {
			t.Fatalf("of %d Take = %d, error %d; %d used, %d free", total, n, int(e), s.Used(), s.Free())
		}
	}
}

func TestTakeTheOneThatIsFree(t *testing.T) {
	for _, total := range someTotals() {
		s, slow := full(t, total)
		for n := uint32(total); n > 0; n-- {
			mustClear(t, s, slow, n-1)
			if got, e := s.Take(); got != n-1 || e != api.OK || slow.mark(n-1) != api.OK {
				t.Fatalf("of %d Take = %d, error %d, not %d", total, got, int(e), n-1)
			}
			if got, e := s.Take(); got != 0 || e != api.ErrFull {
				t.Fatalf("of %d Take = %d, error %d", total, got, int(e))
			}
		}
		mustBe(t, s, slow)
	}
}

func TestTakeTheLowest(t *testing.T) {
	for _, total := range someTotals() {
		for _, picks := range []func(n uint32) bool{
			func(n uint32) bool { return n%2 == 0 },
			func(n uint32) bool { return n%2 == 1 },
			func(n uint32) bool { return n%64 != 63 },
			func(n uint32) bool { return n%64 != 0 },
			func(n uint32) bool { return n/64%2 == 0 },
			func(n uint32) bool { return n/64%2 == 1 },
			func(n uint32) bool { return int(n) < total-1 },
			func(n uint32) bool { return n > 0 },
		} {
			s, slow := some(t, total, picks)
			mustBe(t, s, slow)
			for range s.Free() + 2 {
				mustTake(t, s, slow)
			}
			mustBe(t, s, slow)
		}
	}
}

func TestTakeWhatWasCleared(t *testing.T) {
	s, slow := full(t, 200)
	for _, n := range []uint32{199, 64, 63, 128, 0, 127, 5} { // the lowest one comes first, not the last one that was cleared
		mustClear(t, s, slow, n)
	}
	for _, want := range []uint32{0, 5, 63, 64} {
		if n, e := s.Take(); n != want || e != api.OK || slow.mark(n) != api.OK {
			t.Fatalf("Take = %d, error %d, not %d", n, int(e), want)
		}
	}
	mustClear(t, s, slow, 3) // below those that were taken
	for range 5 {
		mustTake(t, s, slow)
	}
	mustBe(t, s, slow)
}

func TestWhatIsRefusedChangesNothing(t *testing.T) {
	s, slow := some(t, 100, func(n uint32) bool { return n%3 == 0 })
	for n := range uint32(100) {
		if n%3 == 0 {
			mustMark(t, s, slow, n)
		} else {
			mustClear(t, s, slow, n)
		}
	}
	for _, n := range beyond(100) {
		mustMark(t, s, slow, n)
		mustClear(t, s, slow, n)
	}
	mustBe(t, s, slow)
	mustTake(t, s, slow)
	mustBe(t, s, slow)
}

// P17.1: Used, Free, Total, List.

func TestCounts(t *testing.T) {
	s := New(130)
	for i, n := range []uint32{129, 0, 64, 63, 128, 1, 127, 65} {
		if s.Mark(n) != api.OK || s.Used() != i+1 || s.Free() != 129-i || s.Total() != 130 {
			t.Fatalf("%d used, %d free, %d in all", s.Used(), s.Free(), s.Total())
		}
	}
	if list := s.List(); !slices.Equal(list, []uint32{0, 1, 63, 64, 65, 127, 128, 129}) {
		t.Errorf("the list %v", list)
	}
	for i, n := range []uint32{64, 129, 0} {
		if s.Clear(n) != api.OK || s.Used() != 7-i || s.Free() != 123+i || s.Total() != 130 {
			t.Fatalf("%d used, %d free, %d in all", s.Used(), s.Free(), s.Total())
		}
	}
	if list := s.List(); !slices.Equal(list, []uint32{1, 63, 65, 127, 128}) {
		t.Errorf("the list %v", list)
	}
}

func TestListOfAll(t *testing.T) {
	for _, total := range append(someTotals(), greatTotals()...) {
		s, slow := full(t, total)
		mustBe(t, s, slow)
	}
}

func TestListIsNewMemory(t *testing.T) {
	s, slow := some(t, 100, func(n uint32) bool { return n%5 != 2 })
	one, other := s.List(), s.List()
	spoil(one)
	if !slices.Equal(other, slow.list()) {
		t.Fatal("two lists share memory")
	}
	mustBe(t, s, slow)
	f := s.Fork()
	spoil(f.List())
	spoil(s.List())
	mustBe(t, s, slow)
	mustBe(t, f, slow)
}

// spoil writes over a list, and over its spare room.
func spoil(list []uint32) {
	list = list[:cap(list)]
	for i := range list {
		list[i] = 77
	}
}

func TestListStaysAsItWasTold(t *testing.T) {
	s, slow := some(t, 100, func(n uint32) bool { return n < 50 })
	told, want := s.List(), slow.list()
	for n := range uint32(50) {
		mustClear(t, s, slow, n)
		mustMark(t, s, slow, n+50)
	}
	if !slices.Equal(told, want) {
		t.Error("a list changed with its set")
	}
	mustBe(t, s, slow)
}

// P17.1: Fork.

func TestForkIsAsItsSet(t *testing.T) {
	for _, total := range append(someTotals(), 65535, 65536, 70000, -3) {
		s, slow := some(t, total, func(n uint32) bool { return n%7 != 3 })
		f := s.Fork()
		if f == nil || f == s {
			t.Fatalf("of %d: not a set of its own", total)
		}
		mustBe(t, f, slow)
		mustBe(t, s, slow)
	}
}

func TestForkIsASetOfItsOwn(t *testing.T) {
	for _, total := range someTotals() {
		s, slow := some(t, total, func(n uint32) bool { return n%7 != 3 })
		f, slowFork := s.Fork(), slow.fork()
		for n := range uint32(total) {
			switch n % 3 {
			case 0:
				mustMark(t, f, slowFork, n)
				mustClear(t, s, slow, n)
			case 1:
				mustClear(t, f, slowFork, n)
				mustMark(t, s, slow, n)
			}
		}
		mustTake(t, f, slowFork)
		mustBe(t, s, slow)
		mustBe(t, f, slowFork)
		mustTake(t, s, slow)
		mustTake(t, s, slow)
		mustBe(t, f, slowFork)
		mustBe(t, s, slow)
	}
}

func TestForkOfAFork(t *testing.T) {
	s, slow := some(t, 70, func(n uint32) bool { return n < 60 })
	f, slowFork := s.Fork(), slow.fork()
	mustTake(t, f, slowFork)
	ff, slowLast := f.Fork(), slowFork.fork()
	mustTake(t, ff, slowLast)
	mustClear(t, ff, slowLast, 2)
	mustBe(t, s, slow)
	mustBe(t, f, slowFork)
	mustBe(t, ff, slowLast)
	mustClear(t, s, slow, 5)
	mustTake(t, f, slowFork)
	mustBe(t, s, slow)
	mustBe(t, f, slowFork)
	mustBe(t, ff, slowLast)
}

// P17.1, and the rules of the whole: a nil set.

func TestNilSet(t *testing.T) {
	var s *Set
	for _, n := range append(beyond(0), 5, 63, 64, 65535) {
		if e := s.Mark(n); e != api.ErrNil {
			t.Fatalf("Mark(%d) = error %d", n, int(e))
		}
		if e := s.Clear(n); e != api.ErrNil {
			t.Fatalf("Clear(%d) = error %d", n, int(e))
		}
		if s.Has(n) {
			t.Fatalf("Has(%d)", n)
		}
	}
	if n, e := s.Take(); n != 0 || e != api.ErrNil {
		t.Errorf("Take = %d, error %d", n, int(e))
	}
	if s.Used() != 0 || s.Free() != 0 || s.Total() != 0 || len(s.List()) != 0 || s.Fork() != nil {
		t.Error("nil has something")
	}
}

// The rules of the whole: two sets have nothing in common.

func TestSetsHaveNothingInCommon(t *testing.T) {
	a, slowA := New(70), slowNew(70)
	b, slowB := New(70), slowNew(70)
	c, slowC := New(3), slowNew(3)
	for range 66 {
		mustTake(t, a, slowA)
	}
	mustMark(t, b, slowB, 1)
	mustTake(t, c, slowC)
	mustClear(t, a, slowA, 64)
	mustTake(t, b, slowB)
	mustTake(t, b, slowB)
	mustBe(t, a, slowA)
	mustBe(t, b, slowB)
	mustBe(t, c, slowC)
}

// P17.2.

func TestNoneIsTakenTwice(t *testing.T) {
	chance := rand.New(rand.NewSource(17))
	for _, total := range someTotals() {
		s, taken := New(total), map[uint32]bool{}
		for range 3 * total {
			n, e := s.Take()
			switch {
			case e == api.ErrFull:
				if len(taken) != total {
					t.Fatalf("of %d %d are taken, and none is free", total, len(taken))
				}
			case e != api.OK || taken[n] || int(n) >= total:
				t.Fatalf("of %d Take = %d, error %d", total, n, int(e))
			default:
				taken[n] = true
			}
			if again := uint32(chance.Intn(total)); chance.Intn(3) == 0 {
				if (s.Clear(again) == api.OK) != taken[again] {
					t.Fatalf("of %d Clear(%d)", total, again)
				}
				delete(taken, again)
			}
			if s.Used() != len(taken) || s.Used()+s.Free() != s.Total() || s.Total() != total {
				t.Fatalf("%d used, %d free, %d in all; %d taken", s.Used(), s.Free(), s.Total(), len(taken))
			}
		}
	}
}

func TestLikeTheSlowWay(t *testing.T) {
	chance := rand.New(rand.NewSource(171))
	for _, total := range append(someTotals(), -1) {
		s, slow := New(total), slowNew(total)
		f, slowFork := s.Fork(), slow.fork()
		for range 2000 {
			n := uint32(chance.Intn(max(total, 0) + 3))
			if chance.Intn(50) == 0 {
				n = chance.Uint32()
			}
			switch chance.Intn(6) {
			case 0, 1:
				mustTake(t, s, slow)
			case 2:
				mustMark(t, s, slow, n)
			case 3, 4:
				mustClear(t, s, slow, n)
			default:
				if chance.Intn(20) == 0 {
					mustBe(t, f, slowFork)
					f, slowFork = s.Fork(), slow.fork()
				}
				if chance.Intn(20) == 0 {
					s, slow, f, slowFork = f, slowFork, s, slow
				}
			}
			if chance.Intn(10) == 0 {
				mustBe(t, s, slow)
			}
		}
		mustBe(t, s, slow)
		mustBe(t, f, slowFork)
	}
}

func BenchmarkTakeTheLast(b *testing.B) {
	s := New(65536)
	for n := range uint32(65535) {
		s.Mark(n)
	}
	for b.Loop() {
		s.Take()
		s.Clear(65535)
	}
}

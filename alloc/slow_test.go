package alloc

import (
	"maps"
	"math"
	"slices"
	"testing"

	"reliquary/api"
)

// slowSet is a set as the chapter's words say: how many clusters there are, and the numbers of the used ones.
type slowSet struct {
	total int
	used  map[uint32]bool
}

func slowNew(total int) *slowSet {
	switch {
	case total < 0:
		total = 0
	case total > 65536:
		total = 65536
	}
	return &slowSet{total: total, used: map[uint32]bool{}}
}

func (s *slowSet) there(n uint32) bool { return int64(n) <= int64(s.total)-1 }

func (s *slowSet) mark(n uint32) api.Errno {
	switch {
	case !s.there(n):
		return api.ErrRange
	case s.used[n]:
		return api.ErrThere
	}
	s.used[n] = true
	return api.OK
}

func (s *slowSet) clear(n uint32) api.Errno {
	switch {
	case !s.there(n):
		return api.ErrRange
	case !s.used[n]:
		return api.ErrNone
	}
	delete(s.used, n)
	return api.OK
}

func (s *slowSet) take() (uint32, api.Errno) {
	for n := range uint32(s.total) {
		if !s.used[n] {
			s.used[n] = true
			return n, api.OK
		}
	}
	return 0, api.ErrFull
}

func (s *slowSet) list() []uint32 { return slices.Sorted(maps.Keys(s.used)) }

func (s *slowSet) fork() *slowSet { return &slowSet{total: s.total, used: maps.Clone(s.used)} }

// someTotals are such as stand near the edges of words, and of what a set may have.
func someTotals() []int {
	return []int{0, 1, 2, 3, 7, 8, 31, 32, 33, 62, 63, 64, 65, 66, 127, 128, 129, 191, 192, 193, 1000}
}

// greatTotals are edges that take longer.
func greatTotals() []int {
	return []int{32767, 32768, 32769, 65472, 65473, 65534, 65535, 65536}
}

// wrongTotals are brought to 0 or to 65536. Some look right when they are cut to 16 or 32 bits.
func wrongTotals() map[int]int {
	wrong := map[int]int{}
	for _, total := range []int{-1, -2, -5, -63, -64, -65, -65535, -65536, -65537, math.MinInt32, math.MinInt, math.MinInt + 1, math.MinInt + 5, -1<<32 + 5} {
		wrong[total] = 0
	}
	for _, total := range []int{65537, 65538, 65600, 70000, 131072, 131073, 1<<20 + 5, math.MaxInt32, 1 << 32, 1<<32 + 5, math.MaxInt - 64, math.MaxInt - 63, math.MaxInt - 1, math.MaxInt} {
		wrong[total] = 65536
	}
	return wrong
}

// beyond are numbers of which there is no cluster. Some look right when they are cut to 8, 16 or 31 bits.
func beyond(total int) []uint32 {
	n := uint32(total)
	return []uint32{n, n + 1, n + 2, n + 63, n + 64, n + 65, n + 256, 65536, 65536 + n, 65537, 65600, 131072, 1 << 24, 1 << 31, 1<<31 + 1, 1<<31 + 63, math.MaxUint32 - 63, math.MaxUint32 - 1, math.MaxUint32}
}

// mustBe asks what a set tells, twice: asking changes nothing.
func mustBe(t *testing.T, s *Set, slow *slowSet) {
	t.Helper()
	used := slow.list()
	for range 2 {
		if s.Total() != slow.total || s.Used() != len(used) || s.Free() != slow.total-len(used) {
			t.Fatalf("%d used, %d free, %d in all, not %d, %d and %d", s.Used(), s.Free(), s.Total(), len(used), slow.total-len(used), slow.total)
		}
		if list := s.List(); !slices.Equal(list, used) {
			t.Fatalf("of %d the list %v, not %v", slow.total, list, used)
		}
		for n := range uint32(slow.total) {
			if s.Has(n) != slow.used[n] {
				t.Fatalf("of %d Has(%d) = %v", slow.total, n, s.Has(n))
			}
		}
		for _, n := range beyond(slow.total) {
			if s.Has(n) {
				t.Fatalf("of %d Has(%d)", slow.total, n)
			}
		}
	}
}

// mustMark marks in both sets.
func mustMark(t *testing.T, s *Set, slow *slowSet, n uint32) {
	t.Helper()
	if e, want := s.Mark(n), slow.mark(n); e != want {
		t.Fatalf("of %d Mark(%d) = error %d, not %d", slow.total, n, int(e), int(want))
	}
}

// mustClear clears in both sets.
func mustClear(t *testing.T, s *Set, slow *slowSet, n uint32) {
	t.Helper()
	if e, want := s.Clear(n), slow.clear(n); e != want {
		t.Fatalf("of %d Clear(%d) = error %d, not %d", slow.total, n, int(e), int(want))
	}
}

// mustTake takes from both sets.
func mustTake(t *testing.T, s *Set, slow *slowSet) {
	t.Helper()
	n, e := s.Take()
	if want, no := slow.take(); n != want || e != no {
		t.Fatalf("of %d Take = %d, error %d, not %d, error %d", slow.total, n, int(e), want, int(no))
	}
}

// full tells sets of which all clusters are used.
func full(t *testing.T, total int) (*Set, *slowSet) {
	t.Helper()
	return some(t, total, func(uint32) bool { return true })
}

// some tells sets of which each cluster is used that a rule picks.
func some(t *testing.T, total int, picks func(n uint32) bool) (*Set, *slowSet) {
	t.Helper()
	s, slow := New(total), slowNew(total)
	for n := range uint32(slow.total) {
		if picks(n) {
			mustMark(t, s, slow, n)
		}
	}
	return s, slow
}

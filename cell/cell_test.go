package cell

import (
	"math/rand"
	"testing"

	"reliquary/api"
)

// P10.1: the chapter's example.

func TestExample(t *testing.T) {
	c := New(5)
	if c.Raise(6) != api.OK || c.Raise(6) != api.ErrArg || c.Value() != 6 {
		t.Error(c.Value())
	}
	if last := New(1<<64 - 1); last.Raise(0) != api.ErrCounter {
		t.Error(last.Value())
	}
}

// P10.1: New, Value.

func TestNewHasItsValue(t *testing.T) {
	for _, n := range someValues() {
		mustBe(t, New(n), n, 0)
	}
}

// P10.1: Raise.

func TestRaiseByOne(t *testing.T) {
	for _, n := range someValues() {
		if n == 1<<64-1 {
			continue
		}
		c := New(n)
		mustRaise(t, c)
		mustBe(t, c, n+1, 1)
	}
}

func TestRaiseToNothingElse(t *testing.T) {
	for _, n := range someValues() {
		if n == 1<<64-1 {
			continue
		}
		c := New(n)
		for _, to := range append(someValues(), n-2, n-1, n, n+2, n+3, n+1+1<<32, n+1+1<<63, ^n, -n) {
			if to != n+1 {
				mustRefuse(t, c, to, api.ErrArg)
			}
		}
		for bit := range 64 {
			mustRefuse(t, c, (n+1)^1<<bit, api.ErrArg)
		}
		mustRaise(t, c)
		again := api.ErrArg
		if c.Value() == 1<<64-1 {
			again = api.ErrCounter
		}
		mustRefuse(t, c, n, again)
		mustRefuse(t, c, n+1, again)
	}
}

func TestRaiseAtTheLastValue(t *testing.T) {
	risen := New(1<<64 - 3)
	mustRaise(t, risen)
	mustRaise(t, risen)
	for _, c := range []*Cell{New(1<<64 - 1), risen, risen.Fork()} {
		raised := c.Raised()
		for _, to := range someValues() { // ErrCounter stands ahead of ErrArg
			mustRefuse(t, c, to, api.ErrCounter)
		}
		mustBe(t, c, 1<<64-1, raised)
	}
}

// P10.1: Raised.

func TestRaisedCountsRisesAlone(t *testing.T) {
	c := New(1000)
	for i := range 2000 {
		mustBe(t, c, 1000+uint64(i), i)
		mustRefuse(t, c, 1000+uint64(i), api.ErrArg)
		mustRaise(t, c)
		mustRefuse(t, c, 1000+uint64(i)+3, api.ErrArg)
	}
	mustBe(t, c, 3000, 2000)
}

func TestRaisedBeyondSixteenBits(t *testing.T) {
	c := New(1<<32 - 50000)
	for range 100000 {
		if c.Raise(c.Value()+1) != api.OK {
			t.Fatal(c.Value())
		}
	}
	mustBe(t, c, 1<<32+50000, 100000)
	mustBe(t, c.Fork(), 1<<32+50000, 100000)
}

// P10.1: Fork.

func TestForkIsAsItsCell(t *testing.T) {
	for _, n := range someValues() {
		c := New(n)
		for i := 0; i < 3 && c.Value() < 1<<64-1; i++ {
			f := c.Fork()
			if f == nil || f == c {
				t.Fatalf("at %d: not a cell of its own", c.Value())
			}
			mustBe(t, f, n+uint64(i), i)
			mustRaise(t, c)
			mustBe(t, f, n+uint64(i), i)
			mustRaise(t, f)
			mustBe(t, c, n+uint64(i)+1, i+1)
		}
		mustBe(t, c.Fork(), c.Value(), c.Raised())
	}
}

func TestForkOfAFork(t *testing.T) {
	c := New(7)
	mustRaise(t, c)
	f := c.Fork()
	mustRaise(t, f)
	ff := f.Fork()
	for range 5 {
		mustRaise(t, ff)
	}
	mustBe(t, c, 8, 1)
	mustBe(t, f, 9, 2)
	mustBe(t, ff, 14, 7)
}

func TestNilCell(t *testing.T) {
	var c *Cell
	for _, to := range someValues() { // ErrNil stands ahead of the others
		if e := c.Raise(to); e != api.ErrNil {
			t.Fatalf("Raise(%d) = error %d", to, int(e))
		}
	}
	if c.Value() != 0 || c.Raised() != 0 || c.Fork() != nil {
		t.Error("nil has something")
	}
}

func TestCellsHaveNothingInCommon(t *testing.T) {
	a, b, c := New(5), New(5), New(6)
	mustRaise(t, a)
	mustRaise(t, a)
	mustRaise(t, c)
	mustBe(t, a, 7, 2)
	mustBe(t, b, 5, 0)
	mustBe(t, c, 7, 1)
}

// P10.2.

func TestValueNeverSinks(t *testing.T) {
	chance := rand.New(rand.NewSource(10))
	for _, n := range someValues() {
		c, slow := New(n), slowNew(n)
		for range 300 {
			value := c.Value()
			to := value + uint64(chance.Intn(4)) - 1
			if chance.Intn(10) == 0 {
				to = chance.Uint64()
			}
			e, want := c.Raise(to), slow.raise(to)
			if e != want || c.Value() != slow.value.Uint64() || c.Raised() != len(slow.rises) {
				t.Fatalf("at %d Raise(%d) = error %d, not %d; then %d, raised %d times", value, to, int(e), int(want), c.Value(), c.Raised())
			}
			if c.Value() < value || c.Value()-value > 1 || (c.Value()-value == 1) != (e == api.OK) {
				t.Fatalf("from %d to %d, error %d", value, c.Value(), int(e))
			}
			if chance.Intn(20) == 0 {
				c, slow = c.Fork(), slow.fork()
			}
		}
		if c.Value()-n != uint64(c.Raised()) {
			t.Fatalf("from %d to %d by %d rises", n, c.Value(), c.Raised())
		}
	}
}

package cell

import (
	"math/big"
	"testing"

	"reliquary/api"
)

// slowCell is a cell as the chapter's words say: a whole number, and the values that it was raised to, one by one.
type slowCell struct {
	value *big.Int
	rises []string
}

func slowNew(n uint64) *slowCell {
	return &slowCell{value: new(big.Int).SetUint64(n)}
}

func (c *slowCell) raise(to uint64) api.Errno {
	last := new(big.Int).Lsh(big.NewInt(1), 64)
	last.Sub(last, big.NewInt(1))
	if c.value.Cmp(last) == 0 {
		return api.ErrCounter
	}
	next := new(big.Int).Add(c.value, big.NewInt(1))
	if new(big.Int).SetUint64(to).Cmp(next) != 0 {
		return api.ErrArg
	}
	c.value = next
	c.rises = append(c.rises, next.String())
	return api.OK
}

func (c *slowCell) fork() *slowCell {
	f := &slowCell{value: new(big.Int).Set(c.value)}
	f.rises = append(f.rises, c.rises...)
	return f
}

// someValues are edges of the integer kinds, and such as stand near them.
func someValues() []uint64 {
	values := []uint64{0, 1, 2, 5, 41, 255, 256}
	for _, bits := range []int{16, 31, 32, 33, 52, 53, 62, 63} {
		edge := uint64(1) << bits
		values = append(values, edge-2, edge-1, edge, edge+1)
	}
	return append(values, 1<<64-4, 1<<64-3, 1<<64-2, 1<<64-1)
}

// mustBe asks what a cell tells, twice: asking changes nothing.
func mustBe(t *testing.T, c *Cell, value uint64, raised int) {
	t.Helper()
	for range 2 {
		if c.Value() != value || c.Raised() != raised {
			t.Fatalf("the value %d, raised %d times, not %d and %d", c.Value(), c.Raised(), value, raised)
		}
	}
}

// mustRaise raises a cell by one, and asks whether it rose.
func mustRaise(t *testing.T, c *Cell) {
	t.Helper()
	value, raised := c.Value(), c.Raised()
	if e := c.Raise(value + 1); e != api.OK {
		t.Fatalf("at %d Raise(%d) = error %d", value, value+1, int(e))
	}
	mustBe(t, c, value+1, raised+1)
}

// mustRefuse asks whether a cell is left as it was.
func mustRefuse(t *testing.T, c *Cell, to uint64, want api.Errno) {
	t.Helper()
	value, raised := c.Value(), c.Raised()
	if e := c.Raise(to); e != want {
		t.Fatalf("at %d Raise(%d) = error %d, not %d", value, to, int(e), int(want))
	}
	mustBe(t, c, value, raised)
}

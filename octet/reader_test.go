package octet

import (
	"bytes"
	"math"
	"strings"
	"testing"

	"reliquary/api"
)

// P2.3: Reader.

func TestReaderExample(t *testing.T) {
	r := Read([]byte{1, 2, 3})
	if r.U16() != 258 || r.Left() != 1 || r.Err() != api.OK {
		t.Error("what is there")
	}
	if r.U16() != 0 || r.Err() != api.ErrCut || r.U8() != 0 || r.Left() != 0 {
		t.Error("what is not there")
	}
}

func TestReaderTellsNumbersAsTheyAreLaid(t *testing.T) {
	b := make([]byte, 3*15)
	for i := range b {
		b[i] = byte(i*37 + 129)
	}
	r := Read(b)
	at := 0
	for range 3 {
		for _, size := range []int{1, 2, 4, 8} {
			want := uint64(0)
			for i, one := range b[at : at+size] {
				want += uint64(one) << (8 * (size - 1 - i))
			}
			at += size
			if got := unsigned(r, size); got != want || r.Left() != len(b)-at || r.Err() != api.OK {
				t.Fatalf("at %d: %x, not %x; left %d, error %d", at-size, got, want, r.Left(), int(r.Err()))
			}
		}
	}
}

// unsigned reads a number of so many bytes.
func unsigned(r *Reader, size int) uint64 {
	switch size {
	case 1:
		return uint64(r.U8())
	case 2:
		return uint64(r.U16())
	case 4:
		return uint64(r.U32())
	}
	return r.U64()
}

func TestReaderTellsCutNumbers(t *testing.T) {
	for _, size := range []int{1, 2, 4, 8} {
		for n := range size {
			r := Read(bytes.Repeat([]byte{0xff}, n))
			if got := unsigned(r, size); got != 0 {
				t.Errorf("a number of %d bytes, of %d that are there: %x", size, n, got)
			}
			mustStand(t, r, api.ErrCut)
		}
		r := Read(bytes.Repeat([]byte{0xff}, size))
		if got := unsigned(r, size); got != math.MaxUint64>>(64-8*size) || r.Left() != 0 || r.Err() != api.OK {
			t.Errorf("the last number of %d bytes: %x", size, got)
		}
	}
}

// mustStand asks whether a reader has that error, and keeps it whatever is asked of it.
func mustStand(t *testing.T, r *Reader, want api.Errno) {
	t.Helper()
	for range 2 {
		if r.Err() != want || r.Left() != 0 {
			t.Fatalf("error %d, not %d; left %d", int(r.Err()), int(want), r.Left())
		}
		if r.U8() != 0 || r.U16() != 0 || r.U32() != 0 || r.U64() != 0 {
			t.Fatal("a number behind an error")
		}
		for _, n := range []int{0, 1, -1, math.MinInt, math.MaxInt} {
			if len(r.Take(n)) != 0 || r.Text(n) != "" {
				t.Fatal("bytes behind an error")
			}
		}
	}
}

func TestTake(t *testing.T) {
	r := Read([]byte("abcdef"))
	for _, c := range []struct {
		n    int
		want string
	}{{0, ""}, {1, "a"}, {3, "bcd"}, {0, ""}, {2, "ef"}, {0, ""}} {
		if got := r.Take(c.n); string(got) != c.want || r.Err() != api.OK {
			t.Errorf("Take(%d) = %q", c.n, got)
		}
	}
	if r.Left() != 0 {
		t.Error("bytes are left")
	}
}

func TestTakeErrors(t *testing.T) {
	for _, c := range []struct {
		b    string
		n    int
		want api.Errno
	}{
		{"", -1, api.ErrArg}, {"abc", -1, api.ErrArg}, {"abc", math.MinInt, api.ErrArg},
		{"", 1, api.ErrCut}, {"abc", 4, api.ErrCut}, {"abc", math.MaxInt, api.ErrCut},
	} {
		r := Read([]byte(c.b))
		if got := r.Take(c.n); got != nil {
			t.Errorf("Take(%d) of %q = %q", c.n, c.b, got)
		}
		mustStand(t, r, c.want)
	}
}

func TestReaderText(t *testing.T) {
	long := strings.Repeat("x", 255)
	for _, c := range []struct {
		b    string
		most int
		want string
		left int
	}{
		{"\x00", 0, "", 0}, {"\x00", 5, "", 0}, {"\x00ab", math.MaxInt, "", 2}, {"\x02ab", 2, "ab", 0}, {"\x02abc", 3, "ab", 1},
		{"\x01\x00\x01", 1, "\x00", 1}, {"\xff" + long, 255, long, 0}, {"\xff" + long + "y", math.MaxInt, long, 1}, {"\x80" + long, 128, long[:128], 127},
	} {
		r := Read([]byte(c.b))
		if got := r.Text(c.most); got != c.want || r.Left() != c.left || r.Err() != api.OK {
			t.Errorf("Text(%d) of %q = %q, left %d, error %d", c.most, c.b, got, r.Left(), int(r.Err()))
		}
	}
}

func TestReaderTextErrors(t *testing.T) {
	for _, c := range []struct {
		b    string
		most int
		want api.Errno
	}{
		{"", 0, api.ErrCut}, {"", -1, api.ErrCut}, {"", 255, api.ErrCut},
		{"\x01", 1, api.ErrCut}, {"\x03ab", 3, api.ErrCut}, {"\xff" + strings.Repeat("x", 254), 255, api.ErrCut},
		{"\x03ab", 2, api.ErrCut}, {"\x03ab", -1, api.ErrCut}, // ErrCut stands ahead of ErrLong
		{"\x02ab", 1, api.ErrLong}, {"\x02abcd", 1, api.ErrLong}, {"\x01a", 0, api.ErrLong}, {"\xff" + strings.Repeat("x", 255), 254, api.ErrLong},
		{"\x00", -1, api.ErrLong}, {"\x02ab", math.MinInt, api.ErrLong},
	} {
		r := Read([]byte(c.b))
		if got := r.Text(c.most); got != "" {
			t.Errorf("Text(%d) of %q = %q", c.most, c.b, got)
		}
		mustStand(t, r, c.want)
	}
}

func TestTheFirstErrorStays(t *testing.T) {
	for _, want := range []api.Errno{api.ErrArg, api.ErrCut, api.ErrLong} {
		r := Read([]byte("\x02abcdefghijk"))
		switch want {
		case api.ErrArg:
			r.Take(-1)
		case api.ErrCut:
			r.Take(13)
		case api.ErrLong:
			r.Text(1)
		}
		mustStand(t, r, want)
	}
}

func TestReaderOfNone(t *testing.T) {
	for _, b := range [][]byte{nil, {}} {
		r := Read(b)
		if r == nil || r.Left() != 0 || len(r.Take(0)) != 0 || r.Err() != api.OK {
			t.Fatal("none is no error")
		}
		r.U8()
		mustStand(t, r, api.ErrCut)
	}
}

func TestReaderOfNil(t *testing.T) {
	var r *Reader
	mustStand(t, r, api.ErrNil)
}

func TestReaderKeepsNothingOfWhatItIsGiven(t *testing.T) {
	b := []byte{1, 2, 'a', 'b', 3, 4, 5, 6}
	given := bytes.Clone(b)
	r := Read(b)
	spoil(b)
	if r.U8() != 1 || r.Text(2) != "ab" {
		t.Error("a change of what was given is to be seen")
	}
	copy(b, given)
	first := r.Take(2)
	spoil(first)
	if !bytes.Equal(b, given) {
		t.Errorf("what was given was changed: %x", b)
	}
	if got := r.Take(2); !bytes.Equal(got, []byte{5, 6}) || r.Left() != 0 {
		t.Errorf("what was told shares memory with what is left: %x", got)
	}
}

func TestReadersHaveNothingInCommon(t *testing.T) {
	b := []byte{1, 2, 3}
	one, other := Read(b), Read(b)
	one.Take(-1)
	if other.U8() != 1 || other.Left() != 2 || other.Err() != api.OK || one.Err() != api.ErrArg {
		t.Error("two readers have something in common")
	}
}

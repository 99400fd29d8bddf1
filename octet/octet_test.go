package octet

import (
	"bytes"
	"cmp"
	"math"
	"math/big"
	"strings"
	"testing"

	"reliquary/api"
)

// slowPut divides by the powers of 256, the highest one first.
func slowPut(n uint64, size int) []byte {
	return new(big.Int).SetUint64(n).FillBytes(make([]byte, size))
}

// numbers are edges, single bits, and unlike numbers.
func numbers() []uint64 {
	l := []uint64{0, 1, 127, 128, 255, 256, 257, 258, 511, 512, math.MaxUint16, math.MaxUint16 + 1, math.MaxUint32, math.MaxUint32 + 1, math.MaxInt64, math.MaxUint64 - 1, math.MaxUint64, 0x0102030405060708}
	for i := range 64 {
		l = append(l, 1<<i, 1<<i-1, uint64(i+1)*0x9e3779b97f4a7c15)
	}
	return l
}

// P2.1: Put16, Put32, Put64.

func TestPutExamples(t *testing.T) {
	for _, c := range []struct {
		name, got, want string
	}{
		{"Put16(258)", string(Put16(258)), "\x01\x02"},
		{"Put16(0)", string(Put16(0)), "\x00\x00"},
		{"Put16(65535)", string(Put16(65535)), "\xff\xff"},
		{"Put32(1)", string(Put32(1)), "\x00\x00\x00\x01"},
		{"Put32", string(Put32(0x01020304)), "\x01\x02\x03\x04"},
		{"Put64", string(Put64(0x0102030405060708)), "\x01\x02\x03\x04\x05\x06\x07\x08"},
		{"Put64(2^64 - 1)", string(Put64(math.MaxUint64)), "\xff\xff\xff\xff\xff\xff\xff\xff"},
	} {
		if c.got != c.want {
			t.Errorf("%s = %x, not %x", c.name, c.got, c.want)
		}
	}
}

func TestPutHasTheHighestByteFirst(t *testing.T) {
	for _, n := range numbers() {
		if got, want := Put16(uint16(n)), slowPut(n%(1<<16), 2); !bytes.Equal(got, want) {
			t.Errorf("Put16(%d) = %x, not %x", uint16(n), got, want)
		}
		if got, want := Put32(uint32(n)), slowPut(n%(1<<32), 4); !bytes.Equal(got, want) {
			t.Errorf("Put32(%d) = %x, not %x", uint32(n), got, want)
		}
		if got, want := Put64(n), slowPut(n, 8); !bytes.Equal(got, want) {
			t.Errorf("Put64(%d) = %x, not %x", n, got, want)
		}
	}
}

func TestPutAnswersNewMemory(t *testing.T) {
	a, b := Put64(7), Put64(7)
	spoil(a)
	if !bytes.Equal(b, slowPut(7, 8)) || !bytes.Equal(Put64(7), slowPut(7, 8)) {
		t.Error("two answers have one memory")
	}
}

// spoil writes over a list, its spare room too.
func spoil(b []byte) {
	b = b[:cap(b)]
	for i := range b {
		b[i] = 0xee
	}
}

// P2.2: Text.

func TestText(t *testing.T) {
	for _, s := range []string{"", "a", "ab", "\x00", "\xff\xfe", "é", strings.Repeat("x", 254), strings.Repeat("\x00", 255)} {
		got, e := Text(s)
		want := append(slowPut(uint64(len(s)), 1), s...)
		if e != api.OK || !bytes.Equal(got, want) {
			t.Errorf("Text of %d bytes = %x, %d", len(s), got, int(e))
		}
	}
	for _, n := range []int{256, 257, 300, 511, 512, 65536, 65537} {
		if got, e := Text(strings.Repeat("x", n)); e != api.ErrLong || got != nil {
			t.Errorf("Text of %d bytes = %x, %d", n, got, int(e))
		}
	}
	if _, e := Text(strings.Repeat("é", 128)); e != api.ErrLong { // 128 runes, but 256 bytes
		t.Error("a text's length is told in bytes")
	}
}

// P2.2: Pad.

func TestPad(t *testing.T) {
	for _, c := range []struct {
		b    string
		n    int
		want string
	}{
		{"", 0, ""}, {"", 1, "\x00"}, {"", 3, "\x00\x00\x00"}, {"\x01", 1, "\x01"}, {"\x01", 3, "\x01\x00\x00"},
		{"\x00\x07", 3, "\x00\x07\x00"}, {"abc", 3, "abc"}, {"abc", 5, "abc\x00\x00"},
		{"a", 65536, "a" + strings.Repeat("\x00", 65535)}, {strings.Repeat("a", 65536), 65536, strings.Repeat("a", 65536)},
	} {
		if got, e := Pad([]byte(c.b), c.n); e != api.OK || string(got) != c.want {
			t.Errorf("Pad of %d bytes to %d = %d bytes, %d", len(c.b), c.n, len(got), int(e))
		}
	}
	if got, e := Pad(nil, 2); e != api.OK || string(got) != "\x00\x00" {
		t.Errorf("Pad of none = %x, %d", got, int(e))
	}
}

func TestPadErrors(t *testing.T) {
	for _, c := range []struct {
		size, n int
		want    api.Errno
	}{
		{0, -1, api.ErrArg}, {3, -1, api.ErrArg}, {0, math.MinInt, api.ErrArg}, {0, 65537, api.ErrArg}, {0, math.MaxInt, api.ErrArg},
		{65538, 65537, api.ErrArg}, // ErrArg stands ahead of ErrLong
		{1, 0, api.ErrLong}, {3, 2, api.ErrLong}, {65537, 65536, api.ErrLong},
	} {
		if got, e := Pad(make([]byte, c.size), c.n); e != c.want || got != nil {
			t.Errorf("Pad of %d bytes to %d = %x, %d, not %d", c.size, c.n, got, int(e), int(c.want))
		}
	}
}

func TestPadAnswersNewMemory(t *testing.T) {
	room := []byte{1, 2, 3, 4, 5, 6}
	for n := 2; n <= 6; n++ {
		got, _ := Pad(room[:2], n)
		spoil(got)
		if !bytes.Equal(room, []byte{1, 2, 3, 4, 5, 6}) {
			t.Fatalf("Pad to %d shares what it was given: %x", n, room)
		}
	}
}

// P2.2: Nought.

func TestNought(t *testing.T) {
	if !Nought(nil) || !Nought([]byte{}) || !Nought([]byte{0}) || !Nought(make([]byte, 5000)) {
		t.Error("noughts")
	}
	for n := 1; n < 40; n++ {
		for i := range n {
			b := make([]byte, n)
			b[i] = 1 << (i % 8)
			if Nought(b) {
				t.Errorf("of %d bytes the byte at %d is not 0", n, i)
			}
		}
	}
	if Nought([]byte{0x80, 0x80}) || Nought([]byte{1, 0xff}) {
		t.Error("bytes whose sum is 0, but which are not")
	}
}

// P2.4.

func TestNumbersAreLaidInTheirOrder(t *testing.T) {
	l := numbers()
	for _, a := range l {
		for _, b := range l {
			if got, want := bytes.Compare(Put16(uint16(a)), Put16(uint16(b))), cmp.Compare(uint16(a), uint16(b)); got != want {
				t.Fatalf("Put16 of %d and %d: %d", uint16(a), uint16(b), got)
			}
			if got, want := bytes.Compare(Put32(uint32(a)), Put32(uint32(b))), cmp.Compare(uint32(a), uint32(b)); got != want {
				t.Fatalf("Put32 of %d and %d: %d", uint32(a), uint32(b), got)
			}
			if got, want := bytes.Compare(Put64(a), Put64(b)), cmp.Compare(a, b); got != want {
				t.Fatalf("Put64 of %d and %d: %d", a, b, got)
			}
		}
	}
}

func TestWhatIsLaidIsReadAgain(t *testing.T) {
	for i, n := range numbers() {
		s := strings.Repeat(string(rune('a'+i%26)), i%256)
		text, _ := Text(s)
		padded, _ := Pad(text, 300)
		r := Read(bytes.Join([][]byte{Put16(uint16(n)), Put32(uint32(n)), text, Put64(n), {byte(n)}, padded}, nil))
		if r.U16() != uint16(n) || r.U32() != uint32(n) || r.Text(255) != s || r.U64() != n || r.U8() != byte(n) {
			t.Errorf("%d is not read again", n)
		}
		if r.Text(len(s)) != s || r.Left() != 299-len(s) || !Nought(r.Take(r.Left())) || r.Left() != 0 || r.Err() != api.OK {
			t.Errorf("the padded text of %d bytes is not read again", len(s))
		}
	}
}

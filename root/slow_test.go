package root

import (
	"bytes"
	"math"
	"slices"
	"testing"

	"reliquary/api"
	"reliquary/hmac"
	"reliquary/octet"
)

// run tells 32 bytes that rise one by one from the first one on.
func run(first byte) [32]byte {
	var b [32]byte
	for i := range b {
		b[i] = first + byte(i)
	}
	return b
}

// slowMayBe goes by the chapter's words.
func slowMayBe(r api.Root) bool {
	for _, page := range r.Pages {
		if page.At == 0 {
			return false
		}
	}
	return (r.Area == 0 || r.Area == 1) && r.Length >= 0 && r.Length <= 8192 && len(r.Pages) <= 8
}

// slowPut lays each byte where the chapter's words have it. The root may be.
func slowPut(r api.Root, key api.Key) []byte {
	b := make([]byte, 480)
	b[0], b[1], b[2], b[3] = 'R', 'O', 'O', 'T'
	for i := range 8 {
		b[4+i] = byte(r.Version >> (56 - 8*i))
	}
	copy(b[12:44], r.Super[:])
	b[44] = byte(r.Area)
	copy(b[45:77], r.Keys[:])
	b[77], b[78] = byte(r.Length/256), byte(r.Length%256)
	b[79] = byte(len(r.Pages))
	for i, page := range r.Pages {
		at := 80 + 36*i
		b[at], b[at+1], b[at+2], b[at+3] = byte(page.At>>24), byte(page.At>>16), byte(page.At>>8), byte(page.At)
		copy(b[at+4:at+36], page.Sum[:])
	}
	return signed(b, key)
}

// signed tells 480 bytes with their sum behind them.
func signed(b []byte, key api.Key) []byte {
	sum := hmac.Of(key[:], b)
	return append(slices.Clone(b), sum[:]...)
}

// slowGet looks at each byte where the chapter's words have it.
func slowGet(b []byte, key api.Key) (api.Root, api.Errno) {
	if len(b) != 512 {
		return api.Root{}, api.ErrForm
	}
	if !bytes.Equal(signed(b[:480], key), b) {
		return api.Root{}, api.ErrTampered
	}
	length, count := int(b[77])*256+int(b[78]), int(b[79])
	if string(b[:4]) != "ROOT" || b[44] > 1 || length > 8192 || count > 8 || !octet.Nought(b[80+36*count:480]) {
		return api.Root{}, api.ErrForm
	}
	r := api.Root{Super: api.Sum(b[12:44]), Area: int(b[44]), Keys: api.Sum(b[45:77]), Length: length}
	for _, one := range b[4:12] {
		r.Version = r.Version*256 + uint64(one)
	}
	for at := 80; at < 80+36*count; at += 36 {
		if octet.Nought(b[at : at+4]) {
			return api.Root{}, api.ErrForm
		}
		where := uint32(b[at])<<24 | uint32(b[at+1])<<16 | uint32(b[at+2])<<8 | uint32(b[at+3])
		r.Pages = append(r.Pages, api.Ref{At: where, Sum: api.Sum(b[at+4 : at+36])})
	}
	return r, api.OK
}

// slowSame holds two roots against each other, field by field.
func slowSame(a, b api.Root) bool {
	if a.Version != b.Version || a.Super != b.Super || a.Area != b.Area || a.Keys != b.Keys || a.Length != b.Length || len(a.Pages) != len(b.Pages) {
		return false
	}
	for i := range a.Pages {
		if a.Pages[i].At != b.Pages[i].At || a.Pages[i].Sum != b.Pages[i].Sum {
			return false
		}
	}
	return true
}

// slowNewest goes by the chapter's words.
func slowNewest(a, b []byte, key api.Key) (api.Root, int, api.Errno) {
	one, e := slowGet(a, key)
	other, f := slowGet(b, key)
	switch {
	case e != api.OK && f != api.OK:
		return api.Root{}, 0, api.ErrTampered
	case f != api.OK:
		return one, 0, api.OK
	case e != api.OK:
		return other, 1, api.OK
	case other.Version > one.Version:
		return other, 1, api.OK
	}
	return one, 0, api.OK
}

// fewRoots may be: the edges, and some between.
func fewRoots() []api.Root {
	var full, big []api.Ref
	for i := range 8 {
		full = append(full, api.Ref{At: uint32(i + 1), Sum: run(byte(65 + 32*i))})
		big = append(big, api.Ref{At: math.MaxUint32 - uint32(i), Sum: run(byte(3 * i))})
	}
	all := []api.Root{
		{}, {Area: 1}, {Length: 1}, {Length: 255}, {Length: 256}, {Length: 8191}, {Length: 8192}, {Version: math.MaxUint64},
		{Version: 1 << 63}, {Version: 0x0102030405060708}, {Super: run(1)}, {Keys: run(1)}, {Pages: []api.Ref{}},
		{Pages: []api.Ref{{At: 1}}}, {Pages: []api.Ref{{At: 1}, {At: 1}}}, // pages without a sum, and like ones, may be
		{Pages: []api.Ref{{At: 256}, {At: 1 << 16}, {At: 1 << 24}, {At: math.MaxUint32}}},
		{Version: 3, Super: run(1), Area: 1, Keys: run(33), Length: 9, Pages: full[:1]},
		{Version: 4, Super: run(200), Area: 0, Keys: run(100), Length: 8192, Pages: big},
	}
	for n := range full {
		all = append(all, api.Root{Version: uint64(n), Super: run(byte(n)), Area: n % 2, Keys: run(byte(9 * n)), Length: 1024 * n, Pages: full[:n+1]})
	}
	return all
}

// wrongRoots may not be: beyond the edges, and such as look right when they are cut to 8 or 16 bits.
func wrongRoots() []api.Root {
	var wrong []api.Root
	for _, area := range []int{-1, -2, 2, 3, 128, 255, 256, 257, 65536, 1 << 32, 1<<32 + 1, math.MaxInt, math.MinInt, math.MinInt + 1, -255, -256} {
		wrong = append(wrong, api.Root{Area: area}, api.Root{Area: area, Length: 8192, Pages: []api.Ref{{At: 1}}})
	}
	for _, length := range []int{-1, -2, 8193, 8194, 16384, 65535, 65536, 65537, 65536 + 8192, 1 << 32, 1<<32 + 1, math.MaxInt, math.MinInt, math.MinInt + 1, -65535, -65536} {
		wrong = append(wrong, api.Root{Length: length}, api.Root{Area: 1, Length: length, Pages: []api.Ref{{At: 1}}})
	}
	for _, n := range []int{9, 10, 11, 12, 16, 255, 256, 257, 264, 65536} {
		many := make([]api.Ref, n)
		for i := range many {
			many[i] = api.Ref{At: uint32(i + 1)}
		}
		wrong = append(wrong, api.Root{Pages: many}, api.Root{Pages: make([]api.Ref, n)})
	}
	for n := 1; n <= 8; n++ {
		for nowhere := range n {
			pages := make([]api.Ref, n)
			for i := range pages {
				pages[i] = api.Ref{At: uint32(i + 1), Sum: run(byte(i))}
			}
			pages[nowhere].At = 0
			wrong = append(wrong, api.Root{Version: 1, Pages: pages})
			pages = slices.Clone(pages)
			pages[nowhere].Sum = api.Sum{}
			wrong = append(wrong, api.Root{Version: 1, Pages: pages})
		}
	}
	return wrong
}

// mustPut lays a root that may be.
func mustPut(t *testing.T, r api.Root, key api.Key) []byte {
	t.Helper()
	b, e := Put(r, key)
	if e != api.OK || len(b) != 512 {
		t.Fatalf("%v: %d bytes, error %d", r, len(b), int(e))
	}
	return b
}

// mustGet asks whether bytes are read as the slow way reads them.
func mustGet(t *testing.T, what string, b []byte, key api.Key) {
	t.Helper()
	got, e := Get(b, key)
	if want, f := slowGet(b, key); !slowSame(got, want) || e != f {
		t.Fatalf("%s: %v, error %d, not %v, error %d", what, got, int(e), want, int(f))
	}
}

// mustNotGet asks whether bytes are refused with an error.
func mustNotGet(t *testing.T, what string, b []byte, key api.Key, want api.Errno) {
	t.Helper()
	if r, e := Get(b, key); !slowSame(r, api.Root{}) || e != want {
		t.Fatalf("%s: %v, error %d, not %d", what, r, int(e), int(want))
	}
}

// mustPick asks whether Newest picks what the slow way picks.
func mustPick(t *testing.T, a, b []byte, key api.Key) {
	t.Helper()
	got, at, e := Newest(a, b, key)
	if want, place, f := slowNewest(a, b, key); !slowSame(got, want) || at != place || e != f {
		t.Fatalf("%v at %d, error %d, not %v at %d, error %d", got, at, int(e), want, place, int(f))
	}
}

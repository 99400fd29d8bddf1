package catalog

import (
	"bytes"
	"math"
	"math/rand"
	"slices"
	"strings"
	"testing"

	"reliquary/api"
)

// run tells 32 bytes that rise one by one from the first one on.
func run(first byte) api.Sum {
	var sum api.Sum
	for i := range sum {
		sum[i] = first + byte(i)
	}
	return sum
}

// slowName goes by the chapter's words.
func slowName(s string) bool {
	n := 0
	for _, one := range []byte(s) {
		n++
		if one <= 32 || one >= 127 {
			return false
		}
	}
	return n >= 1 && n <= 16
}

// slowBelow tells whether a text is below another one, byte by byte.
func slowBelow(a, b string) bool {
	for i := 0; ; i++ {
		switch {
		case i == len(b):
			return false
		case i == len(a):
			return true // a beginning is ahead of what is longer
		case a[i] != b[i]:
			return a[i] < b[i]
		}
	}
}

// slowMayBe tells whether a ref may be, byte by byte.
func slowMayBe(r api.Ref) bool {
	if r.At != 0 {
		return true
	}
	for _, one := range r.Sum {
		if one != 0 {
			return false
		}
	}
	return true
}

// slowCheck goes by the chapter's words: each error is looked for in all of the catalog, ahead of the next one.
func slowCheck(c api.Catalog) api.Errno {
	if len(c.Snaps) > 64 {
		return api.ErrSnaps
	}
	for i, s := range c.Snaps {
		if !slowName(s.Name) || i > 0 && !slowBelow(c.Snaps[i-1].Name, s.Name) {
			return api.ErrName
		}
	}
	if !slowMayBe(c.Top) {
		return api.ErrArg
	}
	for _, s := range c.Snaps {
		if !slowMayBe(s.Top) {
			return api.ErrArg
		}
	}
	return api.OK
}

// slowPut lays each byte where the chapter's words have it. It lays catalogs that may not be, too, as long as a byte tells how many there are of what it counts.
func slowPut(c api.Catalog) []byte {
	b := append(slowRef(c.Top), byte(len(c.Snaps)))
	for _, s := range c.Snaps {
		b = append(b, byte(len(s.Name)))
		for i := range len(s.Name) {
			b = append(b, s.Name[i])
		}
		b = append(b, slowRef(s.Top)...)
	}
	return b
}

// slowRef lays a ref byte by byte.
func slowRef(r api.Ref) []byte {
	b := make([]byte, 36)
	b[0], b[1], b[2], b[3] = byte(r.At>>24), byte(r.At>>16), byte(r.At>>8), byte(r.At)
	for i, one := range r.Sum {
		b[4+i] = one
	}
	return b
}

// slowGet looks at each byte where the chapter's words have it.
func slowGet(b []byte) (api.Catalog, api.Errno) {
	if len(b) < 37 {
		return api.Catalog{}, api.ErrForm
	}
	c := api.Catalog{Top: refAt(b)}
	at := 37
	for range int(b[36]) {
		if at >= len(b) || at+1+int(b[at])+36 > len(b) {
			return api.Catalog{}, api.ErrForm
		}
		end := at + 1 + int(b[at])
		c.Snaps = append(c.Snaps, api.Snap{Name: string(b[at+1 : end]), Top: refAt(b[end:])})
		at = end + 36
	}
	if at != len(b) || slowCheck(c) != api.OK {
		return api.Catalog{}, api.ErrForm
	}
	return c, api.OK
}

// refAt tells the ref that bytes begin with.
func refAt(b []byte) api.Ref {
	return api.Ref{At: uint32(b[0])<<24 | uint32(b[1])<<16 | uint32(b[2])<<8 | uint32(b[3]), Sum: api.Sum(b[4:36])}
}

// slowSame holds two catalogs against each other, field by field.
func slowSame(a, b api.Catalog) bool {
	if a.Top.At != b.Top.At || a.Top.Sum != b.Top.Sum || len(a.Snaps) != len(b.Snaps) {
		return false
	}
	for i, s := range a.Snaps {
		if other := b.Snaps[i]; s.Name != other.Name || s.Top.At != other.Top.At || s.Top.Sum != other.Top.Sum {
			return false
		}
	}
	return true
}

// slowFind goes over the snapshots from the first one on.
func slowFind(c api.Catalog, name string) (api.Ref, api.Errno) {
	for _, s := range c.Snaps {
		if s.Name == name {
			return s.Top, api.OK
		}
	}
	return api.Ref{}, api.ErrNone
}

// slowSnap puts the new one behind all that are below it.
func slowSnap(c api.Catalog, name string) (api.Catalog, api.Errno) {
	if e := slowCheck(c); e != api.OK {
		return api.Catalog{}, e
	}
	if !slowName(name) {
		return api.Catalog{}, api.ErrName
	}
	if _, e := slowFind(c, name); e == api.OK {
		return api.Catalog{}, api.ErrThere
	}
	if len(c.Snaps) == 64 {
		return api.Catalog{}, api.ErrSnaps
	}
	more := api.Catalog{Top: c.Top}
	for _, s := range c.Snaps {
		if slowBelow(s.Name, name) {
			more.Snaps = append(more.Snaps, s)
		}
	}
	more.Snaps = append(more.Snaps, api.Snap{Name: name, Top: c.Top})
	for _, s := range c.Snaps {
		if slowBelow(name, s.Name) {
			more.Snaps = append(more.Snaps, s)
		}
	}
	return more, api.OK
}

// slowDrop keeps all others.
func slowDrop(c api.Catalog, name string) (api.Catalog, api.Errno) {
	if e := slowCheck(c); e != api.OK {
		return api.Catalog{}, e
	}
	if _, e := slowFind(c, name); e != api.OK {
		return api.Catalog{}, e
	}
	less := api.Catalog{Top: c.Top}
	for _, s := range c.Snaps {
		if s.Name != name {
			less.Snaps = append(less.Snaps, s)
		}
	}
	return less, api.OK
}

// slowRevert changes the Top alone.
func slowRevert(c api.Catalog, name string) (api.Catalog, api.Errno) {
	if e := slowCheck(c); e != api.OK {
		return api.Catalog{}, e
	}
	top, e := slowFind(c, name)
	if e != api.OK {
		return api.Catalog{}, e
	}
	return api.Catalog{Top: top, Snaps: slices.Clone(c.Snaps)}, api.OK
}

// step is a call that tells another catalog, and the slow way to it.
type step struct {
	what       string
	fast, slow func(api.Catalog, string) (api.Catalog, api.Errno)
}

// steps are the calls that tell another catalog.
func steps() []step {
	return []step{{"Snap", Snap, slowSnap}, {"Drop", Drop, slowDrop}, {"Revert", Revert, slowRevert}}
}

// many tells so many snapshots whose names rise.
func many(n int) []api.Snap {
	snaps := make([]api.Snap, n)
	for i := range snaps {
		snaps[i] = api.Snap{Name: "s" + string([]byte{byte(33 + i/90), byte(33 + i%90)}), Top: api.Ref{At: uint32(i + 1), Sum: run(byte(i))}}
	}
	return snaps
}

// fewNames are names: the edges, and some between.
func fewNames() []string {
	return []string{"!", "~", "a", "b", "ab", "a!", "a~", "A", "Z", "0", "9", "10", "aa", "ba", "aaaaaaaaaaaaaaaa", "~~~~~~~~~~~~~~~~", "!!!!!!!!!!!!!!!!", "aaaaaaaaaaaaaaa", "./\\\"'", "s!!", "s!$", "s!`", "s!a"}
}

// noNames are none: too short, too long, and with bytes that no name has.
func noNames() []string {
	none := []string{"", " ", "\x7f", "\x00", "\xff", "\x80", "a b", " a", "a ", "a\n", "\ta", "a\x7f", "\x1fa", "ä", "aä", "日", "a\x00", strings.Repeat("a", 17), strings.Repeat("~", 18), strings.Repeat(" ", 16)}
	for _, n := range []int{32, 33, 255, 256, 257, 256 + 16, 65536 + 1} {
		none = append(none, strings.Repeat("a", n))
	}
	return none
}

// fewCatalogs may be: the edges, and some between.
func fewCatalogs() []api.Catalog {
	all := []api.Catalog{
		{}, {Snaps: []api.Snap{}}, {Top: api.Ref{At: 1}}, {Top: api.Ref{At: math.MaxUint32, Sum: run(224)}}, {Top: api.Ref{At: 0x01020304, Sum: run(1)}},
		{Snaps: []api.Snap{{Name: "a"}}}, {Snaps: []api.Snap{{Name: "!"}, {Name: "~"}}}, {Top: api.Ref{At: 256}, Snaps: []api.Snap{{Name: "a"}, {Name: "ab"}, {Name: "b"}}},
		{Top: api.Ref{At: 7, Sum: run(7)}, Snaps: []api.Snap{{Name: "A", Top: api.Ref{At: 7, Sum: run(7)}}, {Name: "a", Top: api.Ref{At: 7, Sum: run(7)}}}}, // like trees may be
		{Snaps: []api.Snap{{Name: strings.Repeat("!", 16), Top: api.Ref{At: 1 << 31}}, {Name: strings.Repeat("a", 15), Top: api.Ref{At: 5, Sum: run(9)}}, {Name: strings.Repeat("a", 16)}, {Name: strings.Repeat("~", 16), Top: api.Ref{At: 1 << 8}}}},
		{Top: api.Ref{At: 3}, Snaps: []api.Snap{{Name: "10", Top: api.Ref{At: 10}}, {Name: "9", Top: api.Ref{At: 9}}}},
	}
	for _, n := range []int{1, 2, 3, 7, 31, 32, 33, 62, 63, 64} {
		all = append(all, api.Catalog{Top: api.Ref{At: uint32(n), Sum: run(byte(3 * n))}, Snaps: many(n)})
	}
	return all
}

// wrongCatalogs may not be, each for one reason alone.
func wrongCatalogs() []api.Catalog {
	var wrong []api.Catalog
	for _, n := range []int{65, 66, 127, 128, 255, 256, 257, 256 + 64, 4096} {
		wrong = append(wrong, api.Catalog{Snaps: many(n)})
	}
	for _, name := range noNames() {
		wrong = append(wrong, api.Catalog{Snaps: []api.Snap{{Name: name}}}, api.Catalog{Snaps: []api.Snap{{Name: "!"}, {Name: name}}}, api.Catalog{Snaps: []api.Snap{{Name: name}, {Name: "~"}}})
	}
	for _, two := range [][2]string{{"a", "a"}, {"b", "a"}, {"ab", "a"}, {"a", "A"}, {"9", "10"}, {"~", "!"}, {"b", "aa"}, {"aaaaaaaaaaaaaaab", "aaaaaaaaaaaaaaaa"}} {
		one, other := api.Snap{Name: two[0], Top: api.Ref{At: 1}}, api.Snap{Name: two[1], Top: api.Ref{At: 2}}
		wrong = append(wrong, api.Catalog{Snaps: []api.Snap{one, other}}, api.Catalog{Snaps: []api.Snap{{Name: "!"}, one, other}}, api.Catalog{Snaps: []api.Snap{one, {Name: "~~"}, other}})
	}
	for _, n := range []int{2, 3, 64} {
		for at := 1; at < n; at++ {
			swapped, alike := many(n), many(n)
			swapped[at-1], swapped[at] = swapped[at], swapped[at-1]
			alike[at].Name = alike[at-1].Name
			wrong = append(wrong, api.Catalog{Snaps: swapped}, api.Catalog{Snaps: alike})
		}
	}
	for i := range 32 {
		var sum api.Sum
		sum[i] = 1 << (i % 8)
		wrong = append(wrong, api.Catalog{Top: api.Ref{Sum: sum}}, api.Catalog{Top: api.Ref{Sum: sum}, Snaps: many(3)})
	}
	for _, n := range []int{1, 2, 3, 63, 64} {
		for at := range n {
			snaps := many(n)
			snaps[at].Top = api.Ref{Sum: api.Sum{31: 1}}
			wrong = append(wrong, api.Catalog{Snaps: snaps}, api.Catalog{Top: api.Ref{At: 1, Sum: run(1)}, Snaps: snaps})
		}
	}
	return wrong
}

// anyCatalog tells one of few snapshots, which may not be where wrong is true.
func anyCatalog(chance *rand.Rand, wrong bool) api.Catalog {
	c := api.Catalog{Top: anyRef(chance, wrong)}
	for range chance.Intn(7) {
		c.Snaps = append(c.Snaps, api.Snap{Name: anyName(chance, wrong), Top: anyRef(chance, wrong)})
	}
	if !wrong || chance.Intn(2) == 0 {
		slices.SortFunc(c.Snaps, func(a, b api.Snap) int { return strings.Compare(a.Name, b.Name) })
		c.Snaps = slices.CompactFunc(c.Snaps, func(a, b api.Snap) bool { return a.Name == b.Name })
	}
	return c
}

// anyName tells a name of few letters, so that like ones are met.
func anyName(chance *rand.Rand, wrong bool) string {
	letters := "!a~"
	if wrong && chance.Intn(4) == 0 {
		letters = " a\x7f"
	}
	var b []byte
	for range 1 + chance.Intn(3) {
		b = append(b, letters[chance.Intn(len(letters))])
	}
	return string(b)
}

// anyRef tells a ref of few numbers, so that like ones are met.
func anyRef(chance *rand.Rand, wrong bool) api.Ref {
	if r := (api.Ref{At: uint32(chance.Intn(4))}); r.At != 0 || wrong && chance.Intn(8) == 0 {
		r.Sum[chance.Intn(32)] = byte(chance.Intn(3))
		return r
	}
	return api.Ref{}
}

// mustCheck asks whether a catalog is told as the slow way tells it, by Put, too.
func mustCheck(t *testing.T, c api.Catalog) {
	t.Helper()
	want := slowCheck(c)
	if e := Check(c); e != want {
		t.Fatalf("%v: Check = %d, not %d", c, int(e), int(want))
	}
	b, e := Put(c)
	if e != want || want != api.OK && b != nil || want == api.OK && !bytes.Equal(b, slowPut(c)) {
		t.Fatalf("%v: Put = %x, error %d, not %d", c, b, int(e), int(want))
	}
}

// mustGet asks whether bytes are read as the slow way reads them.
func mustGet(t *testing.T, what string, b []byte) {
	t.Helper()
	got, e := Get(b)
	if want, f := slowGet(b); !slowSame(got, want) || e != f {
		t.Fatalf("%s: %v, error %d, not %v, error %d", what, got, int(e), want, int(f))
	}
}

// mustNotGet asks whether bytes are refused.
func mustNotGet(t *testing.T, what string, b []byte) {
	t.Helper()
	if c, e := Get(b); !slowSame(c, api.Catalog{}) || c.Snaps != nil || e != api.ErrForm {
		t.Fatalf("%s: %v, error %d", what, c, int(e))
	}
}

// mustDo asks whether each call with a name answers what the slow way answers, and leaves the catalog as it is.
func mustDo(t *testing.T, c api.Catalog, name string) {
	t.Helper()
	was := copied(c)
	for _, s := range steps() {
		got, e := s.fast(c, name)
		if want, f := s.slow(c, name); !slowSame(got, want) || e != f || e != api.OK && got.Snaps != nil {
			t.Fatalf("%v: %s of %q = %v, error %d, not %v, error %d", was, s.what, name, got, int(e), want, int(f))
		}
	}
	got, e := Find(c, name)
	if want, f := slowFind(c, name); got != want || e != f {
		t.Fatalf("%v: Find of %q = %v, error %d, not %v, error %d", was, name, got, int(e), want, int(f))
	}
	if !slowSame(c, was) {
		t.Fatalf("%v, which was %v, is changed by calls with %q", c, was, name)
	}
}

// copied tells a catalog that shares no memory with one.
func copied(c api.Catalog) api.Catalog {
	return api.Catalog{Top: c.Top, Snaps: append([]api.Snap{}, c.Snaps...)}
}

package slots

import (
	"slices"
	"strings"
	"testing"

	"reliquary/api"
	"reliquary/hmac"
	"reliquary/sha"
	"reliquary/wrap"
)

// slowPut lays each field where the chapter's words have it, byte by byte.
func slowPut(t Table) []byte {
	b := make([]byte, 1024)
	for i, s := range t {
		at := 128 * i
		if s.Used {
			b[at] = 1
		}
		b[at+1], b[at+2] = byte(s.Turns/256), byte(s.Turns%256)
		for j := range 16 {
			b[at+3+j] = s.Salt[j]
		}
		for j := range 32 {
			b[at+19+j], b[at+51+j] = s.Sealed[j], s.Check[j]
		}
	}
	return b
}

// slowGet asks each byte what it may be.
func slowGet(b []byte) (Table, api.Errno) {
	var t Table
	if len(b) != 1024 {
		return t, api.ErrForm
	}
	for i := range t {
		one := b[128*i : 128*i+128]
		turns := 256*int(one[1]) + int(one[2])
		nought := strings.Trim(string(one), "\x00") == ""
		ends := strings.Trim(string(one[83:]), "\x00") == ""
		switch {
		case nought:
		case one[0] == 1 && turns > 0 && turns < 4097 && ends:
			t[i] = api.Slot{Used: true, Turns: uint16(turns), Salt: [16]byte(one[3:19]), Sealed: api.Key(one[19:51]), Check: api.Sum(one[51:83])}
		default:
			return Table{}, api.ErrForm
		}
	}
	return t, api.OK
}

// slowKey is PBKDF2's first block, of however many turns, so of more than kdf makes.
func slowKey(pass string, salt [16]byte, turns int) api.Key {
	sum := hmac.Of([]byte(pass), salt[:], []byte{0, 0, 0, 1})
	key := api.Key(sum)
	for range turns - 1 {
		sum = hmac.Of([]byte(pass), sum[:])
		for i := range key {
			key[i] ^= sum[i]
		}
	}
	return key
}

// slowSlot tells a slot as the chapter's words say, be there such or not.
func slowSlot(pass string, salt [16]byte, turns int, master api.Key) api.Slot {
	return sealedBy(slowKey(pass, salt, turns), salt, turns, master)
}

// sealedBy tells a slot that is sealed by that key, be it the slot's or not.
func sealedBy(by api.Key, salt [16]byte, turns int, master api.Key) api.Slot {
	sealed, check := wrap.Seal(by, master)
	return api.Slot{Used: true, Turns: uint16(turns), Salt: salt, Sealed: sealed, Check: check}
}

// slowOpen tells all masters that a passphrase opens, and the places of their slots.
func slowOpen(t Table, pass string) (masters []api.Key, places []int) {
	for i, s := range t {
		if !s.Used || s.Turns == 0 || s.Turns > 4096 {
			continue
		}
		if master, e := wrap.Open(slowKey(pass, s.Salt, int(s.Turns)), s.Sealed, s.Check); e == api.OK {
			masters, places = append(masters, master), append(places, i)
		}
	}
	return masters, places
}

// slowUsed tells the places of the slots that are used.
func slowUsed(t Table) (places []int) {
	for i, s := range t {
		if s.Used {
			places = append(places, i)
		}
	}
	return places
}

func slowAdd(t Table, pass string, salt [16]byte, turns int, master api.Key) (Table, api.Errno) {
	_, places := slowOpen(t, pass)
	switch {
	case len(pass) > 512:
		return Table{}, api.ErrLong
	case turns < 1 || turns > 4096:
		return Table{}, api.ErrArg
	case len(places) > 0:
		return Table{}, api.ErrThere
	case len(slowUsed(t)) == 8:
		return Table{}, api.ErrSlots
	}
	at := 0
	for slices.Contains(slowUsed(t), at) {
		at++
	}
	t[at] = slowSlot(pass, salt, turns, master)
	return t, api.OK
}

func slowRemove(t Table, pass string) (Table, api.Errno) {
	_, places := slowOpen(t, pass)
	switch {
	case len(pass) > 512:
		return Table{}, api.ErrLong
	case len(places) == 0:
		return Table{}, api.ErrPass
	case len(slowUsed(t)) == 1:
		return Table{}, api.ErrLast
	}
	t[places[0]] = api.Slot{}
	return t, api.OK
}

func slowRotate(t Table, old, fresh string, salt [16]byte, turns int) (Table, api.Errno) {
	masters, places := slowOpen(t, old)
	_, there := slowOpen(t, fresh)
	switch {
	case len(old) > 512:
		return Table{}, api.ErrLong
	case len(places) == 0:
		return Table{}, api.ErrPass
	case len(fresh) > 512:
		return Table{}, api.ErrLong
	case turns < 1 || turns > 4096:
		return Table{}, api.ErrArg
	case len(there) > 0:
		return Table{}, api.ErrThere
	}
	t[places[0]] = slowSlot(fresh, salt, turns, masters[0])
	return t, api.OK
}

// alike tells what passphrases have in common that make the same keys.
func alike(pass string) string {
	if len(pass) > 64 {
		sum := sha.Of([]byte(pass))
		pass = string(sum[:])
	}
	return strings.TrimRight(pass, "\x00")
}

// saltOf, keyOf and long have unlike bytes, and others for each n.

func saltOf(n int) [16]byte {
	var s [16]byte
	for i := range s {
		s[i] = byte(n + 11*i)
	}
	return s
}

func keyOf(n int) api.Key {
	var k api.Key
	for i := range k {
		k[i] = byte(n + 37*i)
	}
	return k
}

func long(n int) string {
	b := make([]byte, n)
	for i := range b {
		b[i] = byte(i*7 + n)
	}
	return string(b)
}

// tableOf has a slot for each passphrase, in order, with one turn more each; of a passphrase `-` none.
func tableOf(passes ...string) Table {
	var t Table
	for i, pass := range passes {
		if pass != "-" {
			t[i] = slowSlot(pass, saltOf(i), i+1, keyOf(100+i))
		}
	}
	return t
}

// tableWith tells a table with another slot.
func tableWith(t Table, at int, s api.Slot) Table {
	t[at] = s
	return t
}

// junk has something in each field, be it used or not.
func junk(used bool, turns uint16) api.Slot {
	return api.Slot{Used: used, Turns: turns, Salt: saltOf(77), Sealed: keyOf(78), Check: api.Sum(keyOf(79))}
}

// someTables are such as may be, and such as may not.
func someTables() []Table {
	full := tableOf("0", "1", "2", "3", "4", "5", "6", "7")
	tables := []Table{{}, full, tableOf("a"), tableOf("-", "-", "-", "-", "-", "-", "-", "a"), tableOf("-", "b", "-", "c", "-", "-", "d")}
	for i := range 8 {
		for _, used := range []bool{false, true} {
			for _, turns := range []uint16{0, 1, 255, 256, 4096, 4097, 65535} {
				t := full
				t[i] = junk(used, turns)
				tables = append(tables, t, tableWith(Table{}, i, junk(used, turns)), tableWith(Table{}, i, api.Slot{Used: used, Turns: turns}))
			}
		}
	}
	return tables
}

// mustOpen asks whether a passphrase opens that master key by that slot.
func mustOpen(t *testing.T, table Table, pass string, master api.Key, at int) {
	t.Helper()
	if got, i, e := Open(table, []byte(pass)); got != master || i != at || e != api.OK {
		t.Fatalf("%.20q opens %x by the slot %d, error %d, not %x by %d", pass, got, i, int(e), master, at)
	}
}

// mustNotOpen asks whether a passphrase opens nothing.
func mustNotOpen(t *testing.T, table Table, pass string, want api.Errno) {
	t.Helper()
	if got, i, e := Open(table, []byte(pass)); got != (api.Key{}) || i != 0 || e != want {
		t.Fatalf("%.20q opens %x by the slot %d, error %d, not %d", pass, got, i, int(e), int(want))
	}
}

// mustMake tells a table that must be made without an error.
func mustMake(t *testing.T, table Table, e api.Errno) Table {
	t.Helper()
	if e != api.OK {
		t.Fatalf("error %d", int(e))
	}
	return table
}

// mustRefuse asks whether no table is made.
func mustRefuse(t *testing.T, what string, want api.Errno, table Table, e api.Errno) {
	t.Helper()
	if table != (Table{}) || e != want {
		t.Fatalf("%s: error %d, not %d; a table that is none: %t", what, int(e), int(want), table == Table{})
	}
}

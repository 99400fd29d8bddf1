package device

import (
	"maps"
	"math"
	"math/rand"
	"testing"

	"reliquary/api"
)

// slowFile is a file as the chapter's words say: bytes by where they stand (the others are noughts), and how far it reaches.
type slowFile struct {
	bytes map[int]byte
	reach int
}

func slowFileOf(b []byte) slowFile {
	f := slowFile{bytes: map[int]byte{}}
	return f.with(0, b)
}

// with tells the file with bytes from at on.
func (f slowFile) with(at int, b []byte) slowFile {
	g := f.fork()
	for i, one := range b {
		g.bytes[at+i] = one
	}
	g.reach = max(f.reach, at+len(b))
	return g
}

func (f slowFile) fork() slowFile {
	return slowFile{bytes: maps.Clone(f.bytes), reach: f.reach}
}

func (f slowFile) all() []byte {
	b := []byte{}
	for at := range f.reach {
		b = append(b, f.bytes[at])
	}
	return b
}

// slowWrite is a loose write: a sector, and the whole file as it was seen then.
type slowWrite struct {
	sector int
	then   slowFile
}

// slowDevice is a device as the chapter's words say.
type slowDevice struct {
	most       int
	seen, safe slowFile
	loose      []slowWrite
	steps      int
	down       bool
	told, done bool
	failing    int // which step goes down
}

func slowNew(most int) *slowDevice {
	return &slowDevice{most: most, seen: slowFileOf(nil), safe: slowFileOf(nil)}
}

// step counts a step, and tells whether it is done, and its error.
func (d *slowDevice) step() (bool, api.Errno) {
	d.steps++
	if d.told && d.steps == d.failing {
		d.down = true
		return d.done, api.ErrDown
	}
	return true, api.OK
}

func (d *slowDevice) write(at int, b []byte) api.Errno {
	switch {
	case d.down:
		return api.ErrDown
	case at < 0, at > d.seen.reach:
		return api.ErrRange
	case at+len(b) > d.most:
		return api.ErrFull
	}
	done, e := d.step()
	if done {
		d.seen = d.seen.with(at, b)
		for sector := 0; sector*512 < d.most; sector++ {
			if len(b) > 0 && at < sector*512+512 && at+len(b) > sector*512 {
				d.loose = append(d.loose, slowWrite{sector, d.seen})
			}
		}
	}
	return e
}

func (d *slowDevice) sync() api.Errno {
	if d.down {
		return api.ErrDown
	}
	done, e := d.step()
	if done {
		d.safe, d.loose = d.seen, nil
	}
	return e
}

func (d *slowDevice) beat() api.Errno {
	if d.down {
		return api.ErrDown
	}
	_, e := d.step()
	return e
}

func (d *slowDevice) read(at, n int) ([]byte, api.Errno) {
	switch {
	case d.down:
		return nil, api.ErrDown
	case at < 0, n < 0, at+n > d.seen.reach:
		return nil, api.ErrRange
	}
	return d.seen.all()[at : at+n], api.OK
}

func (d *slowDevice) tellFail(after int, done bool) api.Errno {
	if d.down {
		return api.ErrDown
	}
	d.told, d.done, d.failing = true, done, d.steps+1+max(after, 0)
	return api.OK
}

func (d *slowDevice) start(keep []byte) {
	for i, w := range d.loose {
		if i >= 8*len(keep) || keep[i/8]&(1<<(i%8)) == 0 {
			continue
		}
		safe := d.safe.fork()
		for at := w.sector * 512; at < w.sector*512+512 && at < w.then.reach; at++ {
			safe.bytes[at] = w.then.bytes[at]
		}
		safe.reach = max(safe.reach, min(w.sector*512+512, w.then.reach))
		d.safe = safe
	}
	d.seen, d.loose = d.safe, nil
	d.down, d.told = false, false
}

func (d *slowDevice) edit(at int, b []byte) {
	if at >= 0 && at <= d.seen.reach && at+len(b) <= d.most && len(b) > 0 {
		d.seen, d.safe = d.seen.with(at, b), d.safe.with(at, b)
	}
}

func (d *slowDevice) load(b []byte) {
	if len(b) <= d.most {
		d.seen, d.safe, d.loose = slowFileOf(b), slowFileOf(b), nil
	}
}

func (d *slowDevice) clone() *slowDevice {
	c := *d
	c.loose = append([]slowWrite{}, d.loose...) // no file is changed, so that clones may share them
	return &c
}

// mostInt and leastInt are the ends of what may be asked for.
const (
	mostInt  = math.MaxInt
	leastInt = math.MinInt
)

// some tells so many bytes, none of which is 0.
func some(chance *rand.Rand, n int) []byte {
	b := make([]byte, n)
	for i := range b {
		b[i] = byte(1 + chance.Intn(255))
	}
	return b
}

// full tells so many bytes, all of them the same.
func full(one byte, n int) []byte {
	b := make([]byte, n)
	for i := range b {
		b[i] = one
	}
	return b
}

// all tells the bits by which so many loose writes stay.
func all(n int) []byte { return full(0xff, (n+7)/8) }

// mustSay asks for an error.
func mustSay(t *testing.T, what string, e, want api.Errno) {
	t.Helper()
	if e != want {
		t.Fatalf("%s = error %d, not %d", what, int(e), int(want))
	}
}

// mustHave asks what the file has, whether the device is up or down.
func mustHave(t *testing.T, d *Device, want []byte) {
	t.Helper()
	if string(d.Bytes()) != string(want) || d.Size() != len(want) {
		t.Fatalf("%d bytes %.40q .., not %d bytes %.40q ..", d.Size(), d.Bytes(), len(want), want)
	}
	if b, e := d.Read(0, len(want)); !d.Down() && (e != api.OK || string(b) != string(want)) {
		t.Fatalf("read %.40q .., error %d", b, int(e))
	}
}

// mustCount asks for how many steps there were, and how many writes are loose.
func mustCount(t *testing.T, d *Device, steps, loose int) {
	t.Helper()
	if d.Steps() != steps || d.Loose() != loose {
		t.Fatalf("%d steps, %d loose, not %d and %d", d.Steps(), d.Loose(), steps, loose)
	}
}

// behind tells what the file has behind a Start, and leaves the device as it is.
func behind(d *Device, keep ...byte) string {
	c := d.Clone()
	c.Start(keep)
	return string(c.Bytes())
}

// mustBeLike asks whether a device is as a slow one.
func mustBeLike(t *testing.T, d *Device, slow *slowDevice) {
	t.Helper()
	mustHave(t, d, slow.seen.all())
	mustCount(t, d, slow.steps, len(slow.loose))
	if d.Down() != slow.down || d.Most() != slow.most {
		t.Fatalf("down %v, most %d, not %v and %d", d.Down(), d.Most(), slow.down, slow.most)
	}
}

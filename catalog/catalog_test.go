package catalog

import (
	"bytes"
	"math/rand"
	"slices"
	"strings"
	"testing"

	"reliquary/api"
	"reliquary/octet"
)

// The chapter's example.

func TestExample(t *testing.T) {
	if b, e := Put(api.Catalog{}); e != api.OK || !bytes.Equal(b, make([]byte, 37)) {
		t.Errorf("%x, error %d", b, int(e))
	}
	c, e := Snap(api.Catalog{}, "a")
	if names := Names(c); e != api.OK || !slices.Equal(names, []string{"a"}) {
		t.Errorf("%q, error %d", names, int(e))
	}
	if _, e := Snap(c, "a"); e != api.ErrThere {
		t.Errorf("again: error %d", int(e))
	}
	if _, e := Snap(api.Catalog{}, "a b"); e != api.ErrName {
		t.Errorf("no name: error %d", int(e))
	}
	if _, e := Drop(c, "b"); e != api.ErrNone {
		t.Errorf("another one: error %d", int(e))
	}
}

// P18.1: names.

func TestNamesEachByteAtEachPlace(t *testing.T) {
	for n := 1; n <= 18; n++ {
		for at := range n {
			for one := range 256 {
				b := bytes.Repeat([]byte("x"), n)
				b[at] = byte(one)
				if got, want := Name(string(b)), n <= 16 && one >= 33 && one <= 126; got != want {
					t.Fatalf("%q: %v", b, got)
				}
			}
		}
	}
}

func TestNamesAtTheEdges(t *testing.T) {
	for _, name := range fewNames() {
		if !Name(name) {
			t.Errorf("%q is a name", name)
		}
	}
	for _, name := range noNames() {
		if Name(name) {
			t.Errorf("%q is none", name)
		}
	}
	for n := range 600 {
		if got := Name(strings.Repeat("!", n)); got != (n >= 1 && n <= 16) {
			t.Errorf("%d bytes: %v", n, got)
		}
	}
}

// P18.1: Check. P18.2: Put.

func TestWhatMayBeIsLaid(t *testing.T) {
	for _, c := range fewCatalogs() {
		if e := Check(c); e != api.OK {
			t.Fatalf("%v: error %d", c, int(e))
		}
		mustCheck(t, c)
	}
}

func TestWhatMayNotBeIsRefused(t *testing.T) {
	for _, c := range wrongCatalogs() {
		if e := Check(c); e == api.OK {
			t.Fatalf("%v: no error", c)
		}
		mustCheck(t, c)
	}
}

func TestHowManySnapshotsMayBe(t *testing.T) {
	for n := range 300 {
		want := api.OK
		if n > 64 {
			want = api.ErrSnaps
		}
		if e := Check(api.Catalog{Snaps: many(n)}); e != want {
			t.Errorf("%d snapshots: error %d", n, int(e))
		}
	}
}

func TestNamesRise(t *testing.T) {
	for _, one := range fewNames() {
		for _, other := range fewNames() {
			want := api.ErrName
			if slowBelow(one, other) {
				want = api.OK
			}
			if e := Check(api.Catalog{Snaps: []api.Snap{{Name: one}, {Name: other}}}); e != want {
				t.Errorf("%q, %q: error %d", one, other, int(e))
			}
		}
	}
}

func TestRefsThatMayNotBe(t *testing.T) {
	for i := range 32 {
		for bit := range 8 {
			r := api.Ref{}
			r.Sum[i] = 1 << bit
			for _, c := range []api.Catalog{{Top: r}, {Snaps: []api.Snap{{Name: "a", Top: r}}}, {Snaps: []api.Snap{{Name: "a"}, {Name: "b", Top: r}}}} {
				if e := Check(c); e != api.ErrArg {
					t.Fatalf("%v: error %d", c, int(e))
				}
			}
			r.At = 1 << (i % 32)
			for _, c := range []api.Catalog{{Top: r}, {Snaps: []api.Snap{{Name: "a", Top: r}}}} {
				if e := Check(c); e != api.OK {
					t.Fatalf("%v: error %d", c, int(e))
				}
			}
		}
	}
}

func TestTheFirstErrorIsTold(t *testing.T) {
	wrongRef, noName := api.Ref{Sum: api.Sum{1}}, "a b"
	for _, tooMany := range []bool{false, true} {
		for _, wrongName := range []bool{false, true} {
			for _, wrongTop := range []bool{false, true} {
				for _, wrongSnap := range []bool{false, true} {
					c := api.Catalog{Snaps: many(64)}
					if tooMany {
						c.Snaps = many(65)
					}
					if wrongName {
						c.Snaps[63].Name = noName // behind the wrong ref, which is told later all the same
					}
					if wrongSnap {
						c.Snaps[0].Top = wrongRef
					}
					if wrongTop {
						c.Top = wrongRef
					}
					want := api.OK
					switch {
					case tooMany:
						want = api.ErrSnaps
					case wrongName:
						want = api.ErrName
					case wrongTop || wrongSnap:
						want = api.ErrArg
					}
					if e := Check(c); e != want {
						t.Errorf("%v, %v, %v, %v: error %d", tooMany, wrongName, wrongTop, wrongSnap, int(e))
					}
					mustCheck(t, c)
				}
			}
		}
	}
}

func TestPutLaysWhatTheChapterSays(t *testing.T) {
	c := api.Catalog{Top: api.Ref{At: 0x01020304, Sum: run(5)}, Snaps: []api.Snap{{Name: "ab", Top: api.Ref{At: 258, Sum: run(100)}}, {Name: "c"}}}
	sum, other := run(5), run(100)
	want := slices.Concat([]byte{1, 2, 3, 4}, sum[:], []byte{2}, []byte{2, 'a', 'b', 0, 0, 1, 2}, other[:], []byte{1, 'c'}, make([]byte, 36))
	if got, e := Put(c); !bytes.Equal(got, want) || e != api.OK {
		t.Errorf("%x, error %d, not %x", got, int(e), want)
	}
	text, _ := octet.Text("ab")
	if got, _ := Put(c); !bytes.Equal(got[:4], octet.Put32(c.Top.At)) || !bytes.Equal(got[37:40], text) || !bytes.Equal(got[40:44], octet.Put32(258)) {
		t.Errorf("%x is not what octet lays", got)
	}
}

func TestPutOfTheGreatestCatalog(t *testing.T) {
	c := api.Catalog{Top: api.Ref{At: 1}}
	for i := range 64 {
		c.Snaps = append(c.Snaps, api.Snap{Name: strings.Repeat(string(byte(40+i)), 16), Top: api.Ref{At: uint32(i), Sum: api.Sum{0: byte(min(i, 1))}}})
	}
	b, e := Put(c)
	if len(b) != 37+64*(17+36) || e != api.OK {
		t.Fatalf("%d bytes, error %d", len(b), int(e))
	}
	got, e := Get(b)
	if !slowSame(got, c) || e != api.OK {
		t.Errorf("%v, error %d", got, int(e))
	}
}

func TestChecksOfAnyCatalogs(t *testing.T) {
	chance := rand.New(rand.NewSource(18))
	met := map[api.Errno]int{}
	for range 20000 {
		c := anyCatalog(chance, true)
		mustCheck(t, c)
		met[slowCheck(c)]++
	}
	if met[api.OK] < 500 || met[api.ErrName] < 500 || met[api.ErrArg] < 300 {
		t.Errorf("too few of a kind: %v", met)
	}
}

// P18.3: Get.

func TestWhatIsLaidIsRead(t *testing.T) {
	for _, c := range fewCatalogs() {
		b := slowPut(c)
		was := slices.Clone(b)
		got, e := Get(b)
		if !slowSame(got, c) || e != api.OK {
			t.Fatalf("%v, error %d, not %v", got, int(e), c)
		}
		if !bytes.Equal(b, was) {
			t.Fatalf("%v: the bytes are changed", c)
		}
	}
}

func TestNothingElseIsRead(t *testing.T) {
	mustNotGet(t, "nothing", nil)
	mustNotGet(t, "no bytes", []byte{})
	for _, c := range wrongCatalogs() {
		if len(c.Snaps) <= 255 { // so that a byte counts them
			mustNotGet(t, "what may not be", slowPut(c))
		}
		mustGet(t, "what may not be, cut to a byte", slowPut(c))
	}
	mustNotGet(t, "many bytes", make([]byte, 1<<20))
	mustNotGet(t, "many bytes that are not noughts", bytes.Repeat([]byte{255}, 1<<20))
}

func TestCutAndLongerBytesAreNotRead(t *testing.T) {
	for _, c := range fewCatalogs() {
		b := slowPut(c)
		for n := range b {
			mustNotGet(t, "cut", b[:n:n])
			mustNotGet(t, "cut, with room", b[:n])
		}
		for _, more := range [][]byte{{0}, {1}, {255}, make([]byte, 36), make([]byte, 37), make([]byte, 512), b} {
			mustNotGet(t, "longer", slices.Concat(b, more))
		}
		mustNotGet(t, "behind a nought", slices.Concat([]byte{0}, b))
	}
}

func TestEachByteOfALaidCatalog(t *testing.T) {
	for _, c := range []api.Catalog{{}, {Top: api.Ref{At: 1}}, {Snaps: []api.Snap{{Name: "a"}}}, {Top: api.Ref{At: 9, Sum: run(1)}, Snaps: []api.Snap{{Name: "ab", Top: api.Ref{At: 1 << 8}}, {Name: "ac"}, {Name: strings.Repeat("b", 16), Top: api.Ref{At: 3, Sum: run(4)}}}}} {
		b := slowPut(c)
		for at := range b {
			was := b[at]
			for one := range 256 {
				b[at] = byte(one)
				mustGet(t, "with another byte", b)
			}
			b[at] = was
		}
	}
}

func TestHowManyAreToldAndHowManyThereAre(t *testing.T) {
	for _, there := range []int{0, 1, 2, 63, 64, 65, 66, 128, 255} {
		for told := range 256 {
			b := slowPut(api.Catalog{Snaps: many(there)})
			b[36] = byte(told)
			if told == there && there <= 64 {
				mustGet(t, "all of them", b)
				continue
			}
			mustNotGet(t, "not all of them", b)
		}
	}
}

func TestGetOfAnyBytes(t *testing.T) {
	chance := rand.New(rand.NewSource(181))
	met := map[api.Errno]int{}
	for range 20000 {
		b := slowPut(anyCatalog(chance, chance.Intn(2) == 0))
		for range chance.Intn(3) {
			switch at := chance.Intn(len(b)); chance.Intn(4) {
			case 0:
				b[at] = byte(chance.Intn(256))
			case 1:
				b = slices.Delete(b, at, at+1)
			case 2:
				b = slices.Insert(b, at, byte(chance.Intn(128)))
			case 3:
				b[at] = 0
			}
		}
		mustGet(t, "any bytes", b)
		_, e := slowGet(b)
		met[e]++
		if c, e := Get(b); e == api.OK && !bytes.Equal(slowPut(c), b) {
			t.Fatalf("%x is read, and laid otherwise", b)
		}
	}
	if met[api.OK] < 2000 || met[api.ErrForm] < 2000 {
		t.Errorf("too few of a kind: %v", met)
	}
}

func FuzzGet(f *testing.F) {
	for _, c := range fewCatalogs() {
		f.Add(slowPut(c))
	}
	f.Fuzz(func(t *testing.T, b []byte) { mustGet(t, "any bytes", b) })
}

// P18.3: Same.

func TestSameLooksAtAllFields(t *testing.T) {
	all := fewCatalogs()
	for i, a := range all {
		for j, b := range all {
			if got, want := Same(a, b), slowSame(a, b); got != want || i == j && !got {
				t.Errorf("%v, %v: %v", a, b, got)
			}
		}
		if !Same(a, copied(a)) {
			t.Errorf("%v is not the same as it is", a)
		}
	}
}

func TestSameTellsEachFieldApart(t *testing.T) {
	c := api.Catalog{Top: api.Ref{At: 9, Sum: run(1)}, Snaps: many(4)}
	changes := []func(*api.Catalog){
		func(c *api.Catalog) { c.Top.At++ },
		func(c *api.Catalog) { c.Top.Sum[0]++ },
		func(c *api.Catalog) { c.Top.Sum[31]++ },
		func(c *api.Catalog) { c.Snaps = nil },
		func(c *api.Catalog) { c.Snaps = c.Snaps[:3] },
		func(c *api.Catalog) { c.Snaps = append(c.Snaps, c.Snaps[3]) },
		func(c *api.Catalog) { c.Snaps = append(c.Snaps, api.Snap{}) },
		func(c *api.Catalog) { c.Snaps[0], c.Snaps[1] = c.Snaps[1], c.Snaps[0] },
	}
	for i := range c.Snaps {
		changes = append(changes,
			func(c *api.Catalog) { c.Snaps[i].Name += "!" },
			func(c *api.Catalog) { c.Snaps[i].Name = "" },
			func(c *api.Catalog) { c.Snaps[i].Top.At++ },
			func(c *api.Catalog) { c.Snaps[i].Top.Sum[0]++ },
			func(c *api.Catalog) { c.Snaps[i].Top.Sum[31]++ })
	}
	for i, change := range changes {
		other := copied(c)
		change(&other)
		if Same(c, other) || Same(other, c) || !Same(other, copied(other)) {
			t.Errorf("the change %d is not seen: %v", i, other)
		}
	}
}

func TestSameOfNoneAndOfWhatMayNotBe(t *testing.T) {
	if !Same(api.Catalog{}, api.Catalog{Snaps: []api.Snap{}}) || !Same(api.Catalog{Snaps: make([]api.Snap, 0, 9)}, api.Catalog{}) {
		t.Error("an empty list and nil are not the same")
	}
	for _, c := range wrongCatalogs() {
		if !Same(c, copied(c)) || Same(c, api.Catalog{}) {
			t.Errorf("%v is not the same as it is", c)
		}
	}
}

// P18.4: Snap, Drop, Revert, Find.

func TestCallsFollowTheChapter(t *testing.T) {
	for _, c := range fewCatalogs() {
		for _, name := range slices.Concat(fewNames(), noNames(), Names(c)) {
			mustDo(t, c, name)
		}
	}
}

func TestCallsOfWhatMayNotBe(t *testing.T) {
	for _, c := range wrongCatalogs() {
		names := []string{"a", "b", "!", "", "a b", "zzz"}
		for i := 0; i < len(c.Snaps); i += 1 + len(c.Snaps)/5 {
			names = append(names, c.Snaps[i].Name)
		}
		for _, name := range names {
			mustDo(t, c, name)
			for _, s := range steps() {
				if _, e := s.fast(c, name); e != Check(c) || e == api.OK {
					t.Fatalf("%v: %s of %q: error %d, not Check's", c, s.what, name, int(e))
				}
			}
		}
	}
}

func TestSnapTellsTheFirstError(t *testing.T) {
	full := api.Catalog{Snaps: many(64)}
	for _, one := range []struct {
		c    api.Catalog
		name string
		want api.Errno
	}{
		{full, "", api.ErrName}, {full, "a b", api.ErrName}, {full, full.Snaps[63].Name, api.ErrThere}, {full, full.Snaps[0].Name, api.ErrThere}, {full, "zz", api.ErrSnaps}, {full, "!", api.ErrSnaps},
		{api.Catalog{Snaps: many(63)}, "zz", api.OK}, {api.Catalog{Snaps: many(63)}, "!", api.OK},
		{api.Catalog{Top: api.Ref{Sum: run(1)}}, "", api.ErrArg}, {api.Catalog{Snaps: []api.Snap{{Name: ""}}}, "a", api.ErrName}, {api.Catalog{Snaps: many(65)}, "", api.ErrSnaps}, {api.Catalog{Snaps: many(65)}, "s!!", api.ErrSnaps},
		{api.Catalog{Top: api.Ref{Sum: run(1)}, Snaps: many(64)}, "s!!", api.ErrArg},
	} {
		if c, e := Snap(one.c, one.name); e != one.want || e != api.OK && !slowSame(c, api.Catalog{}) {
			t.Errorf("%q to %d: %v, error %d, not %d", one.name, len(one.c.Snaps), c, int(e), int(one.want))
		}
	}
}

func TestSnapTakesTheTopAsItIs(t *testing.T) {
	c := api.Catalog{Top: api.Ref{At: 5, Sum: run(5)}, Snaps: []api.Snap{{Name: "b"}, {Name: "d", Top: api.Ref{At: 1}}}}
	for at, name := range []string{"a", "c", "e"} {
		got, e := Snap(c, name)
		want := slices.Insert(slices.Clone(c.Snaps), at, api.Snap{Name: name, Top: c.Top})
		if e != api.OK || got.Top != c.Top || !slices.Equal(got.Snaps, want) {
			t.Errorf("%q: %v, error %d", name, got, int(e))
		}
	}
}

func TestSnapshotsInEachOrderAreOne(t *testing.T) {
	names := []string{"a", "ab", "b", "B", "~", "!", "10", "9"}
	rising := []string{"!", "10", "9", "B", "a", "ab", "b", "~"}
	chance := rand.New(rand.NewSource(184))
	for range 200 {
		chance.Shuffle(len(names), func(i, j int) { names[i], names[j] = names[j], names[i] })
		c := api.Catalog{}
		for _, name := range names {
			c, _ = Snap(c, name)
		}
		if got := Names(c); !slices.Equal(got, rising) || Check(c) != api.OK {
			t.Fatalf("%q became %q", names, got)
		}
	}
}

func TestDropOfEachOne(t *testing.T) {
	for _, n := range []int{1, 2, 3, 64} {
		c := api.Catalog{Top: api.Ref{At: 1, Sum: run(1)}, Snaps: many(n)}
		for at, s := range c.Snaps {
			got, e := Drop(c, s.Name)
			want := slices.Delete(slices.Clone(c.Snaps), at, at+1)
			if e != api.OK || got.Top != c.Top || !slices.Equal(got.Snaps, want) {
				t.Fatalf("%q: %v, error %d", s.Name, got, int(e))
			}
			if _, e := Drop(got, s.Name); e != api.ErrNone {
				t.Fatalf("%q again: error %d", s.Name, int(e))
			}
		}
	}
}

func TestRevertToEachOne(t *testing.T) {
	c := api.Catalog{Top: api.Ref{At: 99, Sum: run(99)}, Snaps: many(64)}
	for _, s := range c.Snaps {
		got, e := Revert(c, s.Name)
		if e != api.OK || got.Top != s.Top || !slices.Equal(got.Snaps, c.Snaps) {
			t.Fatalf("%q: %v, error %d", s.Name, got, int(e))
		}
	}
}

func TestNoSnapshotOfThatName(t *testing.T) {
	c := api.Catalog{Top: api.Ref{At: 4}, Snaps: []api.Snap{{Name: "ab", Top: api.Ref{At: 1}}, {Name: "b", Top: api.Ref{At: 2}}}}
	for _, name := range append(noNames(), "a", "abc", "AB", "B", "c", "!", "~", "ab ", "ba") {
		for _, s := range steps()[1:] {
			if got, e := s.fast(c, name); e != api.ErrNone || !slowSame(got, api.Catalog{}) || got.Snaps != nil {
				t.Errorf("%s of %q: %v, error %d", s.what, name, got, int(e))
			}
		}
		if r, e := Find(c, name); e != api.ErrNone || r != (api.Ref{}) {
			t.Errorf("Find of %q: %v, error %d", name, r, int(e))
		}
	}
}

func TestFindTellsTheFirstOneWhateverTheCatalog(t *testing.T) {
	for _, c := range slices.Concat(fewCatalogs(), wrongCatalogs()) {
		for i := 0; i < len(c.Snaps); i += 1 + len(c.Snaps)/50 {
			got, e := Find(c, c.Snaps[i].Name)
			if want, _ := slowFind(c, c.Snaps[i].Name); e != api.OK || got != want {
				t.Fatalf("%q in %v: %v, error %d", c.Snaps[i].Name, c, got, int(e))
			}
		}
	}
	c := api.Catalog{Top: api.Ref{Sum: run(9)}, Snaps: []api.Snap{{Name: "z", Top: api.Ref{At: 1}}, {Name: "", Top: api.Ref{Sum: run(1)}}, {Name: "a", Top: api.Ref{At: 2}}, {Name: "z", Top: api.Ref{At: 3}}, {Name: "a", Top: api.Ref{At: 4}}}}
	for name, want := range map[string]api.Ref{"z": {At: 1}, "": {Sum: run(1)}, "a": {At: 2}} {
		if r, e := Find(c, name); r != want || e != api.OK {
			t.Errorf("%q: %v, error %d", name, r, int(e))
		}
	}
	if _, e := Find(c, "b"); e != api.ErrNone {
		t.Errorf("error %d", int(e))
	}
}

// P18.4: Names.

func TestNamesAreToldInOrder(t *testing.T) {
	for _, c := range slices.Concat(fewCatalogs(), wrongCatalogs()) {
		got := Names(c)
		if len(got) != len(c.Snaps) {
			t.Fatalf("%v: %q", c, got)
		}
		for i, name := range got {
			if name != c.Snaps[i].Name {
				t.Fatalf("%v: %q", c, got)
			}
		}
	}
}

// P18.5: what is done to one snapshot changes nothing of another one.

func TestWhatIsDoneToOneLeavesTheOthers(t *testing.T) {
	c := api.Catalog{Top: api.Ref{At: 77, Sum: run(77)}, Snaps: many(20)}
	for _, s := range c.Snaps {
		snapped, _ := Snap(c, s.Name+"!")
		dropped, _ := Drop(c, s.Name)
		reverted, _ := Revert(c, s.Name)
		for _, other := range c.Snaps {
			for what, after := range map[string]api.Catalog{"a new one": snapped, "one less": dropped, "going back": reverted} {
				got, e := Find(after, other.Name)
				if what == "one less" && other == s {
					if e != api.ErrNone {
						t.Fatalf("%q is there still", s.Name)
					}
				} else if got != other.Top || e != api.OK {
					t.Fatalf("%s at %q: %q is %v, error %d", what, s.Name, other.Name, got, int(e))
				}
			}
		}
	}
}

func TestGetOfPutIsTheCatalog(t *testing.T) {
	chance := rand.New(rand.NewSource(185))
	for range 3000 {
		c := anyCatalog(chance, false)
		b, e := Put(c)
		got, f := Get(b)
		if e != api.OK || f != api.OK || !Same(got, c) || !slowSame(got, c) {
			t.Fatalf("%v, errors %d and %d, not %v", got, int(e), int(f), c)
		}
	}
}

func TestAnyStepsAgainstAMap(t *testing.T) {
	chance := rand.New(rand.NewSource(186))
	c, kept := api.Catalog{}, map[string]api.Ref{}
	met := map[api.Errno]int{}
	for turn := range 30000 {
		name := string([]byte{byte(33 + chance.Intn(94)), "!a~ "[chance.Intn(4)]}[:1+chance.Intn(2)])
		if chance.Intn(3) == 0 {
			c.Top = api.Ref{At: uint32(1 + turn), Sum: run(byte(turn))}
		}
		s := steps()[chance.Intn(3)] // few of the names are there, so more are made than dropped till there are 64
		after, e := s.fast(c, name)
		if want, f := s.slow(c, name); !slowSame(after, want) || e != f {
			t.Fatalf("%s of %q: %v, error %d, not %v, error %d", s.what, name, after, int(e), want, int(f))
		}
		met[e]++
		if e != api.OK {
			continue
		}
		switch s.what {
		case "Snap":
			kept[name] = c.Top
		case "Drop":
			delete(kept, name)
		}
		c = after
		if len(kept) != len(Names(c)) || Check(c) != api.OK {
			t.Fatalf("%d snapshots, not %d", len(Names(c)), len(kept))
		}
		for name, top := range kept {
			if r, e := Find(c, name); r != top || e != api.OK {
				t.Fatalf("%q is %v, error %d, not %v", name, r, int(e), top)
			}
		}
	}
	for _, e := range []api.Errno{api.OK, api.ErrName, api.ErrThere, api.ErrSnaps, api.ErrNone} {
		if met[e] < 50 {
			t.Errorf("too few of a kind: %v", met)
		}
	}
}

// Rule 3: arguments are left, answers are new memory, and their spare room, too.

func TestAnswersAreNewMemory(t *testing.T) {
	room := append(many(3), many(9)...) // what stands behind the list is the caller's
	was := slices.Clone(room)
	c := api.Catalog{Top: api.Ref{At: 8}, Snaps: room[:3]}
	for _, s := range steps() {
		for _, name := range []string{"!", "s!!", "s!\"", "s!#", "zz", "s!\"a"} {
			one, _ := s.fast(c, name)
			other, _ := s.fast(c, name)
			want, _ := s.slow(c, name)
			spoil(one.Snaps)
			if !slices.Equal(room, was) || !slowSame(other, want) {
				t.Fatalf("%s of %q shares its memory", s.what, name)
			}
			spoil(other.Snaps)
			if !slices.Equal(room, was) {
				t.Fatalf("%s of %q shares its memory", s.what, name)
			}
		}
	}
	names, others := Names(c), Names(c)
	spoiled := names[:cap(names)]
	for i := range spoiled {
		spoiled[i] = "?"
	}
	if !slices.Equal(room, was) || !slices.Equal(others, []string{"s!!", "s!\"", "s!#"}) {
		t.Error("Names shares its memory")
	}
}

func TestBytesAreNewMemory(t *testing.T) {
	c := api.Catalog{Top: api.Ref{At: 8, Sum: run(8)}, Snaps: many(5)}
	one, _ := Put(c)
	other, _ := Put(c)
	all := one[:cap(one)]
	for i := range all {
		all[i] = 0xee
	}
	if !bytes.Equal(other, slowPut(c)) || !slices.Equal(c.Snaps, many(5)) {
		t.Error("two answers have one memory")
	}
	b := slowPut(c)
	got, _ := Get(b)
	again, _ := Get(b)
	for i := range b {
		b[i] = 0xee
	}
	if !slowSame(got, c) {
		t.Error("what was read shares the bytes' memory")
	}
	spoil(got.Snaps)
	if !slowSame(again, c) {
		t.Error("two answers have one memory")
	}
}

// spoil writes over a list and the room behind it.
func spoil(snaps []api.Snap) {
	all := snaps[:cap(snaps)]
	for i := range all {
		all[i] = api.Snap{Name: "?", Top: api.Ref{At: 0xeeeeeeee}}
	}
}

func TestNothingIsMadeOfNothing(t *testing.T) {
	if e := Check(api.Catalog{}); e != api.OK {
		t.Errorf("error %d", int(e))
	}
	if got := Names(api.Catalog{Top: api.Ref{At: 1}}); len(got) != 0 {
		t.Errorf("%q", got)
	}
	c, e := Snap(api.Catalog{}, "only")
	if e != api.OK {
		t.Fatalf("error %d", int(e))
	}
	c, e = Drop(c, "only")
	if e != api.OK || !Same(c, api.Catalog{}) || len(c.Snaps) != 0 {
		t.Errorf("%v, error %d", c, int(e))
	}
}

func BenchmarkPutAndGet(b *testing.B) {
	c := api.Catalog{Top: api.Ref{At: 1}, Snaps: many(64)}
	for b.Loop() {
		laid, _ := Put(c)
		if _, e := Get(laid); e != api.OK {
			b.Fatal(int(e))
		}
	}
}

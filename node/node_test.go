package node

import (
	"bytes"
	"slices"
	"testing"

	"reliquary/api"
	"reliquary/octet"
	"reliquary/sha"
)

var key = api.Key(run(0))

// The chapter's examples.

func TestExamples(t *testing.T) {
	b := Put(api.Node{})
	if len(b) != 288 || !octet.Nought(b) || !Empty(api.Node{}) {
		t.Errorf("%x", b)
	}
	mustNotGet(t, "287 noughts", make([]byte, 287))
	if Sum([]byte("x")) != sha.Of([]byte("nodex")) {
		t.Errorf("the sum %x", Sum([]byte("x")))
	}
}

// P15.1: Put.

func TestPutFollowsTheChapter(t *testing.T) {
	for _, n := range append(fewNodes(), wrongNodes()...) { // refs that may not be are laid, too
		if got := Put(n); !bytes.Equal(got, slowPut(n)) {
			t.Fatalf("%v: %x", n, got)
		}
	}
}

// TestKnownNodes has what another SHA-256 told of nodes that were laid by another program: of them alone, and of them in a cluster of one sector.
func TestKnownNodes(t *testing.T) {
	var turns api.Node
	for i := range turns {
		turns[i] = api.Ref{At: []uint32{0x01020304, 0x10203040}[i%2], Sum: run(byte(3 * i))}
	}
	ones := api.Sum(bytes.Repeat([]byte{255}, 32))
	for _, c := range []struct {
		n             api.Node
		laid, cluster string
	}{
		{api.Node{},
			"2d5565fb483d8ea4525a7a9229677d1038ad34b6e22c8d5152e1d7f7b9817597", "6a966af8efa12f59d88b2dd0b5d9111ec2ed021165f53125b795aebc7ee54393"},
		{api.Node{3: {At: 9, Sum: api.Sum{1}}},
			"c0e1a320a27937299f41806f17c4c6ce513199996c29ce2b729c99afabcb4f1e", "d7b6a763126441e03d4471eb399e2117d7b1d63e9b3b47eeb4b509ad81630844"},
		{api.Node{0: {At: 1, Sum: run(0)}},
			"42512ea3d11c62c16625094f76659dc69e38bf1fe31a873eb094524a337a63f8", "b97f02c91e87ea3875c404804609ea3cca6d06c424672ab5ac65d28846e81017"},
		{api.Node{7: {At: 0xffffffff, Sum: run(200)}},
			"c780bab3819b8cdcd8d982eecff22696eca86c135468a48c25da879d15aa23d4", "0bf0e3a9f6ac1cc82d971caac7afeb52da598648c980725e9c3e2474c29e379f"},
		{full(),
			"c89e7727b6dcf75ac646c1897cfd53c4fee8d19689f10ce8fd83d97617cc4f92", "04d926b3ef6c0b45517c72c7cbb65e098473e3e28d489301010c45c5b709da7f"},
		{turns,
			"e82aab5bd069980f688712c41b3851e4e0df8733bdf59c120efe91df7cf74a85", "5de6302e1dda2ba89ef188dcd78f2718eb639b7642e69289e919b8070d63afbe"},
		{api.Node{0: {At: 1}, 2: {At: 1}, 4: {At: 65536, Sum: ones}, 6: {At: 256, Sum: run(9)}},
			"814dd0407eeec0c30e1c474eeb63197ab877a386d495b811647800712a3c150e", "cb95609ad5da313a9f5cfa248380c1773e8a42b9a38128eb3422963dae876089"},
	} {
		b := Put(c.n)
		laid := sha.Of(b)
		cluster := Sum(append(b, make([]byte, 512-288)...))
		if sha.Hex(laid[:]) != c.laid || sha.Hex(cluster[:]) != c.cluster {
			t.Errorf("%v: laid with the sum %x, in a cluster with %x", c.n, laid, cluster)
		}
	}
}

func TestPutAnswersNewMemory(t *testing.T) {
	unlike := wrongNodes()[0]
	for _, n := range fewNodes() {
		given := n
		got, other := Put(n), Put(n)
		room := got[:cap(got)]
		for i := range room {
			room[i] = 0xee
		}
		if n != given || !bytes.Equal(other, slowPut(n)) { // asked ahead of a further call, which would lay the same bytes again
			t.Fatal("two answers have one memory")
		}
		if later := Put(unlike); !bytes.Equal(other, slowPut(n)) || !bytes.Equal(later, slowPut(unlike)) {
			t.Fatal("a later answer has the memory of one ahead")
		}
	}
}

// P15.1: Get.

func TestGetLeadsBackFromWhatWasLaidByHand(t *testing.T) {
	for _, n := range fewNodes() {
		if got, e := Get(slowPut(n)); got != n || e != api.OK {
			t.Fatalf("%v: %v, error %d", n, got, int(e))
		}
	}
}

func TestGetRefusesRefsThatMayNotBe(t *testing.T) {
	for _, n := range wrongNodes() {
		mustNotGet(t, "a sum that stands nowhere", slowPut(n))
	}
}

// TestGetAsksForTheWholeOfAt lets one byte alone of the number be another one than 0.
func TestGetAsksForTheWholeOfAt(t *testing.T) {
	for _, n := range wrongNodes() {
		for i := range n {
			if n[i].At != 0 {
				continue
			}
			for byteOf := range 4 {
				b := slowPut(n)
				b[36*i+byteOf] = 0x80
				mustGet(t, "a number with one byte", b)
			}
		}
	}
	for byteOf := range 4 {
		b := slowPut(api.Node{5: {Sum: run(1)}})
		b[36*5+byteOf] = 1
		if n, e := Get(b); e != api.OK || n[5].At != 1<<(24-8*byteOf) || n[5].Sum != run(1) {
			t.Errorf("the number's byte %d: %v, error %d", byteOf, n, int(e))
		}
	}
}

// TestGetLooksAtEachByte lets each byte be any other one.
func TestGetLooksAtEachByte(t *testing.T) {
	for _, n := range []api.Node{{}, full(), {3: {At: 9, Sum: api.Sum{1}}}, {0: {At: 1}, 7: {At: 1 << 24}}} {
		b := slowPut(n)
		for at := range b {
			was := b[at]
			for turn := 1; turn < 256; turn++ {
				b[at] = was ^ byte(turn)
				mustGet(t, "a byte that is another", b)
			}
			b[at] = was
		}
	}
}

func TestGetRefusesOtherSizes(t *testing.T) {
	for _, n := range []api.Node{{}, full()} {
		more := slices.Concat(slowPut(n), slowPut(n), make([]byte, 512))
		for size := range len(more) + 1 {
			if size != 288 {
				mustNotGet(t, "another size", more[:size:size])
				mustNotGet(t, "another size, with room", more[:size])
				mustNotGet(t, "noughts", make([]byte, size))
			}
		}
	}
	mustNotGet(t, "none", nil)
	mustNotGet(t, "none", []byte{})
	mustNotGet(t, "many", make([]byte, 1<<20))
	mustNotGet(t, "a node and as many bytes as a cluster has", append(slowPut(full()), make([]byte, 224)...))
}

func TestGetNeitherChangesNorKeepsWhatItIsGiven(t *testing.T) {
	room := append(slowPut(full()), 1, 2, 3)
	given := slices.Clone(room)
	got, e := Get(room[:288])
	if got != full() || e != api.OK || !bytes.Equal(room, given) {
		t.Errorf("%v, error %d, behind it %x", got, int(e), room)
	}
	clear(room)
	if later, _ := Get(given[:288]); got != full() || later != full() {
		t.Error("a change of what was given is to be seen")
	}
}

// P15.1: Empty.

func TestEmptyLooksAtEachRef(t *testing.T) {
	if !Empty(api.Node{}) {
		t.Error("nothing is something")
	}
	for i := range api.Fan {
		for _, at := range places() {
			if Empty(only(i, api.Ref{At: at})) || Empty(only(i, api.Ref{At: at, Sum: run(1)})) {
				t.Errorf("the ref %d to %d is none", i, at)
			}
		}
	}
}

// TestEmptyGoesByTheNumbersAlone has sums that stand nowhere.
func TestEmptyGoesByTheNumbersAlone(t *testing.T) {
	var sums api.Node
	for i := range sums {
		sums[i].Sum = run(byte(i + 1))
		if one := only(i, api.Ref{Sum: run(5)}); !Empty(one) {
			t.Errorf("%v has something below it", one)
		}
	}
	if !Empty(sums) {
		t.Errorf("%v has something below it", sums)
	}
	for i := range sums {
		one := sums
		one[i].At = 1
		if Empty(one) {
			t.Errorf("%v has nothing below it", one)
		}
	}
}

func TestEmptyFollowsTheChapter(t *testing.T) {
	for _, n := range append(fewNodes(), wrongNodes()...) {
		if Empty(n) != slowEmpty(n) {
			t.Fatalf("%v: %v", n, Empty(n))
		}
	}
}

// P15.2: Sum, Page.

func TestSumAndPageFollowTheChapter(t *testing.T) {
	for _, b := range texts() {
		if Sum(b) != slowSum("node", b) || Page(b) != slowSum("page", b) {
			t.Fatalf("%d bytes: %x and %x", len(b), Sum(b), Page(b))
		}
	}
}

// TestKnownSums has what another SHA-256 told.
func TestKnownSums(t *testing.T) {
	for _, c := range []struct {
		size       int
		node, page string
	}{
		{0, "545ea538461003efdc8c81c244531b003f6f26cfccf6c0073b3239fdedf49446", "3660315a9af3df255d8f19ab077e4797822b41488a0e2a04bc6af71213c23274"},
		{1, "6dacedcf182a410f39fe88a3fdfc6e8c1a8c8611c3c47b16018cf397bf942731", "0b9225e490e4fda7f3eaee7c25b3d708206381bbaa74ca177e66ab7723e7b16a"},
		{51, "0b231700c908b1816641d7a7d65f29c05db4738f682be03e654605117fe46a9b", "dc28cf18ba681a47be1b7799f3df59d472ec3c2a3c05f64f423c5b5d9da0b9cc"},
		{52, "b937febac7cc7990aec89ce0e7ed6174582b0626f8051ef6e232af691922781e", "b9ed788582bc4d168cef7b0a249a33e4a684360980279d7f11ef8f898d9132d0"},
		{59, "f19a8e9dd4c9ad6d073e712272962cbaeccebdc7175b4afdb5905a5a369dcf07", "b6a4ca81c30aa7a8a93b1c4450d374e531c86eef8021a249354947196dbdd5e2"},
		{60, "222701e42fad0d35fcef0cab9352eef84f851e7750bade86114d270fe4af2544", "9ef1749a3651081b8191bd684a43d30edeb5267480a319b4b1ad72a8e9f75713"},
		{61, "83112ab6cfd5d5c5de0a4a972fa646dd2f22e5d31252f2afdcbd5d01c7e59c38", "da170b263d7c5401e0e4f0a37322d8da41b6343dfa5e39a8e153b02d98118eff"},
		{288, "d980437d520d3cfc22e994383c0d1f8cf903122a08580f4c2b3096025df77889", "59fe7d158e6a7fbaab507fdd297bf4d7e0e9d62c240e075d2b4cd8a62241005b"},
		{512, "99aea2ed401262dd3c021d863afb93f59da0bc84cbf6ab06cc35dd69bdee58a9", "10106de0fe31660c0a912484f78bf906f4e6f24b1ec7ea0c2037e8beb1cf44ff"},
		{1024, "3b9128bff15f7130cf899175148fb92f99d1c1f4d6368aef5444db497c4f81c5", "7f7748da2963fe497a9a8b650ddaa6c06dba58a183a5ceeabcc9e4ae807bbc0d"},
	} {
		one, other := Sum(count(c.size)), Page(count(c.size))
		if sha.Hex(one[:]) != c.node || sha.Hex(other[:]) != c.page {
			t.Errorf("%d bytes: %x and %x", c.size, one, other)
		}
	}
}

// P15.2: Leaf.

func TestLeafFollowsTheChapter(t *testing.T) {
	for _, b := range texts() {
		for _, at := range []uint32{0, 1, 65536, 0x01020304} {
			if got := Leaf(key, at, b); got != slowLeaf(key, at, b) {
				t.Fatalf("%d bytes at %d: %x", len(b), at, got)
			}
		}
	}
	for _, at := range append(places(), 0) {
		for _, k := range []api.Key{{}, key, run(200), {31: 1}} {
			if got := Leaf(k, at, count(512)); got != slowLeaf(k, at, count(512)) {
				t.Fatalf("at %d: %x", at, got)
			}
		}
	}
}

// TestKnownLeaves has what another HMAC told.
func TestKnownLeaves(t *testing.T) {
	for _, c := range []struct {
		key  api.Key
		at   uint32
		size int
		want string
	}{
		{api.Key{}, 0, 0, "3170ca6a289da57540260d08e664e9e620e15b70597151dbfc37f8361a339b3b"},
		{api.Key{}, 1, 0, "f33065d5f91fd11431bbb0aa8efc4800a8753b15fbfd50eef7ae108429843497"},
		{api.Key{}, 2, 0, "1342602296cabe319175f22234ff7d22a4834fe81a6580b38e54cdb0618244e1"},
		{run(0), 1, 512, "3a28145fc841582ccbadc2c485c271398112000b471fddb3262b9b04a9f0dc8c"},
		{run(0), 65536, 512, "60db321cbbd15802d6b83e501614458d9963763b822ef0afeb35f6138e1931f6"},
		{run(200), 0xffffffff, 1024, "12381293d5460dad1574a207ea1ed7d8d2d73f21ba0420ab8df78acdd93048ab"},
		{run(0), 0x01020304, 47, "3999dc632dabd05b1466d8ce2a1fb735913f9db886e692452d60c8c92510a9e0"},
		{run(0), 0x01020304, 48, "bc5477cad0cb9dea60d80a5ff73e5ed959737912e5be7249b683d6e8a111da07"},
		{api.Key(bytes.Repeat([]byte{255}, 32)), 1 << 31, 1024, "b98e765bb884762164a48d6dbb064e09d7b9b3d2c2bc4d8949215dfd4e87c3a7"},
	} {
		if got := Leaf(c.key, c.at, count(c.size)); sha.Hex(got[:]) != c.want {
			t.Errorf("%d bytes at %d: %x", c.size, c.at, got)
		}
	}
}

func TestEachBitOfTheKeyAndOfThePlaceCounts(t *testing.T) {
	for _, b := range [][]byte{nil, count(512), count(1024)} {
		seen := map[api.Sum]bool{Leaf(key, 0, b): true}
		for i := range key {
			for bit := range 8 {
				other := key
				other[i] ^= 1 << bit
				seen[Leaf(other, 0, b)] = true
			}
		}
		for bit := range 32 {
			seen[Leaf(key, 1<<bit, b)] = true
		}
		if len(seen) != 1+256+32 {
			t.Errorf("%d bytes: %d sums", len(b), len(seen))
		}
	}
}

// P15.2: all of them.

func TestTheKindsHaveUnlikeSums(t *testing.T) {
	for _, b := range texts() {
		seen := map[api.Sum]bool{sha.Of(b): true, Sum(b): true, Page(b): true, Leaf(key, 1, b): true, Leaf(api.Key{}, 1, b): true}
		if len(seen) != 5 {
			t.Errorf("%d bytes: %d sums", len(b), len(seen))
		}
	}
}

func TestSumsNeitherChangeNorKeepWhatTheyAreGiven(t *testing.T) {
	room := count(600)
	for _, size := range []int{0, 1, 288, 512} {
		node, page, leaf := Sum(room[:size]), Page(room[:size]), Leaf(key, 7, room[:size])
		if !bytes.Equal(room, count(600)) {
			t.Fatalf("what was given is %x now", room)
		}
		for i := range room {
			room[i] = 0xee
		}
		if node != slowSum("node", count(size)) || page != slowSum("page", count(size)) || leaf != slowLeaf(key, 7, count(size)) {
			t.Errorf("%d bytes: a change of what was given is to be seen", size)
		}
		copy(room, count(600))
		if Sum(room[:size]) != node || Page(room[:size]) != page || Leaf(key, 7, room[:size]) != leaf {
			t.Errorf("%d bytes: other sums later", size)
		}
	}
}

// P15.3.

func TestGetOfPutIsTheNode(t *testing.T) {
	for _, n := range fewNodes() {
		if got, e := Get(Put(n)); got != n || e != api.OK {
			t.Fatalf("%v: %v, error %d", n, got, int(e))
		}
	}
}

func TestUnlikeNodesAreLaidUnlike(t *testing.T) {
	seen := map[string]api.Node{}
	for _, n := range append(fewNodes(), wrongNodes()...) {
		laid := string(Put(n))
		if other, met := seen[laid]; met && n != other {
			t.Fatalf("%v is laid as %v", n, other)
		}
		seen[laid] = n
	}
}

func TestWhatWasTurnedIsSeen(t *testing.T) {
	leaf := func(b []byte) api.Sum { return Leaf(key, 3, b) }
	cluster := append(Put(full()), make([]byte, 224)...)
	for _, b := range [][]byte{nil, {0}, make([]byte, 512), count(512), cluster} {
		mustSeeAllTurned(t, "a node", b, Sum)
		mustSeeAllTurned(t, "a page", b, Page)
		mustSeeAllTurned(t, "data", b, leaf)
	}
}

// TestDataLaidElsewhereAreSeen has data that begin as a place does.
func TestDataLaidElsewhereAreSeen(t *testing.T) {
	for _, b := range [][]byte{nil, count(512), make([]byte, 1024)} {
		for _, at := range places() {
			if Leaf(key, at, b) == Leaf(key, at-1, b) || Leaf(key, at, b) == Leaf(key, 0, append(four(at), b...)) {
				t.Fatalf("%d bytes at %d have the sum of others", len(b), at)
			}
		}
	}
}

package wrap

import (
	"testing"

	"reliquary/api"
	"reliquary/kdf"
	"reliquary/sha"
)

// known is what another AES and another HMAC made of some keys.
var known = []struct{ by, master, sealed, check string }{
	{"0000000000000000000000000000000000000000000000000000000000000000", "0000000000000000000000000000000000000000000000000000000000000000", "0101a7f0806d807437e3b7c21a2e3337184cda17e1b9f73882dc4b3dec4a1f65", "45fc318e561a91715d646ac2017ff4eb3ff5c1fd8a948f707a9394da5c71e851"},
	{"ffffffffffffffffffffffffffffffffffffffffffffffffffffffffffffffff", "0000000000000000000000000000000000000000000000000000000000000000", "a68763b86f6154736948f2877acb393499889cc813b0755d242d3ef475b5b441", "f048d08d08ae9f420e2644d6d47b56d125efc5da9f663fcfdd9109d656e487d8"},
	{"0000000000000000000000000000000000000000000000000000000000000000", "ffffffffffffffffffffffffffffffffffffffffffffffffffffffffffffffff", "fefe580f7f927f8bc81c483de5d1ccc8e7b325e81e4608c77d23b4c213b5e09a", "7bdbbf0e8cd6e0a8128e5a2b7c3d2659d50107e76577f29f6c0fea43f5af4e15"},
	{"ffffffffffffffffffffffffffffffffffffffffffffffffffffffffffffffff", "ffffffffffffffffffffffffffffffffffffffffffffffffffffffffffffffff", "59789c47909eab8c96b70d788534c6cb66776337ec4f8aa2dbd2c10b8a4a4bbe", "d9bb49b0edeb1c79467f0dced892ba5e92f33ceae5a38a23aa6db765364ab107"},
	{"0102030000000000000000000000000000000000000000000000000000000000", "0908070000000000000000000000000000000000000000000000000000000000", "833cc0703b499172dffd738ba935664bbb19daee13b094a7e91d0d8ff34f149e", "1f31c8390d88656af8d8be12fc0d747d509b2b16c2f1279dd3e8249567a37175"},
	{"000102030405060708090a0b0c0d0e0f101112131415161718191a1b1c1d1e1f", "202122232425262728292a2b2c2d2e2f303132333435363738393a3b3c3d3e3f", "b7c2f6b59ae320f2a018e9056968b14f9d9b7e145cebb81c954b85a6057d4450", "f05514f89502199fb52979d558b724156b858898393c149da69f25bd1e54bf7a"},
	{"00254a6f94b9de03284d7297bce1062b50759abfe4092e53789dc2e70c31567b", "81a6cbf0153a5f84a9cef3183d6287acd1f61b40658aafd4f91e43688db2d7fc", "79571733650d515fc641fd3ff7baf4853efce9b943c5c6d069d4f2cd78ac1ab9", "bbe13c8a9c370c4a5b17a6a3d5b0fd9822bc6949d82287b7ab14d4c08e895d3c"},
	{"81a6cbf0153a5f84a9cef3183d6287acd1f61b40658aafd4f91e43688db2d7fc", "00254a6f94b9de03284d7297bce1062b50759abfe4092e53789dc2e70c31567b", "658d0379c8d3763ba08b57077f67efaa3dc61fec3979d83c640f6e7000176fa4", "42c40ea85caca26e319affc986c2f9a1b89bf052a80a1296f79a1d0022dadede"},
	{"052a4f7499bee3082d52779cc1e60b30557a9fc4e90e33587da2c7ec11365b80", "052a4f7499bee3082d52779cc1e60b30557a9fc4e90e33587da2c7ec11365b80", "fb332b3c6a1cdec4a33eafb1ac4db9ed60b38e755482dec71a70e65375751b40", "10aafe302176ba9dbfd109003514b53d97cc9ff0ce58be73b755c4027370734a"},
	{"0000000000000000000000000000000000000000000000000000000000000001", "8000000000000000000000000000000000000000000000000000000000000000", "ef2dc24d2244a46c99d6a097cd25ca4c55964ee3e381ad0ba860e427903bbefd", "0616845e9a63eb84c29e2c613896bee6444e24f0a2caa315ca8b5dfaf90f42d0"},
	{"8000000000000000000000000000000000000000000000000000000000000000", "0000000000000000000000000000000000000000000000000000000000000001", "9261c4162a7cbe3a3d0caf710fa66b0c66d4dfa9702310bc37e041126725b383", "4d16dc622fb14e340157ff02354f13a8c0ab09c40aa731be44c7d299b9553ff4"},
}

// P8.1: Seal.

func TestSealKnownKeys(t *testing.T) {
	for i, c := range known {
		sealed, check := Seal(keyOf(t, c.by), keyOf(t, c.master))
		if sha.Hex(sealed[:]) != c.sealed || sha.Hex(check[:]) != c.check {
			t.Errorf("case %d: %x and %x, not %s and %s", i, sealed, check, c.sealed, c.check)
		}
	}
}

// TestSealAgainAndAgain has what another AES and another HMAC told, each time by what was sealed, of its check.
func TestSealAgainAndAgain(t *testing.T) {
	by, master, h := sample(1), sample(2), sha.New()
	for range 1000 {
		sealed, check := Seal(by, master)
		h.Write(sealed[:])
		h.Write(check[:])
		by, master = sealed, api.Key(check)
	}
	sum := h.Sum()
	if got := sha.Hex(sum[:]); got != "c85fba076a341cd16b11ad34056d391104e854821bbe7701c392da9c0bdc87fa" {
		t.Errorf("the sum of all: %s", got)
	}
	if got := sha.Hex(by[:]); got != "ac99e7c704b765f6df6388e5c13daa979d80702ae2165bdd1776a9ba5db24c49" {
		t.Errorf("the last sealed key: %s", got)
	}
	if got := sha.Hex(master[:]); got != "85040e27851f0672fe110fc303c2eabf0a4100c84d20509397d610f82d5014d0" {
		t.Errorf("the last check: %s", got)
	}
}

func TestSealFollowsTheChapter(t *testing.T) {
	for _, by := range someKeys() {
		for _, master := range someKeys() {
			sealed, check := Seal(by, master)
			if want := slowMasked(by, master); sealed != want {
				t.Fatalf("by %x of %x: %x, not %x", by, master, sealed, want)
			}
			if want := slowCheck(by, sealed); check != want || Check(by, sealed) != want {
				t.Fatalf("by %x of %x: the check %x, not %x", by, master, check, want)
			}
		}
	}
}

func TestSealOfNoughtsIsTheMask(t *testing.T) {
	for _, by := range someKeys() {
		mask, _ := Seal(by, api.Key{})
		if mask != api.Key(slowMask(by)) || mask == (api.Key{}) {
			t.Fatalf("by %x: %x", by, mask)
		}
		if [16]byte(mask[:16]) == [16]byte(mask[16:]) {
			t.Fatalf("by %x: both halves are masked alike, %x", by, mask)
		}
		if sealed, check := Seal(by, mask); sealed != (api.Key{}) || check != slowCheck(by, api.Key{}) {
			t.Fatalf("by %x of its mask: %x and %x", by, sealed, check)
		}
	}
}

func TestEachBitOfTheMasterCountsWhereItStands(t *testing.T) {
	for _, by := range []api.Key{{}, sample(3)} {
		sealed, check := Seal(by, sample(4))
		seen := map[api.Sum]bool{check: true}
		for bit := range 256 {
			got, other := Seal(by, turned(sample(4), bit))
			if got != turned(sealed, bit) {
				t.Fatalf("by %x the bit %d: %x, not %x", by, bit, got, turned(sealed, bit))
			}
			if seen[other] {
				t.Fatalf("by %x the bit %d: the check %x was met", by, bit, other)
			}
			seen[other] = true
		}
	}
}

func TestEachBitOfTheSealingKeyCounts(t *testing.T) {
	sealed, check := Seal(sample(3), sample(4))
	halves, checks := map[[16]byte]bool{[16]byte(sealed[:16]): true, [16]byte(sealed[16:]): true}, map[api.Sum]bool{check: true}
	for bit := range 256 {
		got, other := Seal(turned(sample(3), bit), sample(4))
		for _, half := range [][]byte{got[:16], got[16:]} {
			if halves[[16]byte(half)] {
				t.Fatalf("the bit %d: the half %x was met", bit, half)
			}
			halves[[16]byte(half)] = true
		}
		if checks[other] {
			t.Fatalf("the bit %d: the check %x was met", bit, other)
		}
		checks[other] = true
	}
}

// P8.1: Check.

func TestCheckKnownKeys(t *testing.T) {
	for i, c := range known {
		check := Check(keyOf(t, c.by), keyOf(t, c.sealed))
		if got := sha.Hex(check[:]); got != c.check {
			t.Errorf("case %d: %s, not %s", i, got, c.check)
		}
	}
}

func TestCheckIsOfTheSealedKey(t *testing.T) {
	for _, by := range someKeys() {
		for _, sealed := range someKeys() {
			if got, want := Check(by, sealed), slowCheck(by, sealed); got != want {
				t.Fatalf("by %x of %x: %x, not %x", by, sealed, got, want)
			}
		}
		if _, check := Seal(by, sample(9)); check == slowCheck(by, sample(9)) {
			t.Fatalf("by %x: the check is that of the master key", by)
		}
	}
}

func TestCheckHangsOnEachBitOfBoth(t *testing.T) {
	seen := map[api.Sum]bool{Check(sample(3), sample(4)): true}
	for bit := range 256 {
		for _, check := range []api.Sum{Check(turned(sample(3), bit), sample(4)), Check(sample(3), turned(sample(4), bit))} {
			if seen[check] {
				t.Fatalf("the bit %d: %x was met", bit, check)
			}
			seen[check] = true
		}
	}
	if Check(sample(4), sample(3)) == Check(sample(3), sample(4)) {
		t.Error("which key is which does not count")
	}
}

// P8.2: Open.

func TestOpenExamples(t *testing.T) {
	for _, by := range someKeys() {
		for _, master := range someKeys() {
			sealed, check := Seal(by, master)
			if got := mustOpen(t, by, sealed, check); got != master {
				t.Fatalf("by %x: %x, not %x", by, got, master)
			}
			mustRefuse(t, "the zero check", by, sealed, api.Sum{})
		}
	}
}

func TestOpenKnownKeys(t *testing.T) {
	for i, c := range known {
		got := mustOpen(t, keyOf(t, c.by), keyOf(t, c.sealed), api.Sum(keyOf(t, c.check)))
		if sha.Hex(got[:]) != c.master {
			t.Errorf("case %d: %x, not %s", i, got, c.master)
		}
	}
}

// What is opened need not come from Seal: the check alone tells.
func TestOpenOfWhatHasItsCheck(t *testing.T) {
	for _, by := range someKeys() {
		for _, sealed := range someKeys() {
			if got, want := mustOpen(t, by, sealed, slowCheck(by, sealed)), slowMasked(by, sealed); got != want {
				t.Fatalf("by %x of %x: %x, not %x", by, sealed, got, want)
			}
		}
	}
}

func TestOpenOfAMasterThatIsZero(t *testing.T) {
	for _, by := range someKeys() {
		sealed, check := Seal(by, api.Key{})
		if got := mustOpen(t, by, sealed, check); got != (api.Key{}) {
			t.Fatalf("by %x: %x", by, got)
		}
	}
}

func TestOpenWithAnotherCheck(t *testing.T) {
	for _, by := range []api.Key{{}, same(255), sample(3)} {
		sealed, check := Seal(by, sample(4))
		for bit := range 256 {
			mustRefuse(t, "a bit of the check", by, sealed, turned(check, bit))
		}
		for i := range check {
			other := check
			for j := range i {
				other[i], other[j] = check[i]^255, check[j]^255 // two that are off by as much
				mustRefuse(t, "two bytes of the check", by, sealed, other)
				other[j] = check[j]
			}
		}
		for n := range 32 {
			var first, last api.Sum
			copy(first[:n], check[:n])
			copy(last[32-n:], check[32-n:])
			mustRefuse(t, "a beginning of the check", by, sealed, first)
			mustRefuse(t, "an end of the check", by, sealed, last)
		}
		mustRefuse(t, "the check of the master key", by, sealed, Check(by, sample(4)))
		mustRefuse(t, "the sealed key as its check", by, sealed, api.Sum(sealed))
		mustRefuse(t, "the key of the check as the check", by, sealed, api.Sum(kdf.Label(by, "check")))
	}
}

func TestOpenOfAnotherSealedKey(t *testing.T) {
	for _, by := range []api.Key{{}, same(255), sample(3)} {
		sealed, check := Seal(by, sample(4))
		for bit := range 256 {
			mustRefuse(t, "a bit of the sealed key", by, turned(sealed, bit), check)
		}
		swapped := api.Key(append(append([]byte{}, sealed[16:]...), sealed[:16]...))
		mustRefuse(t, "the halves, swapped", by, swapped, check)
		mustRefuse(t, "the zero key", by, api.Key{}, check)
		mustRefuse(t, "the master key", by, sample(4), check)
	}
}

func TestOpenByAnotherKey(t *testing.T) {
	for _, by := range []api.Key{{}, same(255), sample(3)} {
		sealed, check := Seal(by, sample(4))
		for bit := range 256 {
			mustRefuse(t, "a bit of the key", turned(by, bit), sealed, check)
		}
		mustRefuse(t, "by the master key", sample(4), sealed, check)
		mustRefuse(t, "by the sealed key", sealed, sealed, check)
		mustRefuse(t, "by the key of the mask", kdf.Label(by, "wrap"), sealed, check)
		mustRefuse(t, "by the key of the check", kdf.Label(by, "check"), sealed, check)
	}
}

// P8.3.

func TestOpenLeadsBackFromSealByItsKeyAlone(t *testing.T) {
	keys := someKeys()
	for i, by := range keys {
		master := sample(200 + i)
		sealed, check := Seal(by, master)
		for j, other := range keys {
			if i != j {
				mustRefuse(t, "by another key", other, sealed, check)
				continue
			}
			if got := mustOpen(t, other, sealed, check); got != master {
				t.Fatalf("by %x: %x, not %x", by, got, master)
			}
		}
	}
}

func TestOpenTakesNoOthersCheck(t *testing.T) {
	by, masters := sample(3), someKeys()
	for i, master := range masters {
		sealed, _ := Seal(by, master)
		for j, other := range masters {
			if _, check := Seal(by, other); i != j {
				mustRefuse(t, "the check of another one", by, sealed, check)
			}
		}
	}
}

// A key seals itself, too, and what it sealed.
func TestOneKeyInAllPlaces(t *testing.T) {
	for _, key := range someKeys() {
		sealed, check := Seal(key, key)
		if sealed == key || mustOpen(t, key, sealed, check) != key {
			t.Fatalf("%x by itself", key)
		}
		twice, _ := Seal(key, sealed)
		if twice != key {
			t.Fatalf("%x sealed twice: %x", key, twice)
		}
	}
}

// The rules of the whole: what is answered hangs on the arguments alone.

func TestWhatWasDoneAheadIsNotToBeSeen(t *testing.T) {
	by, master := sample(3), sample(4)
	sealed, check := Seal(by, master)
	for n := range 5 {
		Seal(sample(n+50), sample(n+60))
		Open(by, sealed, api.Sum{byte(n)})
		Open(sample(n+50), sealed, check)
		again, sum := Seal(by, master)
		if again != sealed || sum != check || Check(by, sealed) != check || mustOpen(t, by, sealed, check) != master {
			t.Fatal("a second time it is another")
		}
	}
	if by != sample(3) || master != sample(4) {
		t.Error("what was given was changed")
	}
}

func BenchmarkSeal(b *testing.B) {
	by, master := sample(3), sample(4)
	for b.Loop() {
		Seal(by, master)
	}
}

func BenchmarkOpen(b *testing.B) {
	by := sample(3)
	sealed, check := Seal(by, sample(4))
	for b.Loop() {
		Open(by, sealed, check)
	}
}

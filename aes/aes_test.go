package aes

import (
	"testing"

	"reliquary/api"
	"reliquary/field"
	"reliquary/sha"
)

// published are cases of FIPS 197 (C.3), of SP 800-38A (F.1.5), and what another AES told.
var published = []struct{ key, plain, want string }{
	{"000102030405060708090a0b0c0d0e0f101112131415161718191a1b1c1d1e1f", "00112233445566778899aabbccddeeff", "8ea2b7ca516745bfeafc49904b496089"},
	{"603deb1015ca71be2b73aef0857d77811f352c073b6108d72d9810a30914dff4", "6bc1bee22e409f96e93d7e117393172a", "f3eed1bdb5d2a03c064b5a7e3db181f8"},
	{"603deb1015ca71be2b73aef0857d77811f352c073b6108d72d9810a30914dff4", "ae2d8a571e03ac9c9eb76fac45af8e51", "591ccb10d410ed26dc5ba74a31362870"},
	{"603deb1015ca71be2b73aef0857d77811f352c073b6108d72d9810a30914dff4", "30c81c46a35ce411e5fbc1191a0a52ef", "b6ed21b99ca6f4f9f153e7b1beafed1d"},
	{"603deb1015ca71be2b73aef0857d77811f352c073b6108d72d9810a30914dff4", "f69f2445df4f9b17ad2b417be66c3710", "23304b7a39f9f3ff067d8d8f9e24ecc7"},
	{"0000000000000000000000000000000000000000000000000000000000000000", "00000000000000000000000000000000", "dc95c078a2408989ad48a21492842087"},
	{"0000000000000000000000000000000000000000000000000000000000000000", "ffffffffffffffffffffffffffffffff", "acdace8078a32b1a182bfa4987ca1347"},
	{"0000000000000000000000000000000000000000000000000000000000000000", "80000000000000000000000000000000", "ddc6bf790c15760d8d9aeb6f9a75fd4e"},
	{"ffffffffffffffffffffffffffffffffffffffffffffffffffffffffffffffff", "00000000000000000000000000000000", "4bf85f1b5d54adbc307b0a048389adcb"},
	{"ffffffffffffffffffffffffffffffffffffffffffffffffffffffffffffffff", "ffffffffffffffffffffffffffffffff", "d5f93d6d3311cb309f23621b02fbd5e2"},
	{"8000000000000000000000000000000000000000000000000000000000000000", "00000000000000000000000000000000", "e35a6dcb19b201a01ebcfa8aa22b5759"},
}

// P6.3: Encrypt.

func TestEncryptPublished(t *testing.T) {
	for i, c := range published {
		b := New(keyOf(t, c.key)).Encrypt(blockOf(t, c.plain))
		if got := sha.Hex(b[:]); got != c.want {
			t.Errorf("case %d: %s, not %s", i, got, c.want)
		}
	}
}

// The sums and the last blocks here are those that another AES told.

func TestEncryptByGrowingKeys(t *testing.T) {
	h := sha.New()
	for n := range 256 {
		b := New(api.Key(ones(n+1, 32))).Encrypt([16]byte{})
		h.Write(b[:])
	}
	sum := h.Sum()
	if got := sha.Hex(sum[:]); got != "1a2ac0fa74a7a05cd22754ab5f8cee7edc5b1da7d6dada3257cebc8e535aaa9a" {
		t.Error(got)
	}
}

func TestEncryptOfGrowingBlocks(t *testing.T) {
	h, c := sha.New(), New(api.Key{})
	for n := range 128 {
		b := c.Encrypt([16]byte(ones(n+1, 16)))
		h.Write(b[:])
	}
	sum := h.Sum()
	if got := sha.Hex(sum[:]); got != "3e19308b4e0c659bb04e9dfe123a299ed9a1403f3f30bdbc8904c6b1b551a897" {
		t.Error(got)
	}
}

func TestEncryptAgainAndAgain(t *testing.T) {
	c := New(api.Key(sample(32)))
	var b [16]byte
	for range 10000 {
		b = c.Encrypt(b)
	}
	if got := sha.Hex(b[:]); got != "566ab02aedd1dd584cfe7a91a965aec4" {
		t.Error(got)
	}
	for range 10000 {
		b = c.Decrypt(b)
	}
	if b != [16]byte{} {
		t.Errorf("the way back leads to %x", b)
	}
}

func TestEncryptByKeysThatItMakes(t *testing.T) {
	key := api.Key(sample(32))
	var b [16]byte
	for range 1000 {
		for at := 0; at < 32; at += 16 {
			b = New(key).Encrypt(b)
			for i, one := range b {
				key[at+i] ^= one
			}
		}
	}
	if got := sha.Hex(b[:]) + " " + sha.Hex(key[:]); got != "0d7b6844e9dda6afd488c18e10472f7c 97d5219a9a9c9f8cd21f683c74f33e3ab93ef48e55b4dd84adaa18ae45217458" {
		t.Error(got)
	}
}

func TestEncryptFollowsTheChapter(t *testing.T) {
	for _, key := range someKeys() {
		c := New(key)
		for _, b := range someBlocks() {
			if got, want := c.Encrypt(b), slowEncrypt(key, b); got != want {
				t.Fatalf("by %x of %x: %x, not %x", key, b, got, want)
			}
		}
	}
}

func TestEncryptFollowsTheChapterForEachByte(t *testing.T) {
	key := api.Key(sample(32))
	c := New(key)
	for i := range 16 {
		for one := range 256 {
			b := [16]byte(sample(16))
			b[i] = byte(one)
			if got, want := c.Encrypt(b), slowEncrypt(key, b); got != want {
				t.Fatalf("of %x: %x, not %x", b, got, want)
			}
		}
	}
}

// P6.3: its steps.

func TestDoubleIsTheProductWithTwo(t *testing.T) {
	for a := range 256 {
		if got, want := double(byte(a)), field.Mul(2, byte(a)); got != want {
			t.Errorf("%x: %x, not %x", a, got, want)
		}
	}
}

func TestShiftedMovesEachRow(t *testing.T) {
	for _, b := range someBlocks() {
		m := rows(b)
		want := each(func(r, c int) byte { return m[r][(c+r)%4] }).state()
		if got := shifted(b); got != want || unshifted(got) != b {
			t.Fatalf("%x: %x, not %x", b, got, want)
		}
	}
}

func TestMixedMixesEachColumn(t *testing.T) {
	for _, b := range someBlocks() {
		want := rows(b).times([4]byte{2, 3, 1, 1}).state()
		if got := mixed(b); got != want || unmixed(got) != b {
			t.Fatalf("%x: %x, not %x", b, got, want)
		}
		if got, want := unmixed(b), rows(b).times([4]byte{14, 11, 13, 9}).state(); got != want {
			t.Fatalf("back from %x: %x, not %x", b, got, want)
		}
	}
}

// P6.4: Decrypt.

func TestDecryptPublished(t *testing.T) {
	for i, c := range published {
		b := New(keyOf(t, c.key)).Decrypt(blockOf(t, c.want))
		if got := sha.Hex(b[:]); got != c.plain {
			t.Errorf("case %d: %s, not %s", i, got, c.plain)
		}
	}
}

func TestDecryptLeadsBackFromTheChaptersEncrypt(t *testing.T) {
	for _, key := range someKeys() {
		c := New(key)
		for _, b := range someBlocks() {
			if got := c.Decrypt(slowEncrypt(key, b)); got != b {
				t.Fatalf("by %x: %x, not %x", key, got, b)
			}
		}
	}
}

func TestDecryptStepByStep(t *testing.T) {
	for _, key := range someKeys()[:6] {
		c := New(key)
		for _, b := range someBlocks()[:6] {
			if got, want := c.Decrypt(b), slowDecrypt(key, b); got != want {
				t.Fatalf("by %x of %x: %x, not %x", key, b, got, want)
			}
		}
	}
}

func TestNilCipher(t *testing.T) {
	var c *Cipher
	for _, b := range someBlocks() {
		if c.Encrypt(b) != [16]byte{} || c.Decrypt(b) != [16]byte{} {
			t.Fatalf("%x: %x, %x", b, c.Encrypt(b), c.Decrypt(b))
		}
	}
}

// P6.5.

func TestBothWaysLeadBackFromOneAnother(t *testing.T) {
	for _, key := range someKeys() {
		c := New(key)
		for _, b := range someBlocks() {
			if got := c.Decrypt(c.Encrypt(b)); got != b {
				t.Fatalf("by %x: encrypted and decrypted %x is %x", key, b, got)
			}
			if got := c.Encrypt(c.Decrypt(b)); got != b {
				t.Fatalf("by %x: decrypted and encrypted %x is %x", key, b, got)
			}
		}
	}
}

func TestNoTwoAreEncryptedAlike(t *testing.T) {
	for _, key := range someKeys()[:4] {
		c := New(key)
		encrypted, decrypted := map[[16]byte]bool{}, map[[16]byte]bool{}
		for i := range 16 {
			for one := range 256 {
				b := [16]byte(sample(16))
				if b[i] == byte(one) && i > 0 {
					continue // the row as it was, which came with the first byte
				}
				b[i] = byte(one)
				there, back := c.Encrypt(b), c.Decrypt(b)
				if encrypted[there] || decrypted[back] {
					t.Fatalf("by %x: %x becomes what another one became", key, b)
				}
				encrypted[there], decrypted[back] = true, true
			}
		}
	}
}

func TestEachBitOfAKeyCounts(t *testing.T) {
	b := [16]byte(sample(16))
	seen := map[[16]byte]bool{New(api.Key(sample(32))).Encrypt(b): true}
	for i := range 256 {
		key := api.Key(sample(32))
		key[i/8] ^= 1 << (i % 8)
		got := New(key).Encrypt(b)
		if seen[got] {
			t.Fatalf("the key's bit %d", i)
		}
		seen[got] = true
	}
}

// The rules of the whole: an argument is not kept, and what is answered hangs on the key and on the bytes alone.

func TestACipherKeepsItsKey(t *testing.T) {
	key, b := api.Key(sample(32)), [16]byte(sample(16))
	c := New(key)
	there, back := c.Encrypt(b), c.Decrypt(b)
	key[0] ^= 1
	other := New(key)
	if other.Encrypt(b) == there || other.Decrypt(b) == back {
		t.Error("two keys encrypt alike")
	}
	for range 3 {
		if c.Encrypt(b) != there || c.Decrypt(b) != back || New(api.Key(sample(32))).Encrypt(b) != there {
			t.Error("what was done ahead is to be seen")
		}
	}
	keys := Schedule(key)
	keys[3][3] ^= 1
	if Schedule(key) == keys {
		t.Error("a change of the round keys is to be seen")
	}
}

func BenchmarkNew(b *testing.B) {
	key := api.Key(sample(32))
	for b.Loop() {
		New(key)
	}
}

func BenchmarkEncrypt(b *testing.B) {
	c, block := New(api.Key(sample(32))), [16]byte{}
	for b.Loop() {
		block = c.Encrypt(block)
	}
}

func BenchmarkDecrypt(b *testing.B) {
	c, block := New(api.Key(sample(32))), [16]byte{}
	for b.Loop() {
		block = c.Decrypt(block)
	}
}

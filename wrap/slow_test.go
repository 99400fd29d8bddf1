package wrap

import (
	"testing"

	"reliquary/aes"
	"reliquary/api"
	"reliquary/hmac"
	"reliquary/kdf"
	"reliquary/sha"
)

// slowMask lays both blocks whole, as the chapter's words say.
func slowMask(by api.Key) []byte {
	c := aes.New(kdf.Label(by, "wrap"))
	first := c.Encrypt([16]byte{0, 0, 0, 0, 0, 0, 0, 0, 0, 0, 0, 0, 0, 0, 0, 0})
	last := c.Encrypt([16]byte{0, 0, 0, 0, 0, 0, 0, 0, 0, 0, 0, 0, 0, 0, 0, 1})
	return append(first[:], last[:]...)
}

// slowMasked tells a key exclusive-ored with by's mask, byte by byte.
func slowMasked(by, key api.Key) api.Key {
	var b []byte
	for i, m := range slowMask(by) {
		b = append(b, key[i]^m)
	}
	return api.Key(b)
}

func slowCheck(by, sealed api.Key) api.Sum {
	use := kdf.Label(by, "check")
	return hmac.Of(use[:], sealed[:])
}

// keyOf reads a key's digits.
func keyOf(t *testing.T, digits string) api.Key {
	t.Helper()
	sum, e := sha.Parse(digits)
	if e != api.OK {
		t.Fatalf("%s: error %d", digits, int(e))
	}
	return api.Key(sum)
}

// sample has unlike bytes, and others for each n.
func sample(n int) api.Key {
	var key api.Key
	for i := range key {
		key[i] = byte(n + 37*i)
	}
	return key
}

// same has one byte all over.
func same(one byte) api.Key {
	var key api.Key
	for i := range key {
		key[i] = one
	}
	return key
}

// turned tells a key, or a sum, one bit of which is another.
func turned[K ~[32]byte](key K, bit int) K {
	key[bit/8] ^= 1 << (bit % 8)
	return key
}

// someKeys are keys of one kind of byte, of one bit, and of unlike bytes.
func someKeys() []api.Key {
	keys := []api.Key{{}, same(255), same(1), same(0x36), same(0x5c), {1, 2, 3}, {9, 8, 7}}
	for _, bit := range []int{0, 7, 8, 127, 128, 135, 248, 255} {
		keys = append(keys, turned(api.Key{}, bit))
	}
	for n := range 8 {
		keys = append(keys, sample(n*31))
	}
	return keys
}

// mustRefuse asks whether nothing is opened.
func mustRefuse(t *testing.T, what string, by, sealed api.Key, check api.Sum) {
	t.Helper()
	if key, e := Open(by, sealed, check); key != (api.Key{}) || e != api.ErrPass {
		t.Fatalf("%s, by %x of %x with %x: %x, error %d", what, by, sealed, check, key, int(e))
	}
}

// mustOpen tells what must be opened without an error.
func mustOpen(t *testing.T, by, sealed api.Key, check api.Sum) api.Key {
	t.Helper()
	key, e := Open(by, sealed, check)
	if e != api.OK {
		t.Fatalf("by %x of %x with %x: error %d", by, sealed, check, int(e))
	}
	return key
}

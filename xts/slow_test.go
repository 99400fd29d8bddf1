package xts

import (
	"testing"

	"reliquary/aes"
	"reliquary/api"
	"reliquary/field"
	"reliquary/sha"
)

// slowTweak tells the tweak of one block, from the sector's number on.
func slowTweak(two api.Key, number uint64, block int) [16]byte {
	var b [16]byte
	for i := range b {
		b[i] = byte(number % 256)
		number /= 256
	}
	return field.Times(aes.New(two).Encrypt(b), block)
}

// slowTurn turns block by block by itself, as the chapter says of one of them.
func slowTurn(two api.Key, number uint64, b []byte, turn func([16]byte) [16]byte) []byte {
	var turned []byte
	for at := 0; at < len(b); at += 16 {
		tweak := slowTweak(two, number+uint64(at/512), at%512/16)
		var block [16]byte
		for i := range block {
			block[i] = b[at+i] ^ tweak[i]
		}
		block = turn(block)
		for i := range block {
			turned = append(turned, block[i]^tweak[i])
		}
	}
	return turned
}

func slowSeal(one, two api.Key, number uint64, b []byte) []byte {
	return slowTurn(two, number, b, aes.New(one).Encrypt)
}

func slowOpen(one, two api.Key, number uint64, b []byte) []byte {
	return slowTurn(two, number, b, aes.New(one).Decrypt)
}

// sealed tells what must be sealed without an error.
func sealed(t *testing.T, x *Xts, number uint64, b []byte) []byte {
	t.Helper()
	return answered(t, x.Seal, number, b)
}

// opened tells what must be opened without an error.
func opened(t *testing.T, x *Xts, number uint64, b []byte) []byte {
	t.Helper()
	return answered(t, x.Open, number, b)
}

// answered tells what a call answers, which must be no error and so many bytes as it was given.
func answered(t *testing.T, call func(uint64, []byte) ([]byte, api.Errno), number uint64, b []byte) []byte {
	t.Helper()
	got, e := call(number, b)
	if e != api.OK || len(got) != len(b) {
		t.Fatalf("the sector %d, %d bytes: %d bytes, error %d", number, len(b), len(got), int(e))
	}
	return got
}

// way is one of both calls, with the other one and with what the chapter says of it.
type way struct {
	name       string
	call, back func(x *Xts, number uint64, b []byte) ([]byte, api.Errno)
	slow       func(one, two api.Key, number uint64, b []byte) []byte
}

func ways() []way {
	return []way{
		{"Seal", (*Xts).Seal, (*Xts).Open, slowSeal},
		{"Open", (*Xts).Open, (*Xts).Seal, slowOpen},
	}
}

// by tells the call of an Xts.
func (w way) by(x *Xts) func(uint64, []byte) ([]byte, api.Errno) {
	return func(number uint64, b []byte) ([]byte, api.Errno) { return w.call(x, number, b) }
}

// keyOf reads a key's digits.
func keyOf(t *testing.T, digits string) api.Key {
	t.Helper()
	sum, e := sha.Parse(digits)
	if e != api.OK {
		t.Fatalf("%s: error %d", digits, int(e))
	}
	return api.Key(sum)
}

// digits tells the digits of bytes, and of more than 64 bytes those of their sum.
func digits(b []byte) string {
	if len(b) > 64 {
		sum := sha.Of(b)
		b = sum[:]
	}
	return sha.Hex(b)
}

// sample has so many unlike bytes.
func sample(n int) []byte {
	b := make([]byte, n)
	for i := range b {
		b[i] = byte(i*7 + i/256*3 + n)
	}
	return b
}

// same has so many times one byte.
func same(n int, one byte) []byte {
	b := make([]byte, n)
	for i := range b {
		b[i] = one
	}
	return b
}

// sampleKeys are two unlike keys.
func sampleKeys() (one, two api.Key) {
	return api.Key(sample(33)[1:]), api.Key(sample(32))
}

// sampleXts has both of sampleKeys.
func sampleXts() *Xts {
	one, two := sampleKeys()
	return New(one, two)
}

// someKeys are pairs of keys: of one kind of byte, twice the same, and unlike ones.
func someKeys() [][2]api.Key {
	ones := api.Key(same(32, 255))
	one, two := sampleKeys()
	pairs := [][2]api.Key{{}, {ones, ones}, {{}, ones}, {ones, {}}, {one, one}, {one, two}, {two, one}}
	for i := range 4 {
		pairs = append(pairs, [2]api.Key{api.Key(sha.Of(sample(i))), api.Key(sha.Of(sample(i + 10)))})
	}
	return pairs
}

// someNumbers are edges: of each of a number's bytes, and of all of it.
func someNumbers() []uint64 {
	numbers := []uint64{0, 1, 2, 127, 128, 129, 0x0123456789abcdef, 1<<64 - 1, 1<<64 - 2, 1 << 63}
	for i := 1; i < 8; i++ {
		numbers = append(numbers, 1<<(8*i)-1, 1<<(8*i))
	}
	return numbers
}

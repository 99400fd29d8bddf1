package kdf

import (
	"reliquary/api"
	"reliquary/hmac"
	"reliquary/octet"
)

// slowSums tells the sums of which a block is the exclusive or.
func slowSums(pass, salt []byte, turns, number int) []api.Sum {
	laid := append(append([]byte{}, salt...), octet.Put32(uint32(number))...)
	sums := []api.Sum{hmac.Of(pass, laid)}
	for len(sums) < turns {
		last := sums[len(sums)-1]
		sums = append(sums, hmac.Of(pass, last[:]))
	}
	return sums
}

// slowDerive follows the chapter word by word: it lays whole blocks, byte by byte, and tells the first ones of them.
func slowDerive(pass, salt []byte, turns, size int) []byte {
	laid := []byte{}
	for number := 1; len(laid) < size; number++ {
		sums := slowSums(pass, salt, turns, number)
		for at := range 32 {
			one := byte(0)
			for _, sum := range sums {
				one ^= sum[at]
			}
			laid = append(laid, one)
		}
	}
	return laid[:size]
}

// sample has so many unlike bytes.
func sample(n int) []byte {
	b := make([]byte, n)
	for i := range b {
		b[i] = byte(i*7 + n)
	}
	return b
}

package aes

import (
	"reliquary/api"
	"reliquary/field"
)

const (
	keyWords = 8
	allWords = 4 * (rounds + 1)
)

type word [4]byte

// Schedule tells a key's round keys.
func Schedule(key api.Key) [15][16]byte {
	var words [allWords]word
	for i := range keyWords {
		copy(words[i][:], key[4*i:])
	}
	for i := keyWords; i < allWords; i++ {
		words[i] = changed(words[i-1], i)
		for r, b := range words[i-keyWords] {
			words[i][r] ^= b
		}
	}
	var keys [rounds + 1][16]byte
	for i, w := range words {
		copy(keys[i/4][4*(i%4):], w[:])
	}
	return keys
}

// changed tells what the word ahead of the one with the number i gives to it.
func changed(ahead word, i int) word {
	switch i % keyWords {
	case 0:
		constant := field.Power(2, i/keyWords-1)
		return word{Sbox(ahead[1]) ^ constant, Sbox(ahead[2]), Sbox(ahead[3]), Sbox(ahead[0])}
	case 4:
		return word{Sbox(ahead[0]), Sbox(ahead[1]), Sbox(ahead[2]), Sbox(ahead[3])}
	}
	return ahead
}

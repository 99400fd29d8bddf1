package hmac

import (
	"reliquary/api"
	"reliquary/sha"
)

// slowOf follows the chapter word by word: it lays the key's block whole, and all that is summed behind it.
func slowOf(key, text []byte) api.Sum {
	whole := append([]byte{}, key...)
	if len(key) > 64 {
		sum := sha.Of(key)
		whole = append([]byte{}, sum[:]...)
	}
	for len(whole) < 64 {
		whole = append(whole, 0)
	}
	inner, outer := []byte{}, []byte{}
	for _, one := range whole {
		inner = append(inner, one^0x36)
		outer = append(outer, one^0x5c)
	}
	sum := sha.Of(append(inner, text...))
	return sha.Of(append(outer, sum[:]...))
}

// sample has so many unlike bytes.
func sample(n int) []byte {
	b := make([]byte, n)
	for i := range b {
		b[i] = byte(i*7 + n)
	}
	return b
}

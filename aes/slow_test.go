package aes

import (
	"strings"
	"testing"

	"reliquary/api"
	"reliquary/field"
	"reliquary/sha"
)

// slowSbox asks field.
func slowSbox(b byte) byte { return field.Affine(field.Inverse(b)) }

// slowUnbox looks through all bytes.
func slowUnbox(b byte) byte {
	for a := range 256 {
		if slowSbox(byte(a)) == b {
			return byte(a)
		}
	}
	panic("no byte has this Sbox")
}

// slowSchedule follows the chapter word by word, and tells the words W0 to W59.
func slowSchedule(key api.Key) [][]byte {
	words := [][]byte{}
	for i := range 60 {
		if i < 8 {
			words = append(words, key[4*i:4*i+4])
			continue
		}
		beside := append([]byte{}, words[i-1]...)
		if i%8 == 0 {
			beside = append(beside[1:], beside[0])
		}
		if i%4 == 0 {
			for r, b := range beside {
				beside[r] = slowSbox(b)
			}
		}
		if i%8 == 0 {
			beside[0] ^= field.Power(2, i/8-1)
		}
		for r, b := range words[i-8] {
			beside[r] ^= b
		}
		words = append(words, beside)
	}
	return words
}

// matrix is a state by its rows and columns.
type matrix [4][4]byte

func rows(b [16]byte) matrix {
	var m matrix
	for c := range 4 {
		for r := range 4 {
			m[r][c] = b[4*c+r]
		}
	}
	return m
}

func (m matrix) state() [16]byte {
	var b [16]byte
	for c := range 4 {
		for r := range 4 {
			b[4*c+r] = m[r][c]
		}
	}
	return b
}

// each tells the matrix of what is told of each row and column.
func each(tell func(r, c int) byte) matrix {
	var m matrix
	for r := range 4 {
		for c := range 4 {
			m[r][c] = tell(r, c)
		}
	}
	return m
}

// times mixes columns: the byte in row r becomes the sum of the column's bytes, from row r on, times these factors.
func (m matrix) times(factors [4]byte) matrix {
	return each(func(r, c int) byte {
		sum := byte(0)
		for i, factor := range factors {
			sum ^= field.Mul(factor, m[(r+i)%4][c])
		}
		return sum
	})
}

// with is exclusive-ored with the round key of four words.
func (m matrix) with(words [][]byte) matrix {
	return each(func(r, c int) byte { return m[r][c] ^ words[c][r] })
}

// slowEncrypt follows the chapter word by word.
func slowEncrypt(key api.Key, b [16]byte) [16]byte {
	words := slowSchedule(key)
	m := rows(b).with(words[:4])
	for round := 1; round <= 14; round++ {
		boxed := each(func(r, c int) byte { return slowSbox(m[r][c]) })
		m = each(func(r, c int) byte { return boxed[r][(c+r)%4] })
		if round != 14 {
			m = m.times([4]byte{2, 3, 1, 1})
		}
		m = m.with(words[4*round : 4*round+4])
	}
	return m.state()
}

// slowDecrypt undoes slowEncrypt step by step, as FIPS 197 tells the way back.
func slowDecrypt(key api.Key, b [16]byte) [16]byte {
	words := slowSchedule(key)
	m := rows(b)
	for round := 14; round >= 1; round-- {
		m = m.with(words[4*round : 4*round+4])
		if round != 14 {
			m = m.times([4]byte{14, 11, 13, 9})
		}
		boxed := each(func(r, c int) byte { return m[r][(c+4-r)%4] })
		m = each(func(r, c int) byte { return slowUnbox(boxed[r][c]) })
	}
	return m.with(words[:4]).state()
}

// keyOf reads a key's digits.
func keyOf(t *testing.T, digits string) api.Key {
	t.Helper()
	sum, e := sha.Parse(digits)
	if e != api.OK {
		t.Fatalf("%s: error %d", digits, int(e))
	}
	return api.Key(sum)
}

// blockOf reads the digits of sixteen bytes.
func blockOf(t *testing.T, digits string) [16]byte {
	t.Helper()
	key := keyOf(t, digits+strings.Repeat("0", 32))
	return [16]byte(key[:16])
}

// sample has so many unlike bytes.
func sample(n int) []byte {
	b := make([]byte, n)
	for i := range b {
		b[i] = byte(i*7 + n)
	}
	return b
}

// ones has so many bytes, whose first bits, from the highest of the first byte on, are 1.
func ones(bits, n int) []byte {
	b := make([]byte, n)
	for i := range bits {
		b[i/8] |= 0x80 >> (i % 8)
	}
	return b
}

// someKeys are keys of one kind of byte, of one bit, and unlike ones.
func someKeys() []api.Key {
	keys := []api.Key{{}, api.Key(ones(256, 32))}
	for i := range 32 {
		keys = append(keys, api.Key(sample(32 + i)[i:]), api.Key(sha.Of(sample(i))))
		var one api.Key
		one[i] = 1 << (i % 8)
		keys = append(keys, one)
	}
	return keys
}

// someBlocks are sixteen bytes of one kind, of one byte alone, and unlike ones.
func someBlocks() [][16]byte {
	blocks := [][16]byte{{}, [16]byte(ones(128, 16))}
	for i := range 16 {
		sum := sha.Of(sample(i))
		var one [16]byte
		one[i] = 0x80 >> (i % 8)
		blocks = append(blocks, [16]byte(sample(16 + i)[i:]), [16]byte(sum[:16]), [16]byte(sum[16:]), one)
	}
	return blocks
}

package sha

import (
	"math/big"

	"reliquary/api"
)

// slowSum follows the chapter word by word: it lays the text whole, works its constants out, and turns words bit by bit.
func slowSum(b []byte) api.Sum {
	text := append(append([]byte{}, b...), 0x80)
	for len(text)%64 != 56 {
		text = append(text, 0)
	}
	text = append(text, new(big.Int).Mul(big.NewInt(int64(len(b))), big.NewInt(8)).FillBytes(make([]byte, 8))...)
	var state [8]uint32
	for i := range state {
		state[i] = behindThePoint(prime(i), 2)
	}
	for len(text) > 0 {
		state = slowBlock(state, text[:64])
		text = text[64:]
	}
	var sum api.Sum
	for i := range sum {
		sum[i] = byte(state[i/4] >> (24 - 8*(i%4)))
	}
	return sum
}

func slowBlock(state [8]uint32, block []byte) [8]uint32 {
	var w [64]uint32
	for t := range w {
		if t < 16 {
			for _, one := range block[4*t : 4*t+4] {
				w[t] = w[t]*256 + uint32(one)
			}
			continue
		}
		s1 := slowTurn(w[t-2], 17) ^ slowTurn(w[t-2], 19) ^ w[t-2]/1024
		s0 := slowTurn(w[t-15], 7) ^ slowTurn(w[t-15], 18) ^ w[t-15]/8
		w[t] = s1 + w[t-7] + s0 + w[t-16]
	}
	l := state
	for t := range w {
		a, b, c, e, f, g := l[0], l[1], l[2], l[4], l[5], l[6]
		t1 := l[7] + (slowTurn(e, 6) ^ slowTurn(e, 11) ^ slowTurn(e, 25)) + ((e & f) ^ (^e & g)) + slowConstants[t] + w[t]
		t2 := (slowTurn(a, 2) ^ slowTurn(a, 13) ^ slowTurn(a, 22)) + ((a & b) ^ (a & c) ^ (b & c))
		copy(l[1:], append([]uint32{}, l[:7]...))
		l[4] += t1
		l[0] = t1 + t2
	}
	for i := range state {
		state[i] += l[i]
	}
	return state
}

// slowTurn turns a word to the right, one bit after the other.
func slowTurn(word uint32, n int) uint32 {
	for range n {
		word = word/2 + word%2*(1<<31)
	}
	return word
}

var slowConstants = func() (l [64]uint32) {
	for i := range l {
		l[i] = behindThePoint(prime(i), 3)
	}
	return l
}()

// prime tells the prime that so many stand ahead of.
func prime(ahead int) int64 {
	for n := int64(2); ; n++ {
		if big.NewInt(n).ProbablyPrime(20) {
			if ahead == 0 {
				return n
			}
			ahead--
		}
	}
}

// behindThePoint tells the first 32 bits behind the point of a root: the greatest number whose power is not above n, both moved by 32 bits.
func behindThePoint(n int64, power int) uint32 {
	moved := new(big.Int).Lsh(big.NewInt(n), uint(32*power))
	root := new(big.Int)
	for i := 40; i >= 0; i-- {
		root.SetBit(root, i, 1)
		if new(big.Int).Exp(root, big.NewInt(int64(power)), nil).Cmp(moved) > 0 {
			root.SetBit(root, i, 0)
		}
	}
	return uint32(root.Uint64())
}

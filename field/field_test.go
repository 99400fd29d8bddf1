package field

import (
	"math"
	"math/big"
	"testing"
)

// slowMul multiplies the polynomials whole, and then divides by the field's polynomial.
func slowMul(a, b byte) byte {
	const polynomial = 1<<8 | 1<<4 | 1<<3 | 1<<1 | 1
	product := 0
	for i := range 8 {
		if b&(1<<i) != 0 {
			product ^= int(a) << i
		}
	}
	for i := 15; i >= 8; i-- {
		if product&(1<<i) != 0 {
			product ^= polynomial << (i - 8)
		}
	}
	return byte(product)
}

// slowPower multiplies n times by a, or by its inverse, one by one.
func slowPower(a byte, n int) byte {
	if n < 0 {
		a, n = slowInverse(a), -n
	}
	power := byte(1)
	for range n {
		power = slowMul(power, a)
	}
	return power
}

// slowInverse looks through all bytes.
func slowInverse(a byte) byte {
	for b := range 256 {
		if slowMul(a, byte(b)) == 1 {
			return byte(b)
		}
	}
	return 0
}

// P1.1: Mul.

func TestMulExamples(t *testing.T) {
	for _, c := range []struct{ a, b, want byte }{
		{0x57, 0x83, 0xc1}, {0x57, 0x13, 0xfe}, {0x57, 0x02, 0xae}, {0xae, 0x02, 0x47},
		{0, 0, 0}, {0, 0xff, 0}, {0xff, 0, 0}, {1, 1, 1}, {1, 0xff, 0xff}, {0xff, 1, 0xff},
		{0x80, 2, 0x1b}, {0x53, 0xca, 1},
	} {
		if got := Mul(c.a, c.b); got != c.want {
			t.Errorf("Mul(%x, %x) = %x, not %x", c.a, c.b, got, c.want)
		}
	}
}

func TestMulIsWhatIsLeftOfTheProduct(t *testing.T) {
	for a := range 256 {
		for b := range 256 {
			if got, want := Mul(byte(a), byte(b)), slowMul(byte(a), byte(b)); got != want {
				t.Fatalf("Mul(%x, %x) = %x, not %x", a, b, got, want)
			}
		}
	}
}

// P1.1: Inverse.

func TestInverse(t *testing.T) {
	if Inverse(0) != 0 || Inverse(1) != 1 || Inverse(0x53) != 0xca || Inverse(0xca) != 0x53 {
		t.Error("the examples")
	}
	for a := 1; a < 256; a++ {
		if got := slowMul(byte(a), Inverse(byte(a))); got != 1 {
			t.Errorf("%x times Inverse(%x) is %x", a, a, got)
		}
	}
}

// P1.1: Power.

func TestPowerExamples(t *testing.T) {
	for _, c := range []struct {
		a    byte
		n    int
		want byte
	}{
		{2, 8, 0x1b}, {2, 0, 1}, {2, 1, 2}, {2, 7, 0x80}, {0x53, -1, 0xca}, {0xca, -1, 0x53},
		{1, math.MinInt, 1}, {1, math.MaxInt, 1}, {3, 255, 1}, {3, -255, 1}, {3, 256, 3},
	} {
		if got := Power(c.a, c.n); got != c.want {
			t.Errorf("Power(%x, %d) = %x, not %x", c.a, c.n, got, c.want)
		}
	}
}

func TestPowerOfNought(t *testing.T) {
	if Power(0, 0) != 1 {
		t.Error("the product of none is not 1")
	}
	for _, n := range []int{1, 2, 254, 255, 256, 510, -1, -254, -255, -256, math.MaxInt, math.MinInt, math.MaxInt / 255 * 255} {
		if got := Power(0, n); got != 0 {
			t.Errorf("Power(0, %d) = %x", n, got)
		}
	}
}

func TestPowerIsTheProductOfSoMany(t *testing.T) {
	for a := range 256 {
		for n := -300; n <= 600; n += 1 + a%7 {
			if got, want := Power(byte(a), n), slowPower(byte(a), n); got != want {
				t.Fatalf("Power(%x, %d) = %x, not %x", a, n, got, want)
			}
		}
	}
}

func TestPowerOfGreatNumbers(t *testing.T) {
	for _, n := range []int{math.MinInt, math.MinInt + 1, math.MinInt32, math.MaxInt32, math.MaxInt - 1, math.MaxInt} {
		left := new(big.Int).Mod(big.NewInt(int64(n)), big.NewInt(255)) // from 0 on
		for a := 1; a < 256; a++ {
			if got, want := Power(byte(a), n), slowPower(byte(a), int(left.Int64())); got != want {
				t.Fatalf("Power(%x, %d) = %x, not %x", a, n, got, want)
			}
		}
	}
}

// P1.2: Affine.

func TestAffine(t *testing.T) {
	if Affine(0) != 0x63 || Affine(0xca) != 0xed || Affine(Inverse(0x53)) != 0xed || Affine(1) != 0x7c {
		t.Error("the examples")
	}
	for a := range 256 {
		want := 0
		for i := range 8 {
			bit := 0x63 >> i
			for _, far := range []int{0, 4, 5, 6, 7} {
				bit ^= a >> ((i + far) % 8)
			}
			want |= bit & 1 << i
		}
		if got := Affine(byte(a)); got != byte(want) {
			t.Errorf("Affine(%x) = %x, not %x", a, got, want)
		}
	}
}

// P1.3: Twice.

// slowTwice doubles a number of 128 bits as a whole.
func slowTwice(t [16]byte) [16]byte {
	n := new(big.Int)
	for i := 15; i >= 0; i-- {
		n.Lsh(n, 8).Or(n, big.NewInt(int64(t[i])))
	}
	n.Lsh(n, 1)
	if n.Bit(128) == 1 {
		n.SetBit(n, 128, 0)
		n.Xor(n, big.NewInt(0x87))
	}
	var l [16]byte
	for i, b := range n.FillBytes(make([]byte, 16)) {
		l[15-i] = b
	}
	return l
}

// samples are sixteen bytes each: every single bit, edges, and a row of unlike ones.
func samples() [][16]byte {
	var l [][16]byte
	for i := range 128 {
		l = append(l, bit(i))
	}
	var ones, row [16]byte
	for i := range ones {
		ones[i] = 0xff
	}
	l = append(l, [16]byte{}, ones)
	for i := range 300 {
		for j := range row {
			row[j] = row[j]*5 + byte(i*31+j*77+1)
		}
		l = append(l, row)
	}
	return l
}

// bit has the bit i alone.
func bit(i int) [16]byte {
	var l [16]byte
	l[i/8] = 1 << (i % 8)
	return l
}

func TestTwiceExamples(t *testing.T) {
	for _, c := range []struct{ in, want [16]byte }{
		{[16]byte{1}, [16]byte{2}},
		{[16]byte{15: 0x80}, [16]byte{0x87}},
		{[16]byte{}, [16]byte{}},
		{[16]byte{0x80}, [16]byte{1: 1}},
		{[16]byte{14: 0x80}, [16]byte{15: 1}},
		{[16]byte{15: 0x40}, [16]byte{15: 0x80}},
		{[16]byte{0x80, 15: 0x81}, [16]byte{0x87, 1, 15: 2}},
	} {
		if got := Twice(c.in); got != c.want {
			t.Errorf("Twice(%x) = %x, not %x", c.in, got, c.want)
		}
	}
}

func TestTwiceIsTheNumberTimesTwo(t *testing.T) {
	for _, s := range samples() {
		kept := s
		if got, want := Twice(s), slowTwice(s); got != want {
			t.Errorf("Twice(%x) = %x, not %x", s, got, want)
		}
		if s != kept {
			t.Errorf("Twice changed %x", kept)
		}
	}
}

// P1.3: Times.

func TestTimesIsTwiceSoManyTimes(t *testing.T) {
	for _, s := range [][16]byte{{1}, {15: 0x80}, {}, {3, 1, 4, 1, 5, 9, 2, 6, 5, 3, 5, 8, 9, 7, 9, 3}} {
		want := s
		for n := range 4097 {
			if n < 300 || n > 4090 {
				if got := Times(s, n); got != want {
					t.Fatalf("Times(%x, %d) = %x, not %x", s, n, got, want)
				}
			}
			want = slowTwice(want)
		}
	}
}

func TestTimesBringsTheCountWithin(t *testing.T) {
	for _, s := range samples() {
		for _, n := range []int{-1, -2, -4096, -4097, math.MinInt} {
			if got := Times(s, n); got != s {
				t.Fatalf("Times(%x, %d) = %x", s, n, got)
			}
		}
	}
	s := [16]byte{1}
	most := Times(s, 4096)
	if most == Times(s, 4095) {
		t.Error("4096 is 4095")
	}
	for _, n := range []int{4097, 4098, 8192, math.MaxInt32, math.MaxInt} {
		if got := Times(s, n); got != most {
			t.Errorf("Times(%x, %d) = %x, not %x", s, n, got, most)
		}
	}
}

// P1.4.

func TestSumsAndProductsAreThoseOfAField(t *testing.T) {
	var table [256][256]byte
	for a := range 256 {
		for b := range 256 {
			table[a][b] = Mul(byte(a), byte(b))
		}
	}
	for a := range 256 {
		if table[a][1] != byte(a) || table[a][0] != 0 {
			t.Fatalf("%x times 1 or 0", a)
		}
		if a != 0 && table[a][Inverse(byte(a))] != 1 {
			t.Fatalf("%x has no inverse", a)
		}
		for b := range 256 {
			if table[a][b] != table[b][a] {
				t.Fatalf("%x and %x: the order counts", a, b)
			}
			if a != 0 && b != 0 && table[a][b] == 0 {
				t.Fatalf("%x times %x is 0", a, b)
			}
			for c := range 256 {
				if table[table[a][b]][c] != table[a][table[b][c]] {
					t.Fatalf("%x, %x and %x: which are taken first counts", a, b, c)
				}
				if table[a][b^c] != table[a][b]^table[a][c] {
					t.Fatalf("%x times the sum of %x and %x", a, b, c)
				}
			}
		}
	}
}

func TestNoTwoBytesHaveOneAffine(t *testing.T) {
	var seen [256]bool
	for a := range 256 {
		if seen[Affine(byte(a))] {
			t.Errorf("Affine(%x) was met", a)
		}
		seen[Affine(byte(a))] = true
	}
}

// TestOnlyNoughtBecomesNought: Twice of a sum is the sum of both Twice, and what becomes of the single bits has none too many, so only nought becomes nought.
func TestOnlyNoughtBecomesNought(t *testing.T) {
	l := samples()
	for i, a := range l {
		b := l[(i*7+3)%len(l)]
		if Twice(sum(a, b)) != sum(Twice(a), Twice(b)) {
			t.Fatalf("Twice of the sum of %x and %x", a, b)
		}
		if a != ([16]byte{}) && Twice(a) == ([16]byte{}) {
			t.Errorf("%x becomes nought", a)
		}
	}
	if Twice([16]byte{}) != ([16]byte{}) {
		t.Error("nought becomes something")
	}
	var rows [128][16]byte // by the highest bit
	for i := range 128 {
		row := Twice(bit(i))
		for high := top(row); high >= 0 && rows[high] != ([16]byte{}); high = top(row) {
			row = sum(row, rows[high])
		}
		if top(row) < 0 {
			t.Fatalf("what becomes of the bit %d is a sum of what becomes of lower ones", i)
		}
		rows[top(row)] = row
	}
}

// sum tells the exclusive or.
func sum(a, b [16]byte) [16]byte {
	for i := range a {
		a[i] ^= b[i]
	}
	return a
}

// top tells the highest bit that is 1, or -1.
func top(a [16]byte) int {
	for i := 127; i >= 0; i-- {
		if a[i/8]>>(i%8)&1 == 1 {
			return i
		}
	}
	return -1
}

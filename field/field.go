// Package field is layer 1: see shared/doc/01-field.md.
package field

import "math/bits"

const (
	reduction = 0x1b // x^8 is the same as x^4 + x^3 + x + 1 in the field
	order     = 255  // each byte but 0 is 1 as its 255th power
	constant  = 0x63 // keeps Affine from leading 0 to 0
	carried   = 0x87 // what stands for the bit that Twice leaves out
	mostTimes = 4096
)

// Mul tells a product.
func Mul(a, b byte) byte {
	var product byte
	for i := range 8 {
		if b>>i&1 == 1 {
			product ^= a
		}
		a = double(a)
	}
	return product
}

// double tells the product with x.
func double(a byte) byte {
	if a>>7 == 1 {
		return a<<1 ^ reduction
	}
	return a << 1
}

// Inverse tells what makes a product 1.
func Inverse(a byte) byte { return Power(a, -1) }

// Power tells a power.
func Power(a byte, n int) byte {
	if n == 0 {
		return 1
	}
	if a == 0 { // apart, as the powers of 0 do not come round
		return 0
	}
	n %= order
	if n < 0 {
		n += order
	}
	power := byte(1)
	for i := range 8 {
		if n>>i&1 == 1 {
			power = Mul(power, a)
		}
		a = Mul(a, a)
	}
	return power
}

// Affine turns a byte's bits.
func Affine(a byte) byte {
	sum := byte(constant)
	for i := range 5 { // turned up by 0 to 4, as the bit i takes the bits i, i + 7 .. i + 4
		sum ^= bits.RotateLeft8(a, i)
	}
	return sum
}

// Twice doubles sixteen bytes.
func Twice(t [16]byte) [16]byte {
	var doubled [16]byte
	var carry byte
	for i, b := range t {
		doubled[i] = b<<1 | carry
		carry = b >> 7
	}
	if carry == 1 {
		doubled[0] ^= carried
	}
	return doubled
}

// Times doubles them again and again.
func Times(t [16]byte, n int) [16]byte {
	for range min(max(n, 0), mostTimes) {
		t = Twice(t)
	}
	return t
}

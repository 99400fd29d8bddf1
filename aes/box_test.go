package aes

import (
	"testing"

	"reliquary/field"
)

// P6.1: Sbox.

func TestSboxExamples(t *testing.T) {
	for b, want := range map[byte]byte{0x53: 0xed, 0: 0x63, 1: 0x7c, 7: 0xc5, 8: 0x30, 0x0f: 0x76, 0x10: 0xca, 0x52: 0, 0x7f: 0xd2, 0x80: 0xcd, 0xf0: 0x8c, 0xfe: 0xbb, 0xff: 0x16} {
		if got := Sbox(b); got != want {
			t.Errorf("Sbox(%x) = %x, not %x", b, got, want)
		}
	}
}

func TestSboxIsAffineOfInverse(t *testing.T) {
	for b := range 256 {
		if got, want := Sbox(byte(b)), field.Affine(field.Inverse(byte(b))); got != want {
			t.Errorf("Sbox(%x) = %x, not %x", b, got, want)
		}
	}
}

// P6.1: Unbox.

func TestUnboxExamples(t *testing.T) {
	for b, want := range map[byte]byte{0x63: 0, 0: 0x52, 0xed: 0x53, 7: 0x38, 8: 0xbf, 0x0f: 0xfb, 0x10: 0x7c, 0x7f: 0x6b, 0x80: 0x3a, 0xf0: 0x17, 0xff: 0x7d, 0x16: 0xff} {
		if got := Unbox(b); got != want {
			t.Errorf("Unbox(%x) = %x, not %x", b, got, want)
		}
	}
}

func TestUnboxIsTheByteWhoseSboxItIs(t *testing.T) {
	for b := range 256 {
		if got := field.Affine(field.Inverse(Unbox(byte(b)))); got != byte(b) {
			t.Errorf("Unbox(%x) = %x, whose Sbox is %x", b, Unbox(byte(b)), got)
		}
	}
}

func TestBoxesLeadBackFromOneAnother(t *testing.T) {
	seen := map[byte]bool{}
	for b := range 256 {
		if Unbox(Sbox(byte(b))) != byte(b) || Sbox(Unbox(byte(b))) != byte(b) {
			t.Errorf("%x: the way back leads elsewhere", b)
		}
		seen[Sbox(byte(b))] = true
	}
	if len(seen) != 256 {
		t.Errorf("there are %d Sboxes", len(seen))
	}
}

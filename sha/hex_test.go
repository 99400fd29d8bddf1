package sha

import (
	"strings"
	"testing"

	"reliquary/api"
)

// P3.3: Hex.

func TestHex(t *testing.T) {
	for _, c := range []struct{ bytes, want string }{
		{"", ""}, {"\x00", "00"}, {"\x01", "01"}, {"\x10", "10"}, {"\x9a", "9a"}, {"\xaf\xf0", "aff0"},
		{"\x01\x23\x45\x67\x89\xab\xcd\xef", "0123456789abcdef"}, {"\xfe\xdc\xba\x98\x76\x54\x32\x10", "fedcba9876543210"},
		{strings.Repeat("\xff", 100), strings.Repeat("f", 200)},
	} {
		if got := Hex([]byte(c.bytes)); got != c.want {
			t.Errorf("Hex(%q) = %s, not %s", c.bytes, got, c.want)
		}
	}
	if Hex(nil) != "" {
		t.Error("nothing has no digits")
	}
}

func TestHexOfEachByte(t *testing.T) {
	for n := range 256 {
		want := string("0123456789abcdef"[n/16]) + string("0123456789abcdef"[n%16])
		if got := Hex([]byte{byte(n)}); got != want {
			t.Errorf("Hex(%d) = %s", n, got)
		}
	}
}

// P3.3: Parse.

func TestParse(t *testing.T) {
	s, e := Parse("ba7816bf8f01cfea414140de5dae2223b00361a396177a9cb410ff61f20015ad")
	if e != api.OK || s != Of([]byte("abc")) {
		t.Errorf("%x, %d", s, int(e))
	}
	s, e = Parse(strings.Repeat("0", 64))
	if e != api.OK || s != (api.Sum{}) {
		t.Errorf("%x, %d", s, int(e))
	}
	s, e = Parse("10" + strings.Repeat("0", 60) + "0f")
	if e != api.OK || s != (api.Sum{0: 0x10, 31: 0x0f}) {
		t.Errorf("%x, %d", s, int(e))
	}
}

func TestParseReadsWhatHexTells(t *testing.T) {
	sum := Of()
	for n := range 256 {
		sum = Of(sum[:])
		sum[n%32] = byte(n)
		if got, e := Parse(Hex(sum[:])); got != sum || e != api.OK {
			t.Fatalf("Parse(Hex(%x)) = %x, %d", sum, got, int(e))
		}
	}
}

// mustRefuse asks whether a text is no sum.
func mustRefuse(t *testing.T, s string) {
	t.Helper()
	if sum, e := Parse(s); e != api.ErrForm || sum != (api.Sum{}) {
		t.Errorf("Parse(%q) = %x, %d", s, sum, int(e))
	}
}

func TestParseOfOtherLengths(t *testing.T) {
	for n := range 200 {
		if n != 64 {
			mustRefuse(t, strings.Repeat("7", n))
		}
	}
	mustRefuse(t, strings.Repeat("é", 64))
	mustRefuse(t, strings.Repeat("é", 32)) // 64 bytes, but no digits
	mustRefuse(t, " "+strings.Repeat("7", 64))
	mustRefuse(t, strings.Repeat("7", 64)+"\n")
}

func TestParseOfOtherDigits(t *testing.T) {
	for n := range 256 {
		if strings.IndexByte("0123456789abcdef", byte(n)) >= 0 {
			continue
		}
		for _, at := range []int{0, 1, 31, 32, 62, 63} {
			mustRefuse(t, strings.Repeat("a", at)+string([]byte{byte(n)})+strings.Repeat("a", 63-at))
		}
	}
	for at := range 64 {
		mustRefuse(t, strings.Repeat("1", at)+"A"+strings.Repeat("1", 63-at))
	}
	mustRefuse(t, "BA7816BF8F01CFEA414140DE5DAE2223B00361A396177A9CB410FF61F20015AD")
	mustRefuse(t, "0x"+strings.Repeat("7", 62))
}

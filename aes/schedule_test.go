package aes

import (
	"bytes"
	"testing"

	"reliquary/api"
	"reliquary/field"
	"reliquary/sha"
)

// P6.2: Schedule.

// TestSchedulePublished has the round keys that FIPS 197 tells in its appendix A.3, and those of noughts and of the example.
func TestSchedulePublished(t *testing.T) {
	for _, want := range [][15]string{{
		"603deb1015ca71be2b73aef0857d7781", "1f352c073b6108d72d9810a30914dff4", "9ba354118e6925afa51a8b5f2067fcde",
		"a8b09c1a93d194cdbe49846eb75d5b9a", "d59aecb85bf3c917fee94248de8ebe96", "b5a9328a2678a647983122292f6c79b3",
		"812c81addadf48ba24360af2fab8b464", "98c5bfc9bebd198e268c3ba709e04214", "68007bacb2df331696e939e46c518d80",
		"c814e20476a9fb8a5025c02d59c58239", "de1369676ccc5a71fa2563959674ee15", "5886ca5d2e2f31d77e0af1fa27cf73c3",
		"749c47ab18501ddae2757e4f7401905a", "cafaaae3e4d59b349adf6acebd10190d", "fe4890d1e6188d0b046df344706c631e",
	}, {
		"00000000000000000000000000000000", "00000000000000000000000000000000", "62636363626363636263636362636363",
		"aafbfbfbaafbfbfbaafbfbfbaafbfbfb", "6f6c6ccf0d0f0fac6f6c6ccf0d0f0fac", "7d8d8d6ad77676917d8d8d6ad7767691",
		"5354edc15e5be26d31378ea23c38810e", "968a81c141fcf7503c717a3aeb070cab", "9eaa8f28c0f16d45f1c6e3e7cdfe62e9",
		"2b312bdf6acddc8f56bca6b5bdbbaa1e", "6406fd52a4f79017553173f098cf1119", "6dbba90b0776758451cad331ec71792f",
		"e7b0e89c4347788b16760b7b8eb91a62", "74ed0ba1739b7e252251ad14ce20d43b", "10f80a1753bf729c45c979e7cb706385",
	}, {
		"000102030405060708090a0b0c0d0e0f", "101112131415161718191a1b1c1d1e1f", "a573c29fa176c498a97fce93a572c09c",
		"1651a8cd0244beda1a5da4c10640bade", "ae87dff00ff11b68a68ed5fb03fc1567", "6de1f1486fa54f9275f8eb5373b8518d",
		"c656827fc9a799176f294cec6cd5598b", "3de23a75524775e727bf9eb45407cf39", "0bdc905fc27b0948ad5245a4c1871c2f",
		"45f5a66017b2d387300d4d33640a820a", "7ccff71cbeb4fe5413e6bbf0d261a7df", "f01afafee7a82979d7a5644ab3afe640",
		"2541fe719bf500258813bbd55a721c0a", "4e5a6699a9f24fe07e572baacdf8cdea", "24fc79ccbf0979e9371ac23c6d68de36",
	}} {
		for i, key := range Schedule(keyOf(t, want[0]+want[1])) {
			if got := sha.Hex(key[:]); got != want[i] {
				t.Errorf("of %s%s the round key %d: %s, not %s", want[0], want[1], i, got, want[i])
			}
		}
	}
}

func TestScheduleFollowsTheChapter(t *testing.T) {
	for _, key := range someKeys() {
		want := slowSchedule(key)
		for i, one := range Schedule(key) {
			if !bytes.Equal(one[:], bytes.Join(want[4*i:4*i+4], nil)) {
				t.Fatalf("of %x the round key %d: %x, not %x", key, i, one, want[4*i:4*i+4])
			}
		}
	}
}

// TestScheduleWordByWord asks of each word what it is beside the one eight ahead, without slowSchedule.
func TestScheduleWordByWord(t *testing.T) {
	for _, key := range someKeys() {
		var w [60][4]byte
		for i, one := range Schedule(key) {
			for c := range 4 {
				w[4*i+c] = [4]byte(one[4*c:])
			}
		}
		for i := 8; i < 60; i++ {
			for r := range 4 {
				want := w[i-1][r]
				switch i % 8 {
				case 0:
					want = Sbox(w[i-1][(r+1)%4])
				case 4:
					want = Sbox(want)
				}
				if i%8 == 0 && r == 0 {
					want ^= field.Power(2, i/8-1)
				}
				if w[i][r]^w[i-8][r] != want {
					t.Fatalf("of %x the word %d: %x", key, i, w[i])
				}
			}
		}
	}
}

func TestScheduleTellsKeysApart(t *testing.T) {
	seen := map[[15][16]byte]bool{}
	keys := someKeys()
	for i := range 256 {
		other := keyOf(t, "603deb1015ca71be2b73aef0857d77811f352c073b6108d72d9810a30914dff4")
		other[i/8] ^= 1 << (i % 8)
		keys = append(keys, other)
	}
	for _, key := range keys {
		if one := Schedule(key); seen[one] || one != Schedule(key) {
			t.Fatalf("the round keys of %x", key)
		} else {
			seen[one] = true
		}
	}
}

func TestScheduleBeginsWithTheKey(t *testing.T) {
	for _, key := range someKeys() {
		keys := Schedule(key)
		if api.Key(append(keys[0][:], keys[1][:]...)) != key {
			t.Fatalf("%x: %x %x", key, keys[0], keys[1])
		}
	}
}

/- The sums of the document on numbers: words modulo 2^32, a block, the text, the whole. Own work. -/
import Derived.Test.YtllhljhbnopafaaDoorRow8
namespace Go.Proofs.YtllhljhbnopafaaDoor
namespace SM
/-- Turned to the right by n of 32 bits. -/
def rr (x n : Nat) : Nat := x / 2 ^ n ||| x * 2 ^ (32 - n) % 4294967296
def s0 (x : Nat) : Nat := (rr x 7 ^^^ rr x 18) ^^^ x / 8
def s1 (x : Nat) : Nat := (rr x 17 ^^^ rr x 19) ^^^ x / 1024
def S0 (x : Nat) : Nat := (rr x 2 ^^^ rr x 13) ^^^ rr x 22
def S1 (x : Nat) : Nat := (rr x 6 ^^^ rr x 11) ^^^ rr x 25
def ch (e f g : Nat) : Nat := (e &&& f) ^^^ ((4294967295 ^^^ e) &&& g)
def mj (a b c : Nat) : Nat := ((a &&& b) ^^^ (a &&& c)) ^^^ (b &&& c)
def kk : List Nat := [0x428a2f98, 0x71374491, 0xb5c0fbcf, 0xe9b5dba5, 0x3956c25b, 0x59f111f1, 0x923f82a4, 0xab1c5ed5,
  0xd807aa98, 0x12835b01, 0x243185be, 0x550c7dc3, 0x72be5d74, 0x80deb1fe, 0x9bdc06a7, 0xc19bf174,
  0xe49b69c1, 0xefbe4786, 0x0fc19dc6, 0x240ca1cc, 0x2de92c6f, 0x4a7484aa, 0x5cb0a9dc, 0x76f988da,
  0x983e5152, 0xa831c66d, 0xb00327c8, 0xbf597fc7, 0xc6e00bf3, 0xd5a79147, 0x06ca6351, 0x14292967,
  0x27b70a85, 0x2e1b2138, 0x4d2c6dfc, 0x53380d13, 0x650a7354, 0x766a0abb, 0x81c2c92e, 0x92722c85,
  0xa2bfe8a1, 0xa81a664b, 0xc24b8b70, 0xc76c51a3, 0xd192e819, 0xd6990624, 0xf40e3585, 0x106aa070,
  0x19a4c116, 0x1e376c08, 0x2748774c, 0x34b0bcb5, 0x391c0cb3, 0x4ed8aa4a, 0x5b9cca4f, 0x682e6ff3,
  0x748f82ee, 0x78a5636f, 0x84c87814, 0x8cc70208, 0x90befffa, 0xa4506ceb, 0xbef9a3f7, 0xc67178f2]
def h0 : List Nat := [0x6a09e667, 0xbb67ae85, 0x3c6ef372, 0xa54ff53a, 0x510e527f, 0x9b05688c, 0x1f83d9ab, 0x5be0cd19]
/-- Four bytes of a row from place i on, the highest first. -/
def be4 (b : List Nat) (i : Nat) : Nat := ((gb b i * 16777216 ||| gb b (i + 1) * 65536) ||| gb b (i + 2) * 256) ||| gb b (i + 3)
def wn (w : List Nat) (t : Nat) : Nat := (s1 (gb w (t - 2)) + gb w (t - 7) + s0 (gb w (t - 15)) + gb w (t - 16)) % 4294967296
/-- The words of a block as far as t. -/
def wTo (b : List Nat) : Nat → List Nat
  | 0 => List.replicate 64 0
  | t + 1 => (wTo b t).set t (if t < 16 then be4 b (4 * t) else wn (wTo b t) t)
def t1 (x : List Nat) (k w : Nat) : Nat := (gb x 7 + S1 (gb x 4) + ch (gb x 4) (gb x 5) (gb x 6) + k + w) % 4294967296
def t2 (x : List Nat) : Nat := (S0 (gb x 0) + mj (gb x 0) (gb x 1) (gb x 2)) % 4294967296
def rnd (x : List Nat) (k w : Nat) : List Nat :=
  [(t1 x k w + t2 x) % 4294967296, gb x 0, gb x 1, gb x 2, (gb x 3 + t1 x k w) % 4294967296, gb x 4, gb x 5, gb x 6]
/-- The letters behind t rounds. -/
def xTo (h w : List Nat) : Nat → List Nat
  | 0 => h
  | t + 1 => rnd (xTo h w t) (gb kk t) (gb w t)
/-- The state with the letters added, as far as i. -/
def aTo (h x : List Nat) : Nat → List Nat
  | 0 => h
  | i + 1 => (aTo h x i).set i ((gb (aTo h x i) i + gb x i) % 4294967296)
/-- The state behind a block. -/
def blk (h b : List Nat) : List Nat := aTo h (xTo h (wTo b 64) 64) 8

def Words (n : Nat) (l : List Nat) : Prop := l.length = n ∧ ∀ k, gb l k < 4294967296
theorem words_zero (n : Nat) : Words n (List.replicate n 0) := by
  refine ⟨by simp, fun k => ?_⟩
  unfold gb; rw [List.getD_eq_getElem?_getD, List.getElem?_replicate]; split <;> simp
theorem words_set {n : Nat} {l : List Nat} (h : Words n l) (k v : Nat) (hv : v < 4294967296) : Words n (l.set k v) := by
  refine ⟨by rw [List.length_set]; exact h.1, fun j => ?_⟩
  by_cases hk : k < l.length
  · rw [gb_set l k v j hk]
    split
    · exact hv
    · exact h.2 j
  · rw [List.set_eq_of_length_le (by omega)]; exact h.2 j
theorem or_w {a b : Nat} (ha : a < 4294967296) (hb : b < 4294967296) : a ||| b < 4294967296 := Nat.or_lt_two_pow (n := 32) ha hb
theorem xor_w {a b : Nat} (ha : a < 4294967296) (hb : b < 4294967296) : a ^^^ b < 4294967296 := Nat.xor_lt_two_pow (n := 32) ha hb
theorem and_w {a b : Nat} (ha : a < 4294967296) : a &&& b < 4294967296 := Nat.lt_of_le_of_lt Nat.and_le_left ha
theorem rr_w {x : Nat} (n : Nat) (hx : x < 4294967296) : rr x n < 4294967296 :=
  or_w (Nat.lt_of_le_of_lt (Nat.div_le_self _ _) hx) (Nat.mod_lt _ (by omega))
theorem s0_w {x : Nat} (hx : x < 4294967296) : s0 x < 4294967296 := xor_w (xor_w (rr_w 7 hx) (rr_w 18 hx)) (by omega)
theorem s1_w {x : Nat} (hx : x < 4294967296) : s1 x < 4294967296 := xor_w (xor_w (rr_w 17 hx) (rr_w 19 hx)) (by omega)
theorem S0_w {x : Nat} (hx : x < 4294967296) : S0 x < 4294967296 := xor_w (xor_w (rr_w 2 hx) (rr_w 13 hx)) (rr_w 22 hx)
theorem S1_w {x : Nat} (hx : x < 4294967296) : S1 x < 4294967296 := xor_w (xor_w (rr_w 6 hx) (rr_w 11 hx)) (rr_w 25 hx)
theorem ch_w {e f g : Nat} (he : e < 4294967296) : ch e f g < 4294967296 := xor_w (and_w he) (and_w (xor_w (by omega) he))
theorem mj_w {a b c : Nat} (ha : a < 4294967296) (hb : b < 4294967296) : mj a b c < 4294967296 := xor_w (xor_w (and_w ha) (and_w ha)) (and_w hb)
theorem be4_w {b : List Nat} (h : ∀ k, gb b k < 256) (i : Nat) : be4 b i < 4294967296 := by
  have h0 := h i; have h1 := h (i + 1); have h2 := h (i + 2); have h3 := h (i + 3)
  exact or_w (or_w (or_w (by omega) (by omega)) (by omega)) (by omega)
theorem wTo_w {b : List Nat} (h : ∀ k, gb b k < 256) : ∀ t, Words 64 (wTo b t)
  | 0 => words_zero 64
  | t + 1 => by
    unfold wTo
    refine words_set (wTo_w h t) t _ ?_
    split
    · exact be4_w h _
    · exact Nat.mod_lt _ (by omega)
theorem t1_w (x : List Nat) (k w : Nat) : t1 x k w < 4294967296 := Nat.mod_lt _ (by omega)
theorem t2_w (x : List Nat) : t2 x < 4294967296 := Nat.mod_lt _ (by omega)
theorem words8 {a b c d e f g h : Nat} (ha : a < 4294967296) (hb : b < 4294967296) (hc : c < 4294967296) (hd : d < 4294967296) (he : e < 4294967296) (hf : f < 4294967296) (hg : g < 4294967296) (hh : h < 4294967296) : Words 8 [a, b, c, d, e, f, g, h] := by
  refine ⟨rfl, fun k => ?_⟩
  rcases k with _ | _ | _ | _ | _ | _ | _ | _ | k
  · exact ha
  · exact hb
  · exact hc
  · exact hd
  · exact he
  · exact hf
  · exact hg
  · exact hh
  · show [a, b, c, d, e, f, g, h].getD (k + 8) 0 < _
    simp
theorem rnd_w {x : List Nat} (hx : Words 8 x) (k w : Nat) : Words 8 (rnd x k w) :=
  words8 (Nat.mod_lt _ (by omega)) (hx.2 0) (hx.2 1) (hx.2 2) (Nat.mod_lt _ (by omega)) (hx.2 4) (hx.2 5) (hx.2 6)
theorem xTo_w {h w : List Nat} (hh : Words 8 h) : ∀ t, Words 8 (xTo h w t)
  | 0 => hh
  | t + 1 => rnd_w (xTo_w hh t) _ _
theorem aTo_w {h x : List Nat} (hh : Words 8 h) : ∀ i, Words 8 (aTo h x i)
  | 0 => hh
  | i + 1 => words_set (aTo_w hh i) i _ (Nat.mod_lt _ (by omega))
theorem blk_w {h b : List Nat} (hh : Words 8 h) : Words 8 (blk h b) := aTo_w hh 8
theorem h0_w : Words 8 h0 := words8 (by omega) (by omega) (by omega) (by omega) (by omega) (by omega) (by omega) (by omega)
theorem kk_w : Words 64 kk := by
  refine ⟨rfl, fun k => ?_⟩
  by_cases hk : k < 64
  · have : ∀ k : Fin 64, gb kk k.1 < 4294967296 := by decide
    exact this ⟨k, hk⟩
  · unfold gb; rw [List.getD_eq_getElem?_getD, List.getElem?_eq_none (by show 64 ≤ k; omega)]; decide

/-- The text of some bytes: themselves, 128, noughts, how many bits. -/
def zeros (n : Nat) : Nat := (119 - n % 64) % 64
def be8 (n : Nat) : List Nat := (List.range 8).map fun i => n / 256 ^ (8 - 1 - i) % 256
def text (l : List Nat) : List Nat := l ++ 128 :: List.replicate (zeros l.length) 0 ++ be8 (8 * l.length)
/-- The state behind n blocks of a text. -/
def stTo (t : List Nat) : Nat → List Nat
  | 0 => h0
  | n + 1 => blk (stTo t n) ((t.drop (64 * n)).take 64)
/-- The bytes of eight words. -/
def out (h : List Nat) : List Nat := (List.range 32).map fun i => gb h (i / 4) / 2 ^ (24 - 8 * (i % 4)) % 256
def sha (l : List Nat) : List Nat := out (stTo (text l) ((text l).length / 64))
theorem sha_abc : sha [97, 98, 99] = [0xba, 0x78, 0x16, 0xbf, 0x8f, 0x01, 0xcf, 0xea, 0x41, 0x41, 0x40, 0xde, 0x5d, 0xae, 0x22, 0x23, 0xb0, 0x03, 0x61, 0xa3, 0x96, 0x17, 0x7a, 0x9c, 0xb4, 0x10, 0xff, 0x61, 0xf2, 0x00, 0x15, 0xad] := by
  decide +kernel
end SM
end Go.Proofs.YtllhljhbnopafaaDoor

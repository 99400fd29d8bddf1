/- Texts of one subject in one file: ShaMath, ShaBits, ShaBlock. Own work. -/
import Derived.Test.YtoacdeddkfcllaaDoorMem
import Derived.WalkKit
import Derived.BigRegion
import Derived.BigQuiet
import Derived.StillTailTactics
import Derived.Deep.DeepCutAuto
import Derived.Lib.Hide
import Derived.Laws.BitsAllLaws
/- The sums of the document on numbers: words modulo 2^32, a block, the text, the whole. Own work. -/
namespace Go.Proofs.YtoacdeddkfcllaaDoor
namespace SM
/-- Turned to the right by n of 32 bits. -/
def rr (x n : Nat) : Nat := x / 2 ^ n ||| x * 2 ^ (32 - n) % 4294967296
def s0 (x : Nat) : Nat := (rr x 7 ^^^ rr x 18) ^^^ x / 8
def s1 (x : Nat) : Nat := (rr x 17 ^^^ rr x 19) ^^^ x / 1024
def S0 (x : Nat) : Nat := (rr x 2 ^^^ rr x 13) ^^^ rr x 22
def S1 (x : Nat) : Nat := (rr x 6 ^^^ rr x 11) ^^^ rr x 25
def ch (e f g : Nat) : Nat := (e &&& f) ^^^ ((4294967295 ^^^ e) &&& g)
def mj (a b c : Nat) : Nat := ((a &&& b) ^^^ (a &&& c)) ^^^ (b &&& c)
def kk : List Nat := [0x428a2f98, 0x71374491, 0xb5c0fbcf, 0xe9b5dba5, 0x3956c25b, 0x59f111f1, 0x923f82a4, 0xab1c5ed5,
  0xd807aa98, 0x12835b01, 0x243185be, 0x550c7dc3, 0x72be5d74, 0x80deb1fe, 0x9bdc06a7, 0xc19bf174,
  0xe49b69c1, 0xefbe4786, 0x0fc19dc6, 0x240ca1cc, 0x2de92c6f, 0x4a7484aa, 0x5cb0a9dc, 0x76f988da,
  0x983e5152, 0xa831c66d, 0xb00327c8, 0xbf597fc7, 0xc6e00bf3, 0xd5a79147, 0x06ca6351, 0x14292967,
  0x27b70a85, 0x2e1b2138, 0x4d2c6dfc, 0x53380d13, 0x650a7354, 0x766a0abb, 0x81c2c92e, 0x92722c85,
  0xa2bfe8a1, 0xa81a664b, 0xc24b8b70, 0xc76c51a3, 0xd192e819, 0xd6990624, 0xf40e3585, 0x106aa070,
  0x19a4c116, 0x1e376c08, 0x2748774c, 0x34b0bcb5, 0x391c0cb3, 0x4ed8aa4a, 0x5b9cca4f, 0x682e6ff3,
  0x748f82ee, 0x78a5636f, 0x84c87814, 0x8cc70208, 0x90befffa, 0xa4506ceb, 0xbef9a3f7, 0xc67178f2]
def h0 : List Nat := [0x6a09e667, 0xbb67ae85, 0x3c6ef372, 0xa54ff53a, 0x510e527f, 0x9b05688c, 0x1f83d9ab, 0x5be0cd19]
/-- Four bytes of a row from place i on, the highest first. -/
def be4 (b : List Nat) (i : Nat) : Nat := ((gb b i * 16777216 ||| gb b (i + 1) * 65536) ||| gb b (i + 2) * 256) ||| gb b (i + 3)
def wn (w : List Nat) (t : Nat) : Nat := (s1 (gb w (t - 2)) + gb w (t - 7) + s0 (gb w (t - 15)) + gb w (t - 16)) % 4294967296
/-- The words of a block as far as t. -/
def wTo (b : List Nat) : Nat → List Nat
  | 0 => List.replicate 64 0
  | t + 1 => (wTo b t).set t (if t < 16 then be4 b (4 * t) else wn (wTo b t) t)
def t1 (x : List Nat) (k w : Nat) : Nat := (gb x 7 + S1 (gb x 4) + ch (gb x 4) (gb x 5) (gb x 6) + k + w) % 4294967296
def t2 (x : List Nat) : Nat := (S0 (gb x 0) + mj (gb x 0) (gb x 1) (gb x 2)) % 4294967296
def rnd (x : List Nat) (k w : Nat) : List Nat :=
  [(t1 x k w + t2 x) % 4294967296, gb x 0, gb x 1, gb x 2, (gb x 3 + t1 x k w) % 4294967296, gb x 4, gb x 5, gb x 6]
/-- The letters behind t rounds. -/
def xTo (h w : List Nat) : Nat → List Nat
  | 0 => h
  | t + 1 => rnd (xTo h w t) (gb kk t) (gb w t)
/-- The state with the letters added, as far as i. -/
def aTo (h x : List Nat) : Nat → List Nat
  | 0 => h
  | i + 1 => (aTo h x i).set i ((gb (aTo h x i) i + gb x i) % 4294967296)
/-- The state behind a block. -/
def blk (h b : List Nat) : List Nat := aTo h (xTo h (wTo b 64) 64) 8

def Words (n : Nat) (l : List Nat) : Prop := l.length = n ∧ ∀ k, gb l k < 4294967296
theorem words_zero (n : Nat) : Words n (List.replicate n 0) := by
  refine ⟨by simp, fun k => ?_⟩
  unfold gb; rw [List.getD_eq_getElem?_getD, List.getElem?_replicate]; split <;> simp
theorem words_set {n : Nat} {l : List Nat} (h : Words n l) (k v : Nat) (hv : v < 4294967296) : Words n (l.set k v) := by
  refine ⟨by rw [List.length_set]; exact h.1, fun j => ?_⟩
  by_cases hk : k < l.length
  · rw [gb_set l k v j hk]
    split
    · exact hv
    · exact h.2 j
  · rw [List.set_eq_of_length_le (by omega)]; exact h.2 j
theorem or_w {a b : Nat} (ha : a < 4294967296) (hb : b < 4294967296) : a ||| b < 4294967296 := Nat.or_lt_two_pow (n := 32) ha hb
theorem xor_w {a b : Nat} (ha : a < 4294967296) (hb : b < 4294967296) : a ^^^ b < 4294967296 := Nat.xor_lt_two_pow (n := 32) ha hb
theorem and_w {a b : Nat} (ha : a < 4294967296) : a &&& b < 4294967296 := Nat.lt_of_le_of_lt Nat.and_le_left ha
theorem rr_w {x : Nat} (n : Nat) (hx : x < 4294967296) : rr x n < 4294967296 :=
  or_w (Nat.lt_of_le_of_lt (Nat.div_le_self _ _) hx) (Nat.mod_lt _ (by omega))
theorem s0_w {x : Nat} (hx : x < 4294967296) : s0 x < 4294967296 := xor_w (xor_w (rr_w 7 hx) (rr_w 18 hx)) (by omega)
theorem s1_w {x : Nat} (hx : x < 4294967296) : s1 x < 4294967296 := xor_w (xor_w (rr_w 17 hx) (rr_w 19 hx)) (by omega)
theorem S0_w {x : Nat} (hx : x < 4294967296) : S0 x < 4294967296 := xor_w (xor_w (rr_w 2 hx) (rr_w 13 hx)) (rr_w 22 hx)
theorem S1_w {x : Nat} (hx : x < 4294967296) : S1 x < 4294967296 := xor_w (xor_w (rr_w 6 hx) (rr_w 11 hx)) (rr_w 25 hx)
theorem ch_w {e f g : Nat} (he : e < 4294967296) : ch e f g < 4294967296 := xor_w (and_w he) (and_w (xor_w (by omega) he))
theorem mj_w {a b c : Nat} (ha : a < 4294967296) (hb : b < 4294967296) : mj a b c < 4294967296 := xor_w (xor_w (and_w ha) (and_w ha)) (and_w hb)
theorem be4_w {b : List Nat} (h : ∀ k, gb b k < 256) (i : Nat) : be4 b i < 4294967296 := by
  have h0 := h i; have h1 := h (i + 1); have h2 := h (i + 2); have h3 := h (i + 3)
  exact or_w (or_w (or_w (by omega) (by omega)) (by omega)) (by omega)
theorem wTo_w {b : List Nat} (h : ∀ k, gb b k < 256) : ∀ t, Words 64 (wTo b t)
  | 0 => words_zero 64
  | t + 1 => by
    unfold wTo
    refine words_set (wTo_w h t) t _ ?_
    split
    · exact be4_w h _
    · exact Nat.mod_lt _ (by omega)
theorem t1_w (x : List Nat) (k w : Nat) : t1 x k w < 4294967296 := Nat.mod_lt _ (by omega)
theorem t2_w (x : List Nat) : t2 x < 4294967296 := Nat.mod_lt _ (by omega)
theorem words8 {a b c d e f g h : Nat} (ha : a < 4294967296) (hb : b < 4294967296) (hc : c < 4294967296) (hd : d < 4294967296) (he : e < 4294967296) (hf : f < 4294967296) (hg : g < 4294967296) (hh : h < 4294967296) : Words 8 [a, b, c, d, e, f, g, h] := by
  refine ⟨rfl, fun k => ?_⟩
  rcases k with _ | _ | _ | _ | _ | _ | _ | _ | k
  · exact ha
  · exact hb
  · exact hc
  · exact hd
  · exact he
  · exact hf
  · exact hg
  · exact hh
  · show [a, b, c, d, e, f, g, h].getD (k + 8) 0 < _
    simp
theorem rnd_w {x : List Nat} (hx : Words 8 x) (k w : Nat) : Words 8 (rnd x k w) :=
  words8 (Nat.mod_lt _ (by omega)) (hx.2 0) (hx.2 1) (hx.2 2) (Nat.mod_lt _ (by omega)) (hx.2 4) (hx.2 5) (hx.2 6)
theorem xTo_w {h w : List Nat} (hh : Words 8 h) : ∀ t, Words 8 (xTo h w t)
  | 0 => hh
  | t + 1 => rnd_w (xTo_w hh t) _ _
theorem aTo_w {h x : List Nat} (hh : Words 8 h) : ∀ i, Words 8 (aTo h x i)
  | 0 => hh
  | i + 1 => words_set (aTo_w hh i) i _ (Nat.mod_lt _ (by omega))
theorem blk_w {h b : List Nat} (hh : Words 8 h) : Words 8 (blk h b) := aTo_w hh 8
theorem h0_w : Words 8 h0 := words8 (by omega) (by omega) (by omega) (by omega) (by omega) (by omega) (by omega) (by omega)
theorem kk_w : Words 64 kk := by
  refine ⟨rfl, fun k => ?_⟩
  by_cases hk : k < 64
  · have : ∀ k : Fin 64, gb kk k.1 < 4294967296 := by decide
    exact this ⟨k, hk⟩
  · unfold gb; rw [List.getD_eq_getElem?_getD, List.getElem?_eq_none (by show 64 ≤ k; omega)]; decide

/-- The text of some bytes: themselves, 128, noughts, how many bits. -/
def zeros (n : Nat) : Nat := (119 - n % 64) % 64
def be8 (n : Nat) : List Nat := (List.range 8).map fun i => n / 256 ^ (8 - 1 - i) % 256
def text (l : List Nat) : List Nat := l ++ 128 :: List.replicate (zeros l.length) 0 ++ be8 (8 * l.length)
/-- The state behind n blocks of a text. -/
def stTo (t : List Nat) : Nat → List Nat
  | 0 => h0
  | n + 1 => blk (stTo t n) ((t.drop (64 * n)).take 64)
/-- The bytes of eight words. -/
def out (h : List Nat) : List Nat := (List.range 32).map fun i => gb h (i / 4) / 2 ^ (24 - 8 * (i % 4)) % 256
def sha (l : List Nat) : List Nat := out (stTo (text l) ((text l).length / 64))
theorem sha_abc : sha [97, 98, 99] = [0xba, 0x78, 0x16, 0xbf, 0x8f, 0x01, 0xcf, 0xea, 0x41, 0x41, 0x40, 0xde, 0x5d, 0xae, 0x22, 0x23, 0xb0, 0x03, 0x61, 0xa3, 0x96, 0x17, 0x7a, 0x9c, 0xb4, 0x10, 0xff, 0x61, 0xf2, 0x00, 0x15, 0xad] := by
  decide +kernel
end SM
end Go.Proofs.YtoacdeddkfcllaaDoor
/- Words turned to the right, in the document's answer: contracts; the model's bit operations on words. -/
namespace Go.Proofs.YtoacdeddkfcllaaDoor
open Go.ChangeShapes Go.WideShapes Go.ChangeAt Go.RowKit
open SM
set_option maxHeartbeats 400000 in
theorem rr_any (x n : Nat) (hx : x < 4294967296) (h1 : 1 ≤ n) (h2 : n < 32) (w : World) :
    Calls Tryd.prog 50 #[.int .u32 x, .int .u64 n] w fun e w' => e = .returned (.int .u32 (rr x n)) ∧ w = w' := by
  go_enter Tryd.func50, Tryd.ntmps50
  go_wp2_with fail
  go_ret
  refine ⟨?_, rfl⟩
  have e1 : ((x : Int) / 2 ^ n) = ((x / 2 ^ n : Nat) : Int) := by simp
  have e2 : ((x : Int) * 2 ^ (32 - n) % 4294967296) = ((x * 2 ^ (32 - n) % 4294967296 : Nat) : Int) := by simp
  show Ending.returned (Value.int IntKind.u32 (bits BinOp.or IntKind.u32 ((x : Int) / 2 ^ n) ((x : Int) * 2 ^ (32 - n) % 4294967296))) = _
  rw [e1, e2, u32_or_nat _ _ (Nat.lt_of_le_of_lt (Nat.div_le_self _ _) hx) (Nat.mod_lt _ (by omega))]
  rfl

/- Rows of words by value, and in memory. -/
def row32 (l : List Nat) : List Value := l.map fun n : Nat => Value.int .u32 (n : Int)
theorem row32_len (l : List Nat) : (row32 l).length = l.length := by unfold row32; simp
theorem row32_val (l : List Nat) (k : Nat) (h : k < l.length) : (row32 l)[k]? = some (.int .u32 ((gb l k : Nat) : Int)) := by
  unfold row32 gb; rw [List.getElem?_map, List.getD_eq_getElem?_getD, List.getElem?_eq_getElem h]; rfl
theorem row32_set (l : List Nat) (k v : Nat) : (row32 l).set k (.int .u32 (v : Int)) = row32 (l.set k v) := by
  unfold row32; simp
theorem row32_one (l : List Nat) : (row32 l).toArray.all (·.oneCell') = true := by
  unfold row32; simp [Value.oneCell']
/-- The table of the document's answer lies in its place. -/
def Tab (w : World) : Prop := ∀ t, t < 64 → w.cell? ⟨0, t, none⟩ = some (.int .u32 ((gb kk t : Nat) : Int))
theorem Tab.lt {w : World} (h : Tab w) : 0 < w.heap.size := World.block_lt_of_cell? w _ (h 0 (by omega))
theorem Tab.keep {w w' : World} (h : Tab w) (hk : w'.heap[0]? = w.heap[0]?) : Tab w' := fun t ht => by
  rw [World.cell?_of_block (w := w) hk]; exact h t ht
theorem Tab.below {w w' : World} (h : Tab w) (hb : Below w.heap.size w w') : Tab w' := h.keep (hb.block _ h.lt)
theorem Tab.grown {w w' : World} {b : Nat} (h : Tab w) (hb : w.grownBy w' (some b)) (hne : b ≠ 0) : Tab w' := h.keep (hb.block _ h.lt (by simp; omega))
theorem infoW8 : (Tryd.prog.info? 67).map (·.size) = some 8 := by kernel_rfl
theorem infoW64 : (Tryd.prog.info? 83).map (·.size) = some 64 := by kernel_rfl
end Go.Proofs.YtoacdeddkfcllaaDoor
/- A block of the document's answer: contract. -/
namespace Go.Proofs.YtoacdeddkfcllaaDoor
open Go.ChangeShapes Go.WideShapes Go.ChangeAt Go.RowKit
open SM
theorem be4_bits (a b c d : Nat) (ha : a < 256) (hb : b < 256) (hc : c < 256) (hd : d < 256) :
    bits .or .u32 (bits .or .u32 (bits .or .u32 ((a : Int) * 16777216) ((b : Int) * 65536)) ((c : Int) * 256)) (d : Int) = ((((a * 16777216 ||| b * 65536) ||| c * 256) ||| d : Nat) : Int) := by
  have e0 : ((a : Int) * 16777216) = ((a * 16777216 : Nat) : Int) := by simp
  have e1 : ((b : Int) * 65536) = ((b * 65536 : Nat) : Int) := by simp
  have e2 : ((c : Int) * 256) = ((c * 256 : Nat) : Int) := by simp
  rw [e0, e1, e2, u32_or_nat _ _ (by omega) (by omega), u32_or_nat _ _ (or_w (by omega) (by omega)) (by omega), u32_or_nat _ _ (or_w (or_w (by omega) (by omega)) (by omega)) (by omega)]
theorem rr_q (x n : Nat) (hx : x < 4294967296) (h1 : 1 ≤ n) (h2 : n < 32) (w : World) :
    Calls Tryd.prog 50 #[.int .u32 x, .int .u64 n] w fun e w' => e = .returned (.int .u32 (rr x n)) ∧ w' = w :=
  (rr_any x n hx h1 h2 w).mono fun _ _ h => ⟨h.1, h.2.symm⟩
theorem rr_c (x : Nat) (c : Int) (hx : x < 4294967296) (h1 : 1 ≤ c) (h2 : c < 32) (w : World) :
    Calls Tryd.prog 50 #[.int .u32 x, .int .u64 c] w fun e w' => e = .returned (.int .u32 (rr x c.toNat)) ∧ w' = w := by
  obtain ⟨n, rfl⟩ : ∃ n : Nat, c = n := ⟨c.toNat, by omega⟩
  rw [Int.toNat_natCast]
  exact rr_q x n hx (by omega) (by omega) w
theorem quiet_any {P : Program} {f : FuncId} {args : Array Value} {w : World} {v : Value} {C : World → Prop} (h : Calls P f args w fun e w' => e = .returned v ∧ w' = w) (hC : C w) : Calls P f args w fun e w'' => e = .returned v ∧ C w'' :=
  h.mono fun _ _ ⟨he, hm⟩ => ⟨he, hm ▸ hC⟩
theorem below_drewN {B : Nat} {a w : World} (h : Below B a w) (n : Nat) : Below B a (w.drewN n) := ⟨h.os, h.tape, h.output, h.size, h.block⟩
theorem s1_bits (x : Nat) (hx : x < 4294967296) : bits .xor .u32 (bits .xor .u32 ((rr x 17 : Nat) : Int) ((rr x 19 : Nat) : Int)) ((x : Int) / 1024) = ((s1 x : Nat) : Int) := by
  have e : ((x : Int) / 1024) = ((x / 1024 : Nat) : Int) := by simp
  rw [e, u32_xor_nat _ _ (rr_w 17 hx) (rr_w 19 hx), u32_xor_nat _ _ (xor_w (rr_w 17 hx) (rr_w 19 hx)) (by omega)]; rfl
theorem s0_bits (x : Nat) (hx : x < 4294967296) : bits .xor .u32 (bits .xor .u32 ((rr x 7 : Nat) : Int) ((rr x 18 : Nat) : Int)) ((x : Int) / 8) = ((s0 x : Nat) : Int) := by
  have e : ((x : Int) / 8) = ((x / 8 : Nat) : Int) := by simp
  rw [e, u32_xor_nat _ _ (rr_w 7 hx) (rr_w 18 hx), u32_xor_nat _ _ (xor_w (rr_w 7 hx) (rr_w 18 hx)) (by omega)]; rfl
theorem S0_bits (x : Nat) (hx : x < 4294967296) : bits .xor .u32 (bits .xor .u32 ((rr x 2 : Nat) : Int) ((rr x 13 : Nat) : Int)) ((rr x 22 : Nat) : Int) = ((S0 x : Nat) : Int) := by
  rw [u32_xor_nat _ _ (rr_w 2 hx) (rr_w 13 hx), u32_xor_nat _ _ (xor_w (rr_w 2 hx) (rr_w 13 hx)) (rr_w 22 hx)]; rfl
theorem S1_bits (x : Nat) (hx : x < 4294967296) : bits .xor .u32 (bits .xor .u32 ((rr x 6 : Nat) : Int) ((rr x 11 : Nat) : Int)) ((rr x 25 : Nat) : Int) = ((S1 x : Nat) : Int) := by
  rw [u32_xor_nat _ _ (rr_w 6 hx) (rr_w 11 hx), u32_xor_nat _ _ (xor_w (rr_w 6 hx) (rr_w 11 hx)) (rr_w 25 hx)]; rfl
theorem ch_bits (e f g : Nat) (he : e < 4294967296) (hf : f < 4294967296) (hg : g < 4294967296) : bits .xor .u32 (bits .and .u32 (e : Int) (f : Int)) (bits .and .u32 (bits .xor .u32 (if IntKind.u32.signed = true then -1 else IntKind.u32.max) (e : Int)) (g : Int)) = ((ch e f g : Nat) : Int) := by
  have m : (if IntKind.u32.signed = true then (-1 : Int) else IntKind.u32.max) = ((4294967295 : Nat) : Int) := by decide
  rw [m, u32_xor_nat _ _ (by omega) he, u32_and_nat _ _ he hf, u32_and_nat _ _ (xor_w (by omega) he) hg, u32_xor_nat _ _ (and_w he) (and_w (xor_w (by omega) he))]; rfl
theorem t1_val (x : List Nat) (k w : Nat) : ((((gb x 7 : Nat) : Int) + ((S1 (gb x 4) : Nat) : Int) + ((ch (gb x 4) (gb x 5) (gb x 6) : Nat) : Int) + (k : Int)) % 4294967296 + (w : Int)) % 4294967296 = ((t1 x k w : Nat) : Int) := by
  unfold t1; omega
theorem t2_val (x : List Nat) : (((S0 (gb x 0) : Nat) : Int) + ((mj (gb x 0) (gb x 1) (gb x 2) : Nat) : Int)) % 4294967296 = ((t2 x : Nat) : Int) := by
  unfold t2; omega
theorem rnd_agg (x : List Nat) (k w T1 T2 : Nat) (h1 : T1 = t1 x k w) (h2 : T2 = t2 x) :
    Value.agg #[.int .u32 (((T1 : Int) + (T2 : Int)) % 4294967296), .int .u32 (gb x 0 : Nat), .int .u32 (gb x 1 : Nat), .int .u32 (gb x 2 : Nat), .int .u32 ((((gb x 3 : Nat) : Int) + (T1 : Int)) % 4294967296), .int .u32 (gb x 4 : Nat), .int .u32 (gb x 5 : Nat), .int .u32 (gb x 6 : Nat)] = .agg (row32 (rnd x k w)).toArray := by
  subst h1; subst h2
  unfold row32 rnd
  simp
theorem mj_bits (a b c : Nat) (ha : a < 4294967296) (hb : b < 4294967296) (hc : c < 4294967296) : bits .xor .u32 (bits .xor .u32 (bits .and .u32 (a : Int) (b : Int)) (bits .and .u32 (a : Int) (c : Int))) (bits .and .u32 (b : Int) (c : Int)) = ((mj a b c : Nat) : Int) := by
  rw [u32_and_nat _ _ ha hb, u32_and_nat _ _ ha hc, u32_and_nat _ _ hb hc, u32_xor_nat _ _ (and_w ha) (and_w ha), u32_xor_nat _ _ (xor_w (and_w ha) (and_w ha)) (and_w hb)]; rfl
theorem add_succ (a : Addr) (n : Nat) : a.add (n + 1) = ⟨a.block, a.off + (n + 1), none⟩ := by simp [Addr.add]
set_option maxRecDepth 100000 in
set_option maxHeartbeats 1000000 in
theorem rblock_any (h l : List Nat) (hh : Words 8 h) (hl : l.length = 64) (v : Value) (w : World) (hv : Rd w v l) (ht : Tab w) :
    Calls Tryd.prog 41 #[.agg (row32 h).toArray, v] w fun e w' => e = .returned (.agg (row32 (blk h l)).toArray) ∧ Below w.heap.size w w' := by
  obtain ⟨ao, cap, rfl, hcap⟩ := hv.shape
  obtain ⟨ad, rfl, _⟩ := hv.at_ 0 (by omega)
  have HV := Lib.hid hv
  have HH := Lib.hid hh
  have HT := Lib.hid ht
  have HL := Lib.hid hl
  rw [hl] at hcap HV ⊢
  clear hv hh ht
  have hf := HV.out.fits
  go_enter Tryd.func41, Tryd.ntmps41
  go_wp2_with fail
  go_loopw [6] (fun i wr => ∃ k : Nat, k ≤ 16 ∧ i = .int .i64 k ∧ Blk wr w.heap.size 67 (row32 h) ∧ Blk wr (w.heap.size + 1) 67 (row32 (List.replicate 8 0)) ∧ Blk wr (w.heap.size + 1 + 1) 83 (row32 (wTo l k)) ∧ Below w.heap.size w wr) (fun i _ => 16 - (intOf i).toNat)
  case atStart => exact ⟨0, Nat.zero_le _, rfl, ((Blk.new w _ _ _ rfl).alloc _).alloc _, (Blk.new _ _ _ _ (by simp)).alloc _, Blk.new _ _ _ _ (by simp), (((Below.refl _ _).alloc (Nat.le_refl _) _).alloc (by simp) _).alloc (by simp; omega) _⟩
  case round =>
    obtain ⟨k, hk, rfl, b0, b1, b2, bb⟩ := hrel
    by_cases hlt : k < 16
    · have c := HV.out.below bb
      obtain ⟨_, e0, c0⟩ := c.at_ (4 * k) (by omega)
      obtain ⟨_, e1, c1⟩ := c.at_ (4 * k + 1) (by omega)
      obtain ⟨_, e2, c2⟩ := c.at_ (4 * k + 2) (by omega)
      obtain ⟨_, e3, c3⟩ := c.at_ (4 * k + 3) (by omega)
      cases e0; cases e1; cases e2; cases e3
      have g0 := HV.out.byte (4 * k)
      have g1 := HV.out.byte (4 * k + 1)
      have g2 := HV.out.byte (4 * k + 1 + 1)
      have g3 := HV.out.byte (4 * k + 2 + 1)
      rw [add_succ] at c1
      rw [show 4 * k + 2 = 4 * k + 1 + 1 from rfl, add_succ] at c2
      rw [show 4 * k + 3 = 4 * k + 2 + 1 from rfl, add_succ] at c3
      have hfree := b2.free k
      have hcell := b2.cell k _ (row32_val _ k (by rw [(wTo_w HV.out.byte k).1]; omega))
      have B0 := Lib.hid b0
      have B1 := Lib.hid b1
      have B2 := Lib.hid b2
      have BB := Lib.hid bb
      clear b0 b1 b2 bb c
      go_upto_region 5 with (fail)
      go_region
      go_wp2_with fail
      refine ⟨⟨k + 1, by omega, by go_num, (B0.out.other _ _ (by simp <;> omega)).drew, (B1.out.other _ _ (by simp <;> omega)).drew, ?_, (BB.out.setCell (by simp; omega) _).drew⟩, by simp [intOf]; omega⟩
      rw [be4_bits _ _ _ _ g0 g1 g2 g3]
      have := (B2.out.set k (.int .u32 ((be4 l (4 * k) : Nat) : Int))).drew
      rw [row32_set] at this
      unfold wTo
      rw [if_pos hlt]
      exact this
    · obtain rfl : k = 16 := by omega
      go_wp2_with fail
      go_loopw [7] (fun i wr => ∃ j : Nat, j ≤ 48 ∧ i = .int .i64 ((j : Int) + 16) ∧ Blk wr w.heap.size 67 (row32 h) ∧ Blk wr (w.heap.size + 1) 67 (row32 (List.replicate 8 0)) ∧ Blk wr (w.heap.size + 1 + 1) 83 (row32 (wTo l (j + 16))) ∧ Below w.heap.size w wr) (fun i _ => 64 - (intOf i).toNat)
      case atStart => exact ⟨0, Nat.zero_le _, rfl, b0, b1, b2, bb⟩
      case round =>
        clear b0 b1 b2 bb
        obtain ⟨j, hj, rfl, b0, b1, b2, bb⟩ := hrel
        by_cases hjt : j < 48
        · have hw := wTo_w HV.out.byte (j + 16)
          obtain ⟨ws, hws⟩ : ∃ ws, ws = wTo l (j + 16) := ⟨_, rfl⟩
          rw [← hws] at hw b2
          have c2 := b2.cell (j + 14) _ (row32_val _ _ (by rw [hw.1]; omega))
          have c15 := b2.cell (j + 1) _ (row32_val _ _ (by rw [hw.1]; omega))
          have c7 := b2.cell (j + 9) _ (row32_val _ _ (by rw [hw.1]; omega))
          have c16 := b2.cell j _ (row32_val _ _ (by rw [hw.1]; omega))
          have cj := b2.cell (j + 16) _ (row32_val _ _ (by rw [hw.1]; omega))
          have hfree := b2.free (j + 16)
          have g2 := hw.2 (j + 14)
          have g15 := hw.2 (j + 1)
          have g7 := hw.2 (j + 9)
          have g16 := hw.2 j
          have B0 := Lib.hid b0
          have B1 := Lib.hid b1
          have B2 := Lib.hid b2
          have BB := Lib.hid bb
          have HW := Lib.hid hw
          have HWS := Lib.hid hws
          clear b0 b1 b2 bb hw hws
          go_upto_region 9 with (fail)
          go_big_quiet ((go_at_call 50; refine quiet_any (rr_c _ _ ?_ ?_ ?_ _) ?_ <;> first | omega | exact ⟨_, rfl⟩))
          rw [s1_bits _ (by assumption)]
          revert nq
          intro n1
          go_upto_region 10 with (fail)
          go_big_quiet ((go_at_call 50; refine quiet_any (rr_c _ _ ?_ ?_ ?_ _) ?_ <;> first | omega | exact ⟨_, rfl⟩))
          rw [s0_bits _ (by assumption)]
          go_upto_region 11 with (fail)
          have n0 : Blk ((wr.drewN n1).drewN nq) w.heap.size 67 (row32 h) := B0.out
          have n1' : Blk ((wr.drewN n1).drewN nq) (w.heap.size + 1) 67 (row32 (List.replicate 8 0)) := B1.out
          have n2 : Blk ((wr.drewN n1).drewN nq) (w.heap.size + 1 + 1) 83 (row32 ws) := B2.out
          have nb : Below w.heap.size w ((wr.drewN n1).drewN nq) := below_drewN (below_drewN BB.out n1) nq
          generalize (wr.drewN n1).drewN nq = w2 at *
          clear c2 c15 c7 c16 cj hfree B0 B1 B2 BB
          have c7 := n2.cell (j + 9) _ (row32_val _ _ (by rw [HW.out.1]; omega))
          have c16 := n2.cell j _ (row32_val _ _ (by rw [HW.out.1]; omega))
          have cj := n2.cell (j + 16) _ (row32_val _ _ (by rw [HW.out.1]; omega))
          have hfree := n2.free (j + 16)
          have N0 := Lib.hid n0
          have N1 := Lib.hid n1'
          have N2 := Lib.hid n2
          have NB := Lib.hid nb
          clear n0 n1' n2 nb
          go_region
          go_wp2_with fail
          have hval : ((((s1 (gb ws (j + 14)) : Nat) : Int) + ((gb ws (j + 9) : Nat) : Int) + ((s0 (gb ws (j + 1)) : Nat) : Int) + ((gb ws j : Nat) : Int)) % 4294967296) = ((wn ws (j + 16) : Nat) : Int) := by
            unfold wn; simp
          rw [hval]
          refine ⟨⟨j + 1, by omega, by congr 1 <;> omega, (N0.out.other _ _ (by simp <;> omega)).drew, (N1.out.other _ _ (by simp <;> omega)).drew, ?_, (NB.out.setCell (by simp; omega) _).drew⟩, by simp [intOf]; omega⟩
          have := (N2.out.set (j + 16) (.int .u32 ((wn ws (j + 16) : Nat) : Int))).drew
          rw [row32_set, HWS.out] at this
          rw [show j + 1 + 16 = (j + 16) + 1 by omega]
          unfold wTo
          rw [if_neg (by omega)]
          rw [HWS.out]
          exact this
        · obtain rfl : j = 48 := by omega
          have hx0 : w.heap.size + 1 + 1 < wr.heap.size := b2.lt
          have h64 : (row32 h).length = 8 := by rw [row32_len]; exact HH.out.1
          have hw := wTo_w HV.out.byte 64
          obtain ⟨ws, hws⟩ : ∃ ws, ws = wTo l 64 := ⟨_, rfl⟩
          have hws' : ws = wTo l (48 + 16) := hws
          rw [← hws'] at b2
          rw [← hws] at hw
          have B0 := Lib.hid b0
          have B1 := Lib.hid b1
          have B2 := Lib.hid b2
          have BB := Lib.hid bb
          have HW := Lib.hid hw
          have HWS := Lib.hid hws
          have H8 := Lib.hid h64
          clear b0 b1 b2 bb hw hws hws' h64
          go_wp2_with (first | (refine wpList_load_mid rfl 67 (.tmp 2) rfl w.heap.size 0 rfl (row32 h) _ B0.out.range Tryd.underlying67 rfl (by rw [H8.out]; exact infoW8) ?_) | (refine wpList_store_mid rfl 67 (.tmp 10) (.tmp 113) rfl wr.heap.size 0 (row32 h).toArray rfl rfl ((Blk.new wr 67 (row32 (List.replicate 8 0)) _ rfl).there _ (by rw [List.size_toArray, H8.out]; rfl)) (by rw [List.size_toArray, H8.out]; exact infoW8) (row32_one _) ?_))
          have nx := (Blk.new wr 67 (row32 (List.replicate 8 0)) _ rfl).whole (row32 h) (by rw [H8.out]; rfl)
          have n0 := Blk.others wr.heap.size (by omega) (row32 h) 0 _ (B0.out.alloc (.cells (row32 (List.replicate 8 0)).toArray 67))
          have n1 := Blk.others wr.heap.size (by omega) (row32 h) 0 _ (B1.out.alloc (.cells (row32 (List.replicate 8 0)).toArray 67))
          have n2 := Blk.others wr.heap.size (by omega) (row32 h) 0 _ (B2.out.alloc (.cells (row32 (List.replicate 8 0)).toArray 67))
          have nb := below_setCells wr.heap.size (by omega) (row32 h) 0 _ (BB.out.alloc (by omega) (.cells (row32 (List.replicate 8 0)).toArray 67))
          clear B0 B1 B2 BB
          obtain ⟨xb, hxb⟩ : ∃ xb, xb = wr.heap.size := ⟨_, rfl⟩
          rw [← hxb] at n0 n1 n2 nx nb hx0 ⊢
          clear hxb
          go_loopw [11] (fun i wq => ∃ t : Nat, t ≤ 64 ∧ i = .int .i64 t ∧ Blk wq w.heap.size 67 (row32 h) ∧ Blk wq (w.heap.size + 1) 67 (row32 (List.replicate 8 0)) ∧ Blk wq (w.heap.size + 1 + 1) 83 (row32 ws) ∧ Blk wq xb 67 (row32 (xTo h ws t)) ∧ Below w.heap.size w wq) (fun i _ => 64 - (intOf i).toNat)
          case atStart => exact ⟨0, Nat.zero_le _, rfl, n0, n1, n2, nx, nb⟩
          case round =>
            clear n0 n1 n2 nx nb
            obtain ⟨t, ht, rfl, b0, b1, b2, bx, bb⟩ := hrel
            have hxw := xTo_w (w := ws) HH.out t
            obtain ⟨x, hx⟩ : ∃ x, x = xTo h ws t := ⟨_, rfl⟩
            rw [← hx] at bx hxw
            by_cases htt : t < 64
            · have hk := HT.out.below bb t htt
              have hkw := kk_w.2 t
              have cw := b2.cell t _ (row32_val _ _ (by rw [HW.out.1]; omega))
              have hww := HW.out.2 t
              have x0 := bx.cell 0 _ (row32_val _ _ (by rw [hxw.1]; omega))
              have x1 := bx.cell 1 _ (row32_val _ _ (by rw [hxw.1]; omega))
              have x2 := bx.cell 2 _ (row32_val _ _ (by rw [hxw.1]; omega))
              have x3 := bx.cell 3 _ (row32_val _ _ (by rw [hxw.1]; omega))
              have x4 := bx.cell 4 _ (row32_val _ _ (by rw [hxw.1]; omega))
              have x5 := bx.cell 5 _ (row32_val _ _ (by rw [hxw.1]; omega))
              have x6 := bx.cell 6 _ (row32_val _ _ (by rw [hxw.1]; omega))
              have x7 := bx.cell 7 _ (row32_val _ _ (by rw [hxw.1]; omega))
              have y0 := hxw.2 0
              have y1 := hxw.2 1
              have y2 := hxw.2 2
              have y3 := hxw.2 3
              have y4 := hxw.2 4
              have y5 := hxw.2 5
              have y6 := hxw.2 6
              have y7 := hxw.2 7
              have B0 := Lib.hid b0
              have B1 := Lib.hid b1
              have B2 := Lib.hid b2
              have BX := Lib.hid bx
              have BB := Lib.hid bb
              have HX := Lib.hid hx
              have HXW := Lib.hid hxw
              clear b0 b1 b2 bx bb hx hxw
              go_upto_region 16 with (fail)
              go_quiet (fail)
              revert nq
              intro n1
              go_upto_region 17 with (fail)
              go_big_quiet ((go_at_call 50; refine quiet_any (rr_c _ _ ?_ ?_ ?_ _) ?_ <;> first | omega | exact ⟨_, rfl⟩))
              revert nq
              intro n2
              rw [S1_bits _ (by omega), ch_bits _ _ _ (by omega) (by omega) (by omega)]
              have hT1 := t1_val x (gb kk t) (gb ws t)
              have hT2 := t2_val x
              have hT3 := t1_w x (gb kk t) (gb ws t)
              have HR := Lib.hid (show row32 (xTo h ws (t + 1)) = row32 (rnd x (gb kk t) (gb ws t)) by rw [HX.out]; rfl)
              have HL8 := Lib.hid (show (row32 (rnd x (gb kk t) (gb ws t))).length = 8 from rfl)
              have HRA := Lib.hid (fun T1 T2 => rnd_agg x (gb kk t) (gb ws t) T1 T2)
              obtain ⟨T1, hT⟩ : ∃ T1, T1 = t1 x (gb kk t) (gb ws t) := ⟨_, rfl⟩
              obtain ⟨T2, hU⟩ : ∃ T2, T2 = t2 x := ⟨_, rfl⟩
              obtain ⟨X, hX⟩ : ∃ X, X = rnd x (gb kk t) (gb ws t) := ⟨_, rfl⟩
              rw [← hT] at hT1 hT3
              rw [← hU] at hT2
              rw [← hX] at HR HL8 HRA
              have HTT := Lib.hid hT
              have HUU := Lib.hid hU
              have HT2 := Lib.hid hT2
              rw [hT1]
              clear hT hU hT1 hT2 hX
              go_upto_region 19 with (first | (go_at_call 50; refine Calls.mono (rr_c _ _ (by omega) (by omega) (by omega) _) ?_; rintro e w' ⟨rfl, rfl⟩))
              rw [S0_bits _ (by omega), mj_bits _ _ _ (by omega) (by omega) (by omega), HT2.out]
              have n0 : Blk (wr.drewN (n1 + n2)) w.heap.size 67 (row32 h) := B0.out
              have n1' : Blk (wr.drewN (n1 + n2)) (w.heap.size + 1) 67 (row32 (List.replicate 8 0)) := B1.out
              have n2' : Blk (wr.drewN (n1 + n2)) (w.heap.size + 1 + 1) 83 (row32 ws) := B2.out
              have nx : Blk (wr.drewN (n1 + n2)) xb 67 (row32 x) := BX.out
              have nb : Below w.heap.size w (wr.drewN (n1 + n2)) := below_drewN BB.out (n1 + n2)
              generalize wr.drewN (n1 + n2) = w2 at *
              clear hk hkw cw hww x0 x1 x2 x3 x4 x5 x6 x7 B0 B1 B2 BX BB
              have x3 := nx.cell 3 _ (row32_val _ _ (by rw [HXW.out.1]; omega))
              have h8 : (row32 x).length = 8 := by rw [row32_len]; exact HXW.out.1
              have N0 := Lib.hid n0
              have N1 := Lib.hid n1'
              have N2 := Lib.hid n2'
              have NX := Lib.hid nx
              have NB := Lib.hid nb
              have H8x := Lib.hid h8
              clear n0 n1' n2' nx nb h8
              go_wp2_with (first | (refine wpList_store_mid rfl 67 (.tmp 10) (.tmp 191) rfl xb 0 (row32 X).toArray rfl (HRA.out T1 T2 HTT.out HUU.out) (NX.out.there _ (by rw [H8x.out, List.size_toArray, HL8.out])) (by rw [List.size_toArray, HL8.out]; exact infoW8) (row32_one _) ?_))
              refine ⟨⟨t + 1, by omega, by go_num, Blk.others xb (by omega) _ 0 _ N0.out, Blk.others xb (by omega) _ 0 _ N1.out, Blk.others xb (by omega) _ 0 _ N2.out, ?_, below_setCells xb (by omega) _ 0 _ NB.out⟩, by simp [intOf]; omega⟩
              rw [HR.out]
              exact NX.out.whole (row32 X) (by rw [HL8.out, H8x.out])
            · obtain rfl : t = 64 := by omega
              rw [hx] at bx
              have hxw' := xTo_w (w := ws) HH.out 64
              clear hx hxw x
              obtain ⟨x, hx⟩ : ∃ x, x = xTo h ws 64 := ⟨_, rfl⟩
              rw [← hx] at bx hxw'
              have HX := Lib.hid hx
              have HXW := Lib.hid hxw'
              clear hx hxw'
              go_wp2_with fail
              go_loopw [20] (fun i wq => ∃ t : Nat, t ≤ 8 ∧ i = .int .i64 t ∧ Blk wq w.heap.size 67 (row32 (aTo h x t)) ∧ Blk wq (w.heap.size + 1) 67 (row32 (List.replicate 8 0)) ∧ Blk wq xb 67 (row32 x) ∧ Below w.heap.size w wq) (fun i _ => 8 - (intOf i).toNat)
              case atStart => exact ⟨0, Nat.zero_le _, rfl, b0, b1, bx, bb⟩
              case round =>
                clear b0 b1 b2 bx bb
                obtain ⟨t, ht, rfl, b0, b1, bx, bb⟩ := hrel
                have haw := aTo_w (x := x) HH.out t
                by_cases htt : t < 8
                · obtain ⟨y, hy⟩ : ∃ y, y = aTo h x t := ⟨_, rfl⟩
                  rw [← hy] at b0 haw
                  have c0 := b0.cell t _ (row32_val _ _ (by rw [haw.1]; omega))
                  have cx := bx.cell t _ (row32_val _ _ (by rw [HXW.out.1]; omega))
                  have hfree := b0.free t
                  have g0 := haw.2 t
                  have gx := HXW.out.2 t
                  have B0 := Lib.hid b0
                  have B1 := Lib.hid b1
                  have BX := Lib.hid bx
                  have BB := Lib.hid bb
                  have HY := Lib.hid hy
                  clear b0 b1 bx bb hy haw
                  go_upto_region 23 with (fail)
                  go_region
                  go_wp2_with fail
                  have hval : (((gb y t : Nat) : Int) + ((gb x t : Nat) : Int)) % 4294967296 = (((gb y t + gb x t) % 4294967296 : Nat) : Int) := by simp
                  rw [hval]
                  refine ⟨⟨t + 1, by omega, by go_num, ?_, (B1.out.other _ _ (by simp <;> omega)).drew, (BX.out.other _ _ (by simp <;> omega)).drew, (BB.out.setCell (by simp) _).drew⟩, by simp [intOf]; omega⟩
                  have := (B0.out.set t (.int .u32 (((gb y t + gb x t) % 4294967296 : Nat) : Int))).drew
                  rw [row32_set, HY.out] at this
                  unfold aTo
                  rw [HY.out]
                  exact this
                · obtain rfl : t = 8 := by omega
                  have hb : aTo h x 8 = blk h l := by unfold blk; rw [HX.out, HWS.out]
                  rw [hb] at b0 haw
                  have h8 : (row32 (blk h l)).length = 8 := by rw [row32_len]; exact haw.1
                  obtain ⟨y, hy⟩ : ∃ y, y = blk h l := ⟨_, rfl⟩
                  rw [← hy] at b0 haw h8
                  have HYB := Lib.hid hy
                  have B0 := Lib.hid b0
                  have B1 := Lib.hid b1
                  have BB := Lib.hid bb
                  have H8y := Lib.hid h8
                  clear b0 b1 bx bb hy haw h8 hb
                  go_wp2_with (first | (refine wpList_load_mid rfl 67 (.tmp 2) rfl w.heap.size 0 rfl (row32 y) _ B0.out.range Tryd.underlying67 rfl (by rw [H8y.out]; exact infoW8) ?_) | (refine wpList_store_mid rfl 67 (.tmp 4) (.tmp 204) rfl (w.heap.size + 1) 0 (row32 y).toArray rfl rfl (B1.out.there _ (by rw [List.size_toArray, H8y.out]; rfl)) (by rw [List.size_toArray, H8y.out]; exact infoW8) (row32_one _) ?_))
                  have fin := B1.out.whole (row32 y) (by rw [H8y.out]; rfl)
                  exact bodyPost_ret (v := .agg (row32 y).toArray) (results_mid rfl _ _ (w.heap.size + 1) (row32 y) _ rfl fin.range Tryd.underlying67 rfl (by rw [H8y.out]; exact infoW8)) rfl ⟨by rw [HYB.out], below_setCells (w.heap.size + 1) (by omega) _ 0 _ BB.out⟩
end Go.Proofs.YtoacdeddkfcllaaDoor

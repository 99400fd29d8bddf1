/- A cluster's bit, how many bits of a word are set, and which is the lowest: contracts of package alloc's bit and of math/bits.OnesCount64 and TrailingZeros64. Own work. -/
import Derived.Test.YtlckhlcccifbfaaDoorMem
import Derived.Test.YtlckhlcccifbfaaDoorAlM
import Derived.Laws.BitsAllLaws
import Derived.Laws.Shifts
namespace Go.Proofs.YtlckhlcccifbfaaDoor
open Go.ChangeShapes Go.WideShapes Go.ChangeAt Go.RowKit
theorem abit_any (n : Nat) (w : World) : Calls Tryd.prog 29 #[.int .u32 (n : Int)] w fun e w' => e = .returned (.int .u64 ((2 ^ (n % 64) : Nat) : Int)) ∧ w' = w := by
  have hlt := AL.bit_lt (n % 64) (Nat.mod_lt _ (by omega))
  have e : ((2 : Int) ^ (n % 64)) = ((2 ^ (n % 64) : Nat) : Int) := by simp
  obtain ⟨p, hp⟩ : ∃ p : Nat, p = 2 ^ (n % 64) := ⟨_, rfl⟩
  rw [← hp] at hlt e ⊢
  have hw : IntKind.u64.wrap (2 ^ (n % 64)) = (p : Int) := by rw [e, IntKind.wrap_u64]; omega
  clear hp e hlt
  go_enter Tryd.func29, Tryd.ntmps29
  go_wp2_with fail
  go_ret
  refine ⟨?_, rfl⟩
  exact congrArg (fun z => Ending.returned (Value.int .u64 z)) hw
theorem abit_p (n p : Nat) (hp : p = 2 ^ (n % 64)) (w : World) : Calls Tryd.prog 29 #[.int .u32 (n : Int)] w fun e w' => e = .returned (.int .u64 (p : Int)) ∧ w' = w := by
  subst hp; exact abit_any n w
theorem rep_85 : AL.rep 85 8 = 6148914691236517205 := by decide
theorem rep_51 : AL.rep 51 8 = 3689348814741910323 := by decide
theorem rep_15 : AL.rep 15 8 = 1085102592571150095 := by decide
theorem i64_and_127 (a : Nat) (ha : a < 9223372036854775808) : bits .and .i64 (a : Int) 127 = ((a % 128 : Nat) : Int) := by
  have e : a &&& 127 = a % 128 := Nat.and_two_pow_sub_one_eq_mod a 7
  show IntKind.i64.wrap ((BitVec.ofInt 64 (a : Int) &&& BitVec.ofInt 64 ((127 : Nat) : Int)).toNat : Int) = _
  rw [BitVec.toNat_and, ofInt_u64 a (by omega), ofInt_u64 127 (by omega), e, IntKind.wrap_i64]
  omega
theorem ones_any (x : Nat) (hx : x < 18446744073709551616) (w : World) : Calls Tryd.prog 30 #[.int .u64 (x : Int)] w fun e w' => e = .returned (.int .i64 ((AL.ones x : Nat) : Int)) ∧ w' = w := by
  obtain ⟨a1, h1⟩ : ∃ a, a = AL.s1 8 x := ⟨_, rfl⟩
  obtain ⟨a2, h2⟩ : ∃ a, a = AL.s2 8 x := ⟨_, rfl⟩
  obtain ⟨a3, h3⟩ : ∃ a, a = AL.s3 8 x := ⟨_, rfl⟩
  obtain ⟨a4, h4⟩ : ∃ a, a = a3 + a3 / 256 := ⟨_, rfl⟩
  obtain ⟨a5, h5⟩ : ∃ a, a = a4 + a4 / 65536 := ⟨_, rfl⟩
  obtain ⟨a6, h6⟩ : ∃ a, a = a5 + a5 / 4294967296 := ⟨_, rfl⟩
  have h7 : AL.ones x = a6 % 128 := by rw [h6, h5, h4, h3]; rfl
  rw [h7]
  have e1 : a1 = (x / 2 &&& 6148914691236517205) + (x &&& 6148914691236517205) := by rw [h1]; unfold AL.s1; rw [rep_85]
  have e2 : a2 = (a1 / 4 &&& 3689348814741910323) + (a1 &&& 3689348814741910323) := by rw [h2, h1]; unfold AL.s2; rw [rep_51]
  have e3 : a3 = (a2 / 16 + a2) &&& 1085102592571150095 := by rw [h3, h2]; unfold AL.s3; rw [rep_15]
  have l1 : x / 2 &&& 6148914691236517205 ≤ 6148914691236517205 := Nat.and_le_right
  have l2 : x &&& 6148914691236517205 ≤ 6148914691236517205 := Nat.and_le_right
  have l3 : a1 / 4 &&& 3689348814741910323 ≤ 3689348814741910323 := Nat.and_le_right
  have l4 : a1 &&& 3689348814741910323 ≤ 3689348814741910323 := Nat.and_le_right
  have l5 : (a2 / 16 + a2) &&& 1085102592571150095 ≤ 1085102592571150095 := Nat.and_le_right
  have q1 : a1 < 18446744073709551616 := by omega
  have q2 : a2 ≤ 7378697629483820646 := by omega
  have q3 : a3 ≤ 1085102592571150095 := by omega
  have f1 : IntKind.u64.wrap (bits .and .u64 ((x : Int) / 2) 6148914691236517205 + bits .and .u64 (x : Int) 6148914691236517205) = (a1 : Int) := by
    have g1 := u64_and_nat (x / 2) 6148914691236517205 (by omega) (by omega)
    have g2 := u64_and_nat x 6148914691236517205 hx (by omega)
    rw [show ((x : Int) / 2) = ((x / 2 : Nat) : Int) by omega]
    rw [show ((6148914691236517205 : Nat) : Int) = (6148914691236517205 : Int) from rfl] at g1 g2
    rw [g1, g2, IntKind.wrap_u64, e1]; omega
  have f2 : IntKind.u64.wrap (bits .and .u64 ((a1 : Int) / 4) 3689348814741910323 + bits .and .u64 (a1 : Int) 3689348814741910323) = (a2 : Int) := by
    have g1 := u64_and_nat (a1 / 4) 3689348814741910323 (by omega) (by omega)
    have g2 := u64_and_nat a1 3689348814741910323 q1 (by omega)
    rw [show ((a1 : Int) / 4) = ((a1 / 4 : Nat) : Int) by omega]
    rw [show ((3689348814741910323 : Nat) : Int) = (3689348814741910323 : Int) from rfl] at g1 g2
    rw [g1, g2, IntKind.wrap_u64, e2]; omega
  have f3 : bits .and .u64 ((a2 : Int) / 16 + (a2 : Int)) 1085102592571150095 = (a3 : Int) := by
    have g1 := u64_and_nat (a2 / 16 + a2) 1085102592571150095 (by omega) (by omega)
    rw [show ((1085102592571150095 : Nat) : Int) = (1085102592571150095 : Int) from rfl] at g1
    rw [show (a2 : Int) / 16 + (a2 : Int) = ((a2 / 16 + a2 : Nat) : Int) by omega, g1, e3]
  have f4 : (a3 : Int) + (a3 : Int) / 256 = (a4 : Int) := by omega
  have f5 : (a4 : Int) + (a4 : Int) / 65536 = (a5 : Int) := by omega
  have f6 : (a5 : Int) + (a5 : Int) / 4294967296 = (a6 : Int) := by omega
  have q4 : a4 < 2000000000000000000 := by omega
  have q5 : a5 < 3000000000000000000 := by omega
  have q6 : a6 < 9223372036854775808 := by omega
  have f8 := i64_and_127 a6 q6
  clear h1 h2 h3 h4 h5 h6 h7 e1 e2 e3 l1 l2 l3 l4 l5
  go_enter Tryd.func30, Tryd.ntmps30
  go_wp2_with fail
  go_ret
  exact ⟨rfl, rfl⟩
/-- The table by which the lowest bit is found. -/
def TabD (w : World) : Prop := ∀ t, t < 64 → w.cell? ⟨0, t, none⟩ = some (.int .u8 ((gb Lib.deBruijn64tab t : Nat) : Int))
theorem TabD.lt {w : World} (h : TabD w) : 0 < w.heap.size := World.block_lt_of_cell? w _ (h 0 (by omega))
theorem TabD.keep {w w' : World} (h : TabD w) (hk : w'.heap[0]? = w.heap[0]?) : TabD w' := fun t ht => by
  rw [World.cell?_of_block (w := w) hk]; exact h t ht
theorem TabD.below {w w' : World} (h : TabD w) (hb : Below w.heap.size w w') : TabD w' := h.keep (hb.block _ h.lt)
theorem TabD.grown {w w' : World} {b : Nat} (h : TabD w) (hb : w.grownBy w' (some b)) (hne : b ≠ 0) : TabD w' := h.keep (hb.block _ h.lt (by simp; omega))
theorem tz_any (x : Nat) (h0 : x ≠ 0) (hx : x < 18446744073709551616) (w : World) (hT : TabD w) : Calls Tryd.prog 31 #[.int .u64 (x : Int)] w fun e w' => e = .returned (.int .i64 ((Lib.ctz 64 x : Nat) : Int)) ∧ w' = w := by
  obtain ⟨hlow, hk⟩ := Lib.lowest_bit 64 x h0 (by simpa using hx)
  obtain ⟨k, hK⟩ : ∃ k, k = Lib.ctz 64 x := ⟨_, rfl⟩
  rw [← hK] at hlow hk ⊢
  obtain ⟨hi, htab⟩ := Lib.deBruijn64_at k hk
  have hb := AL.bit_lt k hk
  obtain ⟨a, ha⟩ : ∃ a, a = 2 ^ k := ⟨_, rfl⟩
  rw [← ha] at hlow hi htab hb
  obtain ⟨j, hj⟩ : ∃ j, j = a * 285870213051353865 % 18446744073709551616 / 288230376151711744 := ⟨_, rfl⟩
  rw [← hj] at hi htab
  have hc := hT j hi
  unfold gb at hc
  rw [htab] at hc
  have hz : ((x : Int) == 0) = false := by
    rw [beq_eq_false_iff_ne]; omega
  have e1 : IntKind.u64.wrap (-(x : Int)) = ((18446744073709551616 - x : Nat) : Int) := by rw [IntKind.wrap_u64]; omega
  have e2 : bits .and .u64 (x : Int) (IntKind.u64.wrap (-(x : Int))) = (a : Int) := by
    rw [e1, u64_and_nat x _ hx (by omega)]
    congr 1
  have e3 : IntKind.u64.wrap ((a : Int) * 285870213051353865) / 288230376151711744 = (j : Int) := by
    have q : IntKind.u64.wrap ((a : Int) * 285870213051353865) = ((a * 285870213051353865 % 18446744073709551616 : Nat) : Int) := by
      rw [IntKind.wrap_u64, Int.natCast_emod, Int.natCast_mul]; rfl
    rw [q, hj]; rfl
  clear hT hlow hK htab ha hj e1
  go_enter Tryd.func31, Tryd.ntmps31
  go_wp2_with fail
  go_ret
  exact ⟨rfl, rfl⟩
end Go.Proofs.YtlckhlcccifbfaaDoor

/- What is laid of a geometry, on numbers. Own work. -/
import Derived.Test.YtflegnlldidmaaaDoorSuA
import Derived.Test.YtflegnlldidmaaaDoorApp0
import Derived.Test.YtflegnlldidmaaaDoorPadP
import Derived.Test.YtflegnlldidmaaaDoorRdConst
namespace Go.Proofs.YtflegnlldidmaaaDoor
open Go.ChangeShapes Go.WideShapes Go.ChangeAt Go.RowKit
namespace SU
def head9 : List Nat := [82, 69, 76, 73, 81, 85, 65, 82, 89]
def raw (c p : Nat) : List Nat := head9 ++ [1] ++ be c 2 ++ [p]
def laid (c p : Nat) : List Nat := padTo (raw c p) 512
def put (C P : Int) : List Nat := if may C P = true then laid C.toNat P.toNat else []
def perr (C P : Int) : Int := if may C P = true then 0 else 2
theorem raw_len (c p : Nat) : (raw c p).length = 13 := by unfold raw; rw [List.length_append, List.length_append, be_len]; rfl
theorem laid_len (c p : Nat) : (laid c p).length = 512 := by unfold laid; rw [padTo_len, raw_len]; decide
theorem raw_byte (c p : Nat) (h : p < 256) : ∀ k, gb (raw c p) k < 256 := by
  unfold raw
  exact gb_app _ _ (gb_app _ _ (gb_app _ _ (small_bytes (by decide)) (small_bytes (by decide))) (be_byte c 2)) (fun k => by cases k with | zero => exact h | succ k => exact Nat.zero_lt_succ _)
theorem raw_flat (c p : Nat) : [head9, [1], be c 2, [p]].flatten = raw c p := by unfold raw; simp
theorem put_yes {c p : Nat} (h : may c p = true) : put c p = laid c p ∧ perr c p = 0 := by unfold put perr; rw [if_pos h, if_pos h, Int.toNat_natCast, Int.toNat_natCast]; exact ⟨rfl, rfl⟩
theorem put_no {C P : Int} (h : may C P = false) : put C P = [] ∧ perr C P = 2 := by unfold put perr; rw [h]; exact ⟨rfl, rfl⟩
theorem may_nat {C P : Int} (h : may C P = true) : ∃ c p : Nat, C = c ∧ P = p ∧ 1 ≤ c ∧ c ≤ 64 ∧ 1 ≤ p ∧ p ≤ 2 := by
  obtain ⟨h1, h2, h3, h4⟩ := may_iff.1 h
  exact ⟨C.toNat, P.toNat, by omega, by omega, by omega, by omega, by omega, by omega⟩
end SU
theorem rds_four {w : World} {x y z u : Value} {l m n p : List Nat} (h : Rd w x l) (k : Rd w y m) (j : Rd w z n) (q : Rd w u p) {b : Nat} (hb : b = w.heap.size) : Rds (w.alloc (.cells #[x, y, z, u] 24)) (.slice (some ⟨b, 0, none⟩) 4 4) [l, m, n, p] := by
  subst hb
  have hB := Blk.new w 24 [x, y, z, u] _ rfl
  refine ⟨by simp, .inr ⟨_, 4, rfl, Nat.le_refl _, fun i l' hj => ?_⟩⟩
  match i, hj with
  | 0, hj => simp at hj; subst hj; exact ⟨x, hB.cell 0 x rfl, h.alloc _⟩
  | 1, hj => simp at hj; subst hj; exact ⟨y, hB.cell 1 y rfl, k.alloc _⟩
  | 2, hj => simp at hj; subst hj; exact ⟨z, hB.cell 2 z rfl, j.alloc _⟩
  | 3, hj => simp at hj; subst hj; exact ⟨u, hB.cell 3 u rfl, q.alloc _⟩
  | i + 4, hj => simp at hj
end Go.Proofs.YtflegnlldidmaaaDoor

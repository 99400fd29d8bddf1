/- Three parts; bytes joined as texts. Own work. -/
import Derived.Test.YtoacdeddkfcllaaDoorShaD
namespace Go.Proofs.YtoacdeddkfcllaaDoor
open Go.RowKit
theorem rds_three {w : World} {x y z : Value} {l m n : List Nat} (h : Rd w x l) (k : Rd w y m) (j : Rd w z n) {b : Nat} (hb : b = w.heap.size) : Rds (w.alloc (.cells #[x, y, z] 29)) (.slice (some ⟨b, 0, none⟩) 3 3) [l, m, n] := by
  subst hb
  refine ⟨by simp, .inr ⟨_, 3, rfl, Nat.le_refl _, fun i l' hj => ?_⟩⟩
  match i, hj with
  | 0, hj => simp at hj; subst hj; exact ⟨x, (Blk.new w 29 [x, y, z] _ rfl).cell 0 x rfl, h.alloc _⟩
  | 1, hj => simp at hj; subst hj; exact ⟨y, (Blk.new w 29 [x, y, z] _ rfl).cell 1 y rfl, k.alloc _⟩
  | 2, hj => simp at hj; subst hj; exact ⟨z, (Blk.new w 29 [x, y, z] _ rfl).cell 2 z rfl, j.alloc _⟩
  | i + 3, hj => simp at hj
theorem bstr_app (l m : List Nat) : bstr (l ++ m) = bstr l ++ bstr m := by
  unfold bstr strOfNums
  apply ByteArray.ext
  simp
end Go.Proofs.YtoacdeddkfcllaaDoor

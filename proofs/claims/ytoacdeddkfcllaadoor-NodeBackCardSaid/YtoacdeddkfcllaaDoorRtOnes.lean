/- Refs that are laid, from the i-th on: numbers. Cut off RtBackM in round 15. Own work. -/
import Derived.Test.YtoacdeddkfcllaaDoorRtM
namespace Go.Proofs.YtoacdeddkfcllaaDoor
open Go.ChangeShapes Go.WideShapes Go.ChangeAt Go.RowKit
namespace RT
theorem drop_at (A B : List Nat) (n m : Nat) (h : n = A.length + m) : (A ++ B).drop n = B.drop m := by
  subst h; rw [← List.drop_drop, List.drop_left]
theorem ones_drop : ∀ (ps : List Pg), (∀ p ∈ ps, Pok p) → ∀ (Z : List Nat) (i : Nat) (hi : i < ps.length), ∃ Y, (ones ps ++ Z).drop (i * 36) = be ps[i].at_ 4 ++ (ps[i].sum ++ Y) := by
  intro ps
  induction ps with
  | nil => intro _ Z i hi; simp at hi
  | cons a r ih =>
    intro h Z i hi
    have e : ones (a :: r) ++ Z = one a ++ (ones r ++ Z) := by unfold ones; rw [List.map_cons, List.flatten_cons, List.append_assoc]
    rw [e]
    cases i with
    | zero => exact ⟨ones r ++ Z, by rw [Nat.zero_mul, List.drop_zero]; unfold one; rw [List.append_assoc]; rfl⟩
    | succ i =>
      obtain ⟨Y, hY⟩ := ih (fun p hp => h p (by simp [hp])) Z i (by simpa using hi)
      refine ⟨Y, ?_⟩
      rw [drop_at (one a) (ones r ++ Z) _ (i * 36) (by rw [one_len (h a (by simp))]; omega)]
      exact hY
end RT
end Go.Proofs.YtoacdeddkfcllaaDoor

/- What is laid of a geometry, with a byte turned, one more, one less: on numbers; '!=' on geometries. Own work. -/
import Derived.Test.YtflegnlldidmaaaDoorSuGetM
namespace Go.Proofs.YtflegnlldidmaaaDoor
open Go.ChangeShapes Go.WideShapes Go.ChangeAt Go.RowKit
open SU
theorem run_neq_geo (w : World) (C P X Y : Int) : (binOp .neq 23 (.agg #[.int .i64 C, .int .i64 P]) (.agg #[.int .i64 X, .int .i64 Y])).run Tryd.prog w = .ok (.bool (!decide (C = X ∧ P = Y))) w := by
  have h := run_eql_geo w C P X Y
  simp only [binOp, Sem.run_bind, Sem.run_pure] at h ⊢
  cases q : (Op.equal 23 (.agg #[.int .i64 C, .int .i64 P]) (.agg #[.int .i64 X, .int .i64 Y])).run Tryd.prog w with
  | ok b w' =>
    rw [q] at h
    simp only [Result.andThen_ok, Result.ok.injEq, Value.bool.injEq] at h ⊢
    exact ⟨by rw [h.1], h.2⟩
  | _ => rw [q] at h; simp [Result.andThen] at h
namespace SU
theorem laid_gb (c p k : Nat) (hk : k < 13) : gb (laid c p) k = gb (raw c p) k := by
  unfold gb laid padTo
  rw [List.getD_eq_getElem?_getD, List.getD_eq_getElem?_getD, List.getElem?_append_left (by rw [raw_len]; exact hk)]
theorem laid_cg {c p : Nat} (hc : c ≤ 64) : cg (laid c p) = c ∧ pg (laid c p) = p := by
  have h10 : gb (raw c p) 10 = c / 256 ^ 1 % 256 := rfl
  have h11 : gb (raw c p) 11 = c / 256 ^ 0 % 256 := rfl
  have h12 : gb (raw c p) 12 = p := rfl
  unfold cg pg
  rw [laid_gb c p 10 (by decide), laid_gb c p 11 (by decide), laid_gb c p 12 (by decide), h10, h11, h12]
  constructor
  · have e1 : c / 256 ^ 1 = 0 := by rw [Nat.pow_one]; omega
    have e2 : c / 256 ^ 0 = c := by rw [Nat.pow_zero, Nat.div_one]
    rw [e1, e2]; omega
  · rfl
theorem okB_laid {c p : Nat} (h : may c p = true) : okB (laid c p) = true := by
  obtain ⟨_, h2, _, _⟩ := may_iff.1 h
  have e := laid_cg (p := p) (show c ≤ 64 by omega)
  unfold okB
  rw [e.1, e.2]
  exact decide_eq_true ⟨laid_len c p, h, rfl⟩
theorem okB_len {b : List Nat} (h : b.length ≠ 512) : okB b = false := decide_eq_false fun q => h q.1
/-- The k-th byte turned by y. -/
def turn (c p k y : Nat) : List Nat := (laid c p).set k (gb (laid c p) k ^^^ y)
theorem turn_len (c p k y : Nat) : (turn c p k y).length = 512 := by unfold turn; rw [List.length_set, laid_len]
theorem turn_gb (c p k y j : Nat) (hk : k < 512) : gb (turn c p k y) j = if k = j then gb (laid c p) k ^^^ y else gb (laid c p) j := by
  unfold turn; rw [gb_set _ _ _ _ (by rw [laid_len]; exact hk)]
theorem turn_zero (c p k : Nat) (hk : k < 512) : turn c p k 0 = laid c p := by
  apply bytes_ext (n := 512) (turn_len _ _ _ _) (laid_len _ _)
  intro j _
  rw [turn_gb _ _ _ _ _ hk, Nat.xor_zero]
  split
  · rename_i e; rw [e]
  · rfl
theorem turn_ne {c p k y : Nat} (hk : k < 512) (hy : y ≠ 0) : turn c p k y ≠ laid c p := fun e => by
  have h := congrArg (gb · k) e
  simp only [turn_gb _ _ _ _ _ hk, if_pos] at h
  have h2 := congrArg (gb (laid c p) k ^^^ ·) h
  simp only [Nat.xor_self] at h2
  rw [← Nat.xor_assoc, Nat.xor_self, Nat.zero_xor] at h2
  exact hy h2
/-- A turned first sector that is a geometry's is another one's, and was turned where the geometry stands. -/
theorem turn_ok {c p k y : Nat} (hc : c ≤ 64) (hk : k < 512) (hy : y ≠ 0) (h : okB (turn c p k y) = true) : ¬ (cg (turn c p k y) = c ∧ pg (turn c p k y) = p) ∧ 10 ≤ k ∧ k < 13 := by
  have h3 : laid (cg (turn c p k y)) (pg (turn c p k y)) = turn c p k y := (of_decide_eq_true h).2.2
  have hn : ¬ (cg (turn c p k y) = c ∧ pg (turn c p k y) = p) := fun q => by
    rw [q.1, q.2] at h3
    exact turn_ne hk hy h3.symm
  refine ⟨hn, ?_⟩
  rcases Classical.em (10 ≤ k ∧ k < 13) with q | q
  · exact q
  · exfalso
    apply hn
    have e := laid_cg (p := p) hc
    unfold cg pg at e ⊢
    rw [turn_gb _ _ _ _ _ hk, turn_gb _ _ _ _ _ hk, turn_gb _ _ _ _ _ hk, if_neg (by omega), if_neg (by omega), if_neg (by omega)]
    exact e
theorem xor_byte {a b : Nat} (ha : a < 256) (hb : b < 256) : a ^^^ b < 256 := Nat.xor_lt_two_pow (n := 8) ha hb
end SU
end Go.Proofs.YtflegnlldidmaaaDoor

/- '==' on nodes. Own work. -/
import Derived.Test.YtoacdeddkfcllaaDoorNdPBase
namespace Go.Proofs.YtoacdeddkfcllaaDoor
open Go.ChangeShapes Go.WideShapes Go.ChangeAt Go.RowKit
open RT
theorem sizeRfN (w : World) : (sizeOf 26).run Tryd.prog w = .ok 33 w := by kernel_rfl
theorem eqTypeNd : Tryd.prog.eqGuardType Tryd.prog.depth 28 = false := by kernel_rfl
theorem part_refN (w : World) {ns : List Pg} (h : ∀ p ∈ ns, Pok p) {i : Nat} (hi : i < ns.length) : (part 26 (pcs ns).toArray (i * 33)).run Tryd.prog w = .ok (.agg (pc ns[i]).toArray) w := by
  simp only [part, Sem.run_bind, aggRfP, Result.andThen_ok, sizeRfN, if_true, Sem.run_pure]
  rw [pcs_part h hi]
/-- Are two nodes one? -/
def ndEq (m n : List Pg) : Bool := decide (∀ i, i < 8 → (m[i]?.getD ND.zp).at_ = (n[i]?.getD ND.zp).at_ ∧ (m[i]?.getD ND.zp).sum = (n[i]?.getD ND.zp).sum)
theorem pg_ext {p q : Pg} (h : p.at_ = q.at_) (k : p.sum = q.sum) : p = q := by cases p; cases q; simp only at h k; rw [h, k]
theorem ndEq_iff {m n : List Pg} (hm : ND.Nok m) (hn : ND.Nok n) : ndEq m n = true ↔ m = n := by
  unfold ndEq
  rw [decide_eq_true_iff]
  constructor
  · intro h
    apply List.ext_getElem (by rw [hm.len, hn.len])
    intro i h1 h2
    have q := h i (by rw [← hm.len]; exact h1)
    rw [List.getElem?_eq_getElem h1, List.getElem?_eq_getElem h2] at q
    exact pg_ext q.1 q.2
  · rintro rfl i _; exact ⟨rfl, rfl⟩
theorem ndEq_all (m n : List Pg) : ndEq m n = (List.range' 0 8 1).all fun i => pgEq (m[i]?.getD ND.zp) (n[i]?.getD ND.zp) := by
  rw [Bool.eq_iff_iff, List.all_eq_true]
  unfold ndEq
  rw [decide_eq_true_iff]
  constructor
  · intro h i hi
    have := (List.mem_range'_1.1 hi).2
    have q := h i (by omega)
    exact pgEq_iff.2 (pg_ext q.1 q.2)
  · intro h i hi
    rw [pgEq_iff.1 (h i (List.mem_range'_1.2 ⟨Nat.zero_le _, by omega⟩))]
    exact ⟨rfl, rfl⟩
theorem equal_node {m n : List Pg} (hm : ND.Nok m) (hn : ND.Nok n) (w : World) : (Op.equalIn 10000 28 (.agg (pcs m).toArray) (.agg (pcs n).toArray)).run Tryd.prog w = .ok (ndEq m n) w := by
  rw [Op.equalIn]
  simp only [Sem.run_bind, run_underlying Tryd.underlying28, Result.andThen_ok, sizeRfN, Std.Legacy.Range.forIn_eq_forIn_range', Std.Legacy.Range.size, Nat.sub_zero, Nat.add_sub_cancel, Nat.div_one]
  rw [ndEq_all m n]
  have hl : ∀ i ∈ List.range' 0 8 1, i < 8 := fun i hi => by simpa using (List.mem_range'_1.1 hi).2
  generalize List.range' 0 8 1 = l at hl ⊢
  induction l with
  | nil => simp
  | cons i l ih =>
    have hi : i < 8 := hl i (by simp)
    have h1 : i < m.length := by rw [hm.len]; exact hi
    have h2 : i < n.length := by rw [hn.len]; exact hi
    simp only [List.forIn_cons, Sem.run_bind, part_refN w hm.ok h1, part_refN w hn.ok h2, equal_ref w 9996 (hm.ok _ (List.getElem_mem h1)) (hn.ok _ (List.getElem_mem h2)), Result.andThen_ok, List.all_cons, List.getElem?_eq_getElem h1, List.getElem?_eq_getElem h2, Option.getD_some]
    cases hb : pgEq m[i] n[i]
    · simp
    · simp only [Bool.not_true, Bool.false_eq_true, if_false, Sem.run_pure, Result.andThen_ok, Bool.true_and]
      exact ih fun j hj => hl j (by simp [hj])
theorem run_eql_node {m n : List Pg} (hm : ND.Nok m) (hn : ND.Nok n) (w : World) : (binOp .eql 28 (.agg (pcs m).toArray) (.agg (pcs n).toArray)).run Tryd.prog w = .ok (.bool (ndEq m n)) w := by
  rw [run_eql_struct, equal_node hm hn w]; rfl
theorem run_neq_node {m n : List Pg} (hm : ND.Nok m) (hn : ND.Nok n) (w : World) : (binOp .neq 28 (.agg (pcs m).toArray) (.agg (pcs n).toArray)).run Tryd.prog w = .ok (.bool (!ndEq m n)) w := by
  rw [run_neq_struct, equal_node hm hn w]; rfl
end Go.Proofs.YtoacdeddkfcllaaDoor

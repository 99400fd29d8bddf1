/- A row of cells filled by one part. Own work. -/
import Derived.Test.YtbepchikngoknaaDoorMem
namespace Go.Proofs.YtbepchikngoknaaDoor
open Go.ChangeShapes Go.WideShapes Go.ChangeAt Go.RowKit
theorem splice_cons (vs : List Value) (o : Nat) (u : Value) (r : List Value) (h : o + (r.length + 1) ≤ vs.length) : splice vs o (u :: r) = splice (vs.set o u) (o + 1) r := by
  have e := list_seg_step vs o u r h
  unfold splice
  rw [← List.append_assoc, ← List.append_assoc]
  exact e.symm
theorem fold_set : ∀ (L : List Value) (k : Nat) (A : List Value), k + L.length ≤ A.length → ((L.zipIdx k).foldl (fun cs (p : Value × Nat) => cs.setIfInBounds (0 + p.2) p.1) A.toArray).toList = A.take k ++ L ++ A.drop (k + L.length)
  | [], k, A, _ => by simp
  | x :: L, k, A, h => by
    simp only [List.length_cons] at h
    have e := fold_set L (k + 1) (A.set k x) (by rw [List.length_set]; omega)
    rw [List.zipIdx_cons, List.foldl_cons]
    have e2 : (A.toArray.setIfInBounds (0 + k) x) = (A.set k x).toArray := by simp
    show (List.foldl _ (A.toArray.setIfInBounds (0 + k) x) _).toList = _
    rw [e2, e]
    have h3 := splice_cons A k x L (by omega)
    unfold splice at h3
    rw [List.append_assoc, ← h3, List.append_assoc]
theorem fill_one (place : Nat → Option (Nat × Nat)) (n : Nat) (hp : place 0 = some (0, n)) (Z : List Value) (hZ : Z.length = n) (L : List Value) (hL : L.length = n) : Instr.fill place Z.toArray [(0, .agg L.toArray)] = some L.toArray := by
  unfold Instr.fill
  rw [hp]
  have hc : (Value.agg L.toArray).cells = L.toArray := rfl
  simp only [hc]
  rw [if_neg (by simp; omega)]
  unfold Instr.fill
  congr 1
  apply Array.ext'
  have e := fold_set L 0 Z (by omega)
  rw [List.take_zero, List.nil_append, List.drop_eq_nil_of_le (by omega), List.append_nil] at e
  rw [← Array.foldl_toList, Array.toList_zipIdx]
  exact e
end Go.Proofs.YtbepchikngoknaaDoor

/- Two rows of bytes are compared: '==' on arrays of bytes. Own work over the library's law on bytes. -/
import Derived.Test.YtllhljhbnopafaaDoorRow8
import Derived.Stop.BytesEq
import Derived.Laws.StructEq
namespace Go.Proofs.YtllhljhbnopafaaDoor
open Go.ChangeShapes Go.WideShapes Go.ChangeAt Go.RowKit
theorem gb_of_mem {l : List Nat} (h : ∀ k, gb l k < 256) : ∀ n ∈ l, n < 256 := fun n hn => by
  obtain ⟨i, hi, e⟩ := List.getElem_of_mem hn
  have := h i
  unfold gb at this
  rw [List.getD_eq_getElem?_getD, List.getElem?_eq_getElem hi] at this
  simpa [e] using this
theorem row8_cells {l : List Nat} (h : ∀ n ∈ l, n < 256) : row8 l = (l.map UInt8.ofNat).map Extern.Stop.cell := by
  unfold row8; rw [List.map_map]
  apply List.map_congr_left
  intro n hn
  have := h n hn
  simp [Extern.Stop.cell, Nat.mod_eq_of_lt this]
theorem map_ofNat_inj : ∀ (x y : List Nat), (∀ n ∈ x, n < 256) → (∀ n ∈ y, n < 256) → x.map UInt8.ofNat = y.map UInt8.ofNat → x = y
  | [], [], _, _, _ => rfl
  | [], _ :: _, _, _, h => by simp at h
  | _ :: _, [], _, _, h => by simp at h
  | a :: x, b :: y, hx, hy, h => by
    simp only [List.map_cons, List.cons.injEq] at h
    have e : a = b := by
      have := congrArg UInt8.toNat h.1
      simp at this
      have := hx a (by simp); have := hy b (by simp)
      omega
    rw [e, map_ofNat_inj x y (fun n hn => hx n (by simp [hn])) (fun n hn => hy n (by simp [hn])) h.2]
theorem run_eql_row {P : Program} (t e : TypeId) (n : Nat) (ht : P.underlying t = some (.array n e)) (he : P.underlying e = some (.int .u8)) (hsz : ∀ w, (sizeOf e).run P w = .ok 1 w)
    (x y : List Nat) (hx : Bytes n x) (hy : Bytes n y) (w : World) :
    (binOp .eql t (.agg (row8 x).toArray) (.agg (row8 y).toArray)).run P w = .ok (.bool (decide (x = y))) w := by
  have mx := gb_of_mem hx.2
  have my := gb_of_mem hy.2
  rw [row8_cells mx, row8_cells my, run_eql_bytes w t e n ht he hsz _ _ (by rw [List.length_map]; exact hx.1) (by rw [List.length_map]; exact hy.1)]
  congr 2
  by_cases h : x = y
  · subst h; simp
  · have : ¬ x.map UInt8.ofNat = y.map UInt8.ofNat := fun e => h (map_ofNat_inj x y mx my e)
    simp [h, this]
end Go.Proofs.YtllhljhbnopafaaDoor

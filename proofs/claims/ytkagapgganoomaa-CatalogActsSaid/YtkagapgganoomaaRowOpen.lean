/- An array of bytes that is a part of an argument: opened. Cut off TabArg in round 15. Own work. -/
import Derived.Test.YtkagapgganoomaaMem
namespace Go.Proofs.Ytkagapgganoomaa
open Go.ChangeShapes Go.WideShapes Go.ChangeAt Go.RowKit
theorem row_open {H : Type} {enc : TypeId × Value → H} {P : Program} {W : World} {base fuel : Nat} {sp : Nat → Bool} {held : Bool} {t e n : Nat} (hu : P.underlying t = some (.array n e)) (he : P.underlying e = some (.int .u8)) (hc : P.cellsOf e = 1) (hcn : P.cellsOf t = n)
    {cs : List Value} {x : DataW H × List MemPlace} (hf : DataW.trod enc P W base sp held fuel t cs = some x) : ∃ l : List Nat, Bytes n l ∧ cs = row8 l ∧ x = (lit8 l, []) := by
  obtain ⟨xs, m, _, hx, hl, hn, hi⟩ := DataW.trod_array hu hf
  have key : ∀ i, i < n → ∃ k : Nat, k < 256 ∧ cs[i]? = some (.int .u8 (k : Int)) ∧ xs[i]? = some (.lit (.int .u8 (k : Int)), []) := fun i hin => by
    have h1 := hi i hin
    have e1 : xs[i]? = some (xs[i]'(by omega)) := List.getElem?_eq_getElem (by omega)
    rw [e1, hc, Nat.mul_one] at h1
    obtain ⟨a, h2, h3, h4⟩ := DataW.trod_int he h1
    obtain ⟨k, hk, rfl⟩ := u8_of h4
    refine ⟨k, hk, ?_, by rw [e1, h3]⟩
    have h5 : ((cs.drop i).take 1)[0]? = some (.int .u8 (k : Int)) := by
      rw [h2]; rfl
    simpa using h5
  have hcl : cs.length = n := by rw [← hcn]; exact hl
  let l : List Nat := (List.range n).map fun i => (intOf (cs[i]?.getD undef)).toNat
  have hll : l.length = n := by simp [l]
  have hle : ∀ i, i < n → ∃ k : Nat, k < 256 ∧ l[i]? = some k ∧ cs[i]? = some (.int .u8 (k : Int)) ∧ xs[i]? = some (.lit (.int .u8 (k : Int)), []) := fun i hin => by
    obtain ⟨k, h1, h2, h3⟩ := key i hin
    exact ⟨k, h1, by simp [l, hin, h2, intOf], h2, h3⟩
  refine ⟨l, ⟨hll, fun k => ?_⟩, ?_, ?_⟩
  · unfold gb; rw [List.getD_eq_getElem?_getD]
    by_cases hk : k < n
    · obtain ⟨q, h1, h2, _⟩ := hle k hk; rw [h2]; exact h1
    · rw [List.getElem?_eq_none (by omega)]; show 0 < 256; omega
  · apply List.ext_getElem?
    intro i
    unfold row8; rw [List.getElem?_map]
    by_cases hk : i < n
    · obtain ⟨q, _, h2, h3, _⟩ := hle i hk; rw [h2, h3]; rfl
    · rw [List.getElem?_eq_none (by omega), List.getElem?_eq_none (by omega)]; rfl
  · rw [hx]
    refine Prod.ext ?_ ?_
    · show DataW.agg _ = lit8 l
      unfold lit8; congr 1
      apply List.ext_getElem?
      intro i
      rw [List.getElem?_map, List.getElem?_map]
      by_cases hk : i < n
      · obtain ⟨q, _, h2, _, h4⟩ := hle i hk; rw [h2, h4]; rfl
      · rw [List.getElem?_eq_none (by omega), List.getElem?_eq_none (by omega)]; rfl
    · show List.flatMap _ _ = []
      rw [List.flatMap_eq_nil_iff]
      intro x hxm
      obtain ⟨i, hi2, e3⟩ := List.getElem_of_mem hxm
      obtain ⟨q, _, _, _, h4⟩ := hle i (by omega)
      rw [List.getElem?_eq_getElem hi2, e3] at h4
      cases h4; rfl
end Go.Proofs.Ytkagapgganoomaa

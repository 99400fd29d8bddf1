/- Slices of bytes among a law's arguments. Own work. -/
import Derived.Test.YtllhljhbnopafaaDoorOctMem
import Derived.Test.YtllhljhbnopafaaDoorRowArg
import Derived.ProofKit
import Derived.OpenShut
import Derived.SizedLaws
import Derived.ChangeSlices
import Derived.ChangeMaps5
import Derived.Carry
namespace Go.Proofs.YtllhljhbnopafaaDoor
open Go.ChangeShapes Go.WideShapes Go.ChangeAt Go.RowKit
theorem cellsB : Tryd.prog.cellsOf 5 = 1 := by kernel_rfl
theorem bytesB : Tryd.prog.bytesOf 5 = 1 := by kernel_rfl
theorem laidOut : laidOutB Tryd.prog = true := by kernel_rfl
theorem open_bytes {H : Type} {enc : TypeId × Value → H} {W : World} {base b0 : Nat} {r : Reach} {v : Value} {d : DataW H} {p : List MemPlace}
    (hval : Value.okWide Tryd.prog W r b0 22 v) (h : DataW.Trod enc Tryd.prog W base (fun _ => true) true 22 v d p)
    (hs : ∀ elems spare, d = .slice elems spare → (elems.length + spare.length) * Tryd.prog.bytesOf 5 ≤ reachBytes) : ∃ l, Rd W v l := by
  obtain ⟨a0, len, cap, rfl⟩ := okWide_slice Tryd.underlying22 hval
  obtain ⟨fuel, hf⟩ := h
  rcases open_ints Tryd.underlying22 Tryd.underlying5 cellsB hf with ⟨hcs, _⟩ | ⟨a, len', cap', zs, hcs, _, hl, _, hz, hx, hcell, hwz⟩
  · simp [Value.cells] at hcs
    obtain ⟨rfl, rfl, rfl⟩ := hcs
    exact ⟨[], Rd.none_ W⟩
  · simp [Value.cells] at hcs
    obtain ⟨rfl, rfl, rfl⟩ := hcs
    simp only [Prod.mk.injEq] at hx
    obtain ⟨rfl, _⟩ := hx
    simp only [if_true] at hz
    have hfit := hs _ _ rfl
    rw [bytesB] at hfit
    simp only [lits, List.length_map, List.length_take, List.length_drop, reachBytes] at hfit
    have hlen : ((zs.take len).map Int.toNat).length = len := by rw [List.length_map, List.length_take]; omega
    have hnum : ∀ k, k < len → ∃ n : Nat, n < 256 ∧ zs.getD k 0 = (n : Int) ∧ gb ((zs.take len).map Int.toNat) k = n := fun k hk => by
      have hkz : k < zs.length := by omega
      obtain ⟨n, hn, e⟩ := u8_of (hwz zs[k] (List.getElem_mem hkz))
      refine ⟨n, hn, by rw [List.getD_eq_getElem?_getD, List.getElem?_eq_getElem hkz]; exact e, ?_⟩
      unfold gb
      rw [List.getD_eq_getElem?_getD, List.getElem?_map, List.getElem?_take, if_pos hk, List.getElem?_eq_getElem hkz, e]
      rfl
    refine ⟨(zs.take len).map Int.toNat, fun k => ?_, by rw [hlen]; omega, .inr ⟨a, cap, by rw [hlen], by rw [hlen]; exact hl, fun j hj => ?_⟩⟩
    · by_cases hk : k < len
      · obtain ⟨n, hn, _, e⟩ := hnum k hk
        rw [e]; exact hn
      · unfold gb
        rw [List.getD_eq_getElem?_getD, List.getElem?_eq_none (by rw [hlen]; omega)]
        show 0 < 256; omega
    · obtain ⟨n, _, e, e2⟩ := hnum j (by omega)
      rw [e2, hcell j (by omega), e]
end Go.Proofs.YtllhljhbnopafaaDoor

/- Slices of integers among a law's arguments. Own work. -/
import Derived.Test.YtlckhlcccifbfaaDoorMem
import Derived.ProofKit
import Derived.OpenShut
import Derived.SizedLaws
import Derived.ChangeSlices
import Derived.ChangeMaps5
import Derived.Carry
namespace Go.Proofs.YtlckhlcccifbfaaDoor
open Go.ChangeShapes Go.WideShapes Go.ChangeAt Go.RowKit
/-- The slice v holds these integers of kind k. -/
structure Ints (k : IntKind) (w : World) (v : Value) (l : List Int) : Prop where
  wf : ∀ j, j < l.length → (Lit.int k (l.getD j 0)).wf = true
  fits : l.length ≤ 140737488351232
  form : (v = .slice none 0 0 ∧ l = []) ∨ ∃ ad cap, v = .slice (some ad) l.length cap ∧ l.length ≤ cap ∧ ∀ j, j < l.length → w.cell? (ad.add j) = some (.int k (l.getD j 0))
theorem Ints.shape {k : IntKind} {w : World} {v : Value} {l : List Int} (h : Ints k w v l) : ∃ ao cap, v = .slice ao l.length cap ∧ l.length ≤ cap := by
  rcases h.form with ⟨e, q⟩ | ⟨ad, cap, e, hc, _⟩
  · subst q; exact ⟨none, 0, e, Nat.le_refl _⟩
  · exact ⟨some ad, cap, e, hc⟩
theorem Ints.below {k : IntKind} {w w' : World} {v : Value} {l : List Int} (h : Ints k w v l) (hb : Below w.heap.size w w') : Ints k w' v l := by
  refine ⟨h.wf, h.fits, ?_⟩
  rcases h.form with q | ⟨ad, cap, e, hc, hs⟩
  · exact .inl q
  · refine .inr ⟨ad, cap, e, hc, fun j hj => ?_⟩
    have h1 := hs j hj
    rw [World.cell?_of_block (w := w) (hb.block _ (World.block_lt_of_cell? w _ h1))]; exact h1
theorem Ints.at_ {k : IntKind} {w : World} {ao : Option Addr} {n cap : Nat} {l : List Int} (h : Ints k w (.slice ao n cap) l) (j : Nat) (hj : j < l.length) : ∃ b off, ao = some ⟨b, off, none⟩ ∧ w.cell? ⟨b, off + j, none⟩ = some (.int k (l.getD j 0)) := by
  rcases h.form with ⟨_, q⟩ | ⟨ad, cap', e, _, hs⟩
  · subst q; simp at hj
  · injection e with e1 _ _
    have h1 := hs j hj
    obtain ⟨b, off, spot⟩ := ad
    have hspot : spot = none := by
      have h0 := hs 0 (by omega)
      simpa [Addr.add] using World.cell?_spot h0
    subst hspot
    exact ⟨b, off, e1, by rw [← Addr.add_lit]; exact h1⟩
set_option maxRecDepth 100000 in
theorem open_nums {H : Type} {enc : TypeId × Value → H} {W : World} {base b0 : Nat} {r : Reach} {v : Value} {d : DataW H} {p : List MemPlace} {t e : TypeId} {k : IntKind} (ht : Tryd.prog.underlying t = some (.slice e)) (he : Tryd.prog.underlying e = some (.int k)) (hc : Tryd.prog.cellsOf e = 1)
    (hval : Value.okWide Tryd.prog W r b0 t v) (h : DataW.Trod enc Tryd.prog W base (fun _ => true) true t v d p)
    (hs : ∀ elems spare, d = .slice elems spare → (elems.length + spare.length) * Tryd.prog.bytesOf e ≤ reachBytes) (hb : 1 ≤ Tryd.prog.bytesOf e) : ∃ l, Ints k W v l := by
  obtain ⟨a0, len, cap, rfl⟩ := okWide_slice ht hval
  obtain ⟨fuel, hf⟩ := h
  rcases open_ints ht he hc hf with ⟨hcs, _⟩ | ⟨a, len', cap', zs, hcs, _, hl, _, hz, hx, hcell, hwz⟩
  · simp [Value.cells] at hcs
    obtain ⟨rfl, rfl, rfl⟩ := hcs
    exact ⟨[], fun j hj => by simp at hj, by simp, .inl ⟨rfl, rfl⟩⟩
  · simp [Value.cells] at hcs
    obtain ⟨rfl, rfl, rfl⟩ := hcs
    simp only [Prod.mk.injEq] at hx
    obtain ⟨rfl, _⟩ := hx
    simp only [if_true] at hz
    have hfit := hs _ _ rfl
    have hfit := Nat.le_trans (Nat.le_mul_of_pos_right _ hb) hfit
    simp only [lits, List.length_map, List.length_take, List.length_drop, reachBytes] at hfit
    have hlen : (zs.take len).length = len := by rw [List.length_take]; omega
    have hget : ∀ j, j < len → (zs.take len).getD j 0 = zs.getD j 0 := fun j hj => by
      rw [List.getD_eq_getElem?_getD, List.getD_eq_getElem?_getD, List.getElem?_take, if_pos hj]
    refine ⟨zs.take len, fun j hj => ?_, by rw [hlen]; omega, .inr ⟨a, cap, by rw [hlen], by rw [hlen]; exact hl, fun j hj => ?_⟩⟩
    · rw [hlen] at hj
      rw [hget j hj, List.getD_eq_getElem?_getD, List.getElem?_eq_getElem (by omega)]
      exact hwz _ (List.getElem_mem _)
    · rw [hlen] at hj
      rw [hget j hj]
      exact hcell j (by omega)
end Go.Proofs.YtlckhlcccifbfaaDoor

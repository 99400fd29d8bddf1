/- Slices among a law's arguments: of bytes, of pairs of a byte and an int. Own work. -/
import Derived.Test.YtngflmdlgaeokaaOctMem
import Derived.Test.YtngflmdlgaeokaaRowArg
import Derived.ProofKit
import Derived.OpenShut
import Derived.SizedLaws
import Derived.ChangeSlices
import Derived.ChangeMaps5
import Derived.Carry
import Derived.Deep.SlicePairs
namespace Go.Proofs.Ytngflmdlgaeokaa
open Go.ChangeShapes Go.WideShapes Go.ChangeAt Go.RowKit
theorem cellsB : Try.prog.cellsOf 5 = 1 := by kernel_rfl
theorem bytesB : Try.prog.bytesOf 5 = 1 := by kernel_rfl
theorem laidOut : laidOutB Try.prog = true := by kernel_rfl
theorem open_bytes {H : Type} {enc : TypeId × Value → H} {W : World} {base b0 : Nat} {r : Reach} {v : Value} {d : DataW H} {p : List MemPlace}
    (hval : Value.okWide Try.prog W r b0 25 v) (h : DataW.Trod enc Try.prog W base (fun _ => true) true 25 v d p)
    (hs : ∀ elems spare, d = .slice elems spare → (elems.length + spare.length) * Try.prog.bytesOf 5 ≤ reachBytes) : ∃ l, Rd W v l := by
  obtain ⟨a0, len, cap, rfl⟩ := okWide_slice Try.underlying25 hval
  obtain ⟨fuel, hf⟩ := h
  rcases open_ints Try.underlying25 Try.underlying5 cellsB hf with ⟨hcs, _⟩ | ⟨a, len', cap', zs, hcs, _, hl, _, hz, hx, hcell, hwz⟩
  · simp [Value.cells] at hcs
    obtain ⟨rfl, rfl, rfl⟩ := hcs
    exact ⟨[], Rd.none_ W⟩
  · simp [Value.cells] at hcs
    obtain ⟨rfl, rfl, rfl⟩ := hcs
    simp only [Prod.mk.injEq] at hx
    obtain ⟨rfl, _⟩ := hx
    simp only [if_true] at hz
    have hfit := hs _ _ rfl
    rw [bytesB] at hfit
    simp only [lits, List.length_map, List.length_take, List.length_drop, reachBytes] at hfit
    have hlen : ((zs.take len).map Int.toNat).length = len := by rw [List.length_map, List.length_take]; omega
    have hnum : ∀ k, k < len → ∃ n : Nat, n < 256 ∧ zs.getD k 0 = (n : Int) ∧ gb ((zs.take len).map Int.toNat) k = n := fun k hk => by
      have hkz : k < zs.length := by omega
      obtain ⟨n, hn, e⟩ := u8_of (hwz zs[k] (List.getElem_mem hkz))
      refine ⟨n, hn, by rw [List.getD_eq_getElem?_getD, List.getElem?_eq_getElem hkz]; exact e, ?_⟩
      unfold gb
      rw [List.getD_eq_getElem?_getD, List.getElem?_map, List.getElem?_take, if_pos hk, List.getElem?_eq_getElem hkz, e]
      rfl
    refine ⟨(zs.take len).map Int.toNat, fun k => ?_, by rw [hlen]; omega, .inr ⟨a, cap, by rw [hlen], by rw [hlen]; exact hl, fun j hj => ?_⟩⟩
    · by_cases hk : k < len
      · obtain ⟨n, hn, _, e⟩ := hnum k hk
        rw [e]; exact hn
      · unfold gb
        rw [List.getD_eq_getElem?_getD, List.getElem?_eq_none (by rw [hlen]; omega)]
        show 0 < 256; omega
    · obtain ⟨n, _, e, e2⟩ := hnum j (by omega)
      rw [e2, hcell j (by omega), e]
/-- The slice v holds these pairs of a byte and an int. -/
def Acts (w : World) (v : Value) (l : List (Nat × Int)) : Prop :=
  ∃ ao cap, v = .slice ao l.length cap ∧ l.length ≤ maxLen ∧ ∀ j, j < l.length → ∃ b off, ao = some ⟨b, off, none⟩ ∧ (l.getD j (0, 0)).1 < 256 ∧
    w.cell? ⟨b, off + j * 2, none⟩ = some (.int .u8 (((l.getD j (0, 0)).1 : Nat) : Int)) ∧ w.cell? ⟨b, off + j * 2 + 1, none⟩ = some (.int .i64 (l.getD j (0, 0)).2)
theorem Acts.below {w w' : World} {v : Value} {l : List (Nat × Int)} (h : Acts w v l) (hb : Below w.heap.size w w') : Acts w' v l := by
  obtain ⟨ao, cap, e, hm, hc⟩ := h
  refine ⟨ao, cap, e, hm, fun j hj => ?_⟩
  obtain ⟨b, off, e1, h1, h2, h3⟩ := hc j hj
  have hlt := World.block_lt_of_cell? w _ h2
  exact ⟨b, off, e1, h1, (hb.cell hlt).trans h2, (hb.cell (p := ⟨b, off + j * 2 + 1, none⟩) hlt).trans h3⟩
theorem cellsAct : Try.prog.cellsOf 50 = 2 := by kernel_rfl
theorem cellsI : Try.prog.cellsOf 3 = 1 := by kernel_rfl
theorem open_acts {H : Type} {enc : TypeId × Value → H} {W : World} {base b0 : Nat} {r : Reach} {v : Value} {d : DataW H} {p : List MemPlace}
    (hval : Value.okWide Try.prog W r b0 42 v) (h : DataW.Trod enc Try.prog W base (fun _ => true) true 42 v d p) : ∃ l, Acts W v l := by
  obtain ⟨a0, len, cap, rfl⟩ := okWide_slice Try.underlying42 hval
  obtain ⟨fuel, hf⟩ := h
  rcases Deep.open_slice_pairs Try.underlying42 Try.underlying50 cellsAct rfl rfl cellsB cellsI hf with ⟨hcs, _⟩ | ⟨a, len', cap', m, n, V0, V1, D0, D1, P0, P1, hcs, _, hl, hm, hmm, _, hcell⟩
  · simp [Value.cells] at hcs
    obtain ⟨rfl, rfl, rfl⟩ := hcs
    exact ⟨[], none, 0, rfl, Nat.zero_le _, fun j hj => absurd hj (by simp)⟩
  · simp [Value.cells] at hcs
    obtain ⟨rfl, rfl, rfl⟩ := hcs
    simp only [if_true] at hmm
    have key : ∀ j, j < len → ∃ (k : Nat) (q : Int), k < 256 ∧ W.cell? (a.add (j * 2)) = some (.int .u8 (k : Int)) ∧ W.cell? (a.add (j * 2 + 1)) = some (.int .i64 q) := fun j hj => by
      obtain ⟨c0, c1, t0, t1⟩ := hcell j (by omega)
      obtain ⟨x, e0, _, wx⟩ := DataW.trod_int Try.underlying5 t0
      obtain ⟨y, e1, _, _⟩ := DataW.trod_int Try.underlying3 t1
      obtain ⟨k, hk, rfl⟩ := u8_of wx
      injection e0 with e0 _
      injection e1 with e1 _
      exact ⟨k, y, hk, by rw [c0, e0], by rw [c1, e1]⟩
    let L : List (Nat × Int) := (List.range len).map fun j => if hj : j < len then ((key j hj).choose, (key j hj).choose_spec.choose) else (0, 0)
    have hL : L.length = len := by simp [L]
    refine ⟨L, some a, cap, by rw [hL], by rw [hL]; omega, fun j hj => ?_⟩
    rw [hL] at hj
    obtain ⟨b, off, spot⟩ := a
    have hspot : spot = none := by
      obtain ⟨k, q, _, h0, _⟩ := key 0 (by omega)
      simpa [Addr.add] using World.cell?_spot h0
    subst hspot
    have e : L.getD j (0, 0) = ((key j hj).choose, (key j hj).choose_spec.choose) := by
      rw [List.getD_eq_getElem?_getD, List.getElem?_map, List.getElem?_range hj]
      simp [hj]
    obtain ⟨h1, h2, h3⟩ := (key j hj).choose_spec.choose_spec
    rw [e]
    exact ⟨b, off, rfl, h1, (congrArg W.cell? (Addr.add_lit b off (j * 2))).symm.trans h2, (congrArg W.cell? (Addr.add_lit b off (j * 2 + 1))).symm.trans h3⟩
theorem Acts.at_ {w : World} {ao : Option Addr} {n cap : Nat} {l : List (Nat × Int)} (h : Acts w (.slice ao n cap) l) (j : Nat) (hj : j < l.length) : ∃ b off, ao = some ⟨b, off, none⟩ ∧ (l.getD j (0, 0)).1 < 256 ∧
    w.cell? ⟨b, off + j * 2, none⟩ = some (.int .u8 (((l.getD j (0, 0)).1 : Nat) : Int)) ∧ w.cell? ⟨b, off + j * 2 + 1, none⟩ = some (.int .i64 (l.getD j (0, 0)).2) := by
  obtain ⟨ao', cap', e, _, hc⟩ := h
  injection e with e1 _ _
  subst e1
  exact hc j hj
end Go.Proofs.Ytngflmdlgaeokaa

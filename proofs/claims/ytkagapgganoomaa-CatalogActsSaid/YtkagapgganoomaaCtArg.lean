/- A catalog by value, and a slice of strings, among a law's arguments: opened. Own work. -/
import Derived.Test.YtkagapgganoomaaCtEq
import Derived.Test.YtkagapgganoomaaRowOpen
import Derived.Deep.Slices
import Derived.Deep.Strs
import Derived.ChangeSame
import Derived.OpenShut
import Derived.ProofKit
import Derived.SizedLaws
import Derived.ChangeSlices
import Derived.ChangeMaps5
import Derived.Carry
namespace Go.Proofs.Ytkagapgganoomaa
open Go.ChangeShapes Go.WideShapes Go.ChangeAt Go.RowKit
open RT CT
def litCt {H : Type} : DataW H := .agg [.agg [.lit (.int .u32 0), lit8 (List.replicate 32 0)], .nil]
theorem cellsRfC : Try.prog.cellsOf 26 = 33 := by kernel_rfl
theorem cellsSnC : Try.prog.cellsOf 60 = 34 := by kernel_rfl
theorem cellsCtC : Try.prog.cellsOf 29 = 34 := by kernel_rfl
theorem cellsU8C : Try.prog.cellsOf 5 = 1 := by kernel_rfl
theorem cellsU32C : Try.prog.cellsOf 22 = 1 := by kernel_rfl
theorem cellsStC : Try.prog.cellsOf 9 = 1 := by kernel_rfl
theorem cellsSmC : Try.prog.cellsOf 24 = 32 := by kernel_rfl
theorem cellsSnsC : Try.prog.cellsOf 27 = 1 := by kernel_rfl
theorem bytesSnC : Try.prog.bytesOf 60 = 56 := by kernel_rfl
theorem splitC33 (cs : List Value) (h : cs.length = 33) : cs = cs.take 1 ++ (cs.drop 1).take 32 := by
  rw [List.take_of_length_le (l := cs.drop 1) (by rw [List.length_drop]; omega)]
  exact (List.take_append_drop 1 cs).symm
theorem open_refC {H : Type} {enc : TypeId × Value → H} {W : World} {base fuel : Nat} {cs : List Value} {y : DataW H × List MemPlace}
    (hf : DataW.trod enc Try.prog W base (fun _ => true) true fuel 26 cs = some y) (hcl : cs.length = 33) : ∃ p : Pg, Pok p ∧ cs = pc p := by
  obtain ⟨xs, k, hk, hxy, _, hxl, hfs⟩ := DataW.trod_struct Try.underlying26 hf
  match xs, hxl with
  | [y0, y1], _ =>
    have g0 : DataW.trod enc Try.prog W base (fun _ => true) true k 22 ((cs.drop 0).take (Try.prog.cellsOf 22)) = some y0 := hfs 0 _ rfl
    have g1 : DataW.trod enc Try.prog W base (fun _ => true) true k 24 ((cs.drop 1).take (Try.prog.cellsOf 24)) = some y1 := hfs 1 _ rfl
    rw [cellsU32C, List.drop_zero] at g0
    rw [cellsSmC] at g1
    obtain ⟨z0, q0, _, w0⟩ := DataW.trod_int Try.underlying22 g0
    obtain ⟨l1, b1, q1, _⟩ := row_open Try.underlying24 Try.underlying5 cellsU8C cellsSmC g1
    have w0' : 0 ≤ z0 ∧ z0 ≤ 4294967295 := by simpa [Lit.wf, IntKind.min, IntKind.max, IntKind.signed, IntKind.bits] using w0
    obtain ⟨n0, rfl⟩ : ∃ n : Nat, z0 = (n : Int) := ⟨z0.toNat, by omega⟩
    refine ⟨⟨n0, l1⟩, ⟨by show n0 < 4294967296; omega, b1⟩, ?_⟩
    rw [splitC33 cs hcl, q0, q1]; rfl
/-- Snapshots in a slice, wherever they lie. -/
theorem open_snaps {H : Type} {enc : TypeId × Value → H} {W : World} {base fuel : Nat} {v : Value} {y : DataW H × List MemPlace}
    (hf : DataW.trod enc Try.prog W base (fun _ => true) true fuel 27 [v] = some y) (hs : ∀ n ∈ y.1.weights Try.prog 27, n ≤ reachBytes) : ∃ ss : List Sn, RdT 34 W v ss.length (sncs ss) ∧ (∀ s ∈ ss, Pok s.top) ∧ ss.length ≤ 2513169434916 := by
  rcases Deep.open_slice Try.underlying27 hf with ⟨hcs, _⟩ | ⟨a, len, cap, m, n, D, Pl, hcs, _, hl, hm, hmm, hx, hcell⟩
  · simp only [List.cons.injEq, and_true] at hcs
    subst hcs
    exact ⟨[], RdT.none_ _ _, (by intro p hp; cases hp), by decide⟩
  · simp only [List.cons.injEq, and_true] at hcs
    subst hcs
    simp only [if_true] at hmm
    subst hx
    have hw := hs
    simp only [DataW.weights, Try.underlying27] at hw
    have hlen := hw _ List.mem_cons_self
    simp only [List.length_map, List.length_range, bytesSnC, reachBytes] at hlen
    have key : ∀ j, j < len → ∃ s : Sn, (∀ i, i < 34 → W.cell? (a.add (j * 34 + i)) = (snc s)[i]?) ∧ Pok s.top := fun j hj => by
      obtain ⟨cs, c1, c2⟩ := hcell j (by omega)
      rw [cellsSnC] at c1
      obtain ⟨_, hcl, hc⟩ := World.cells?_some c1
      obtain ⟨xs, k, hk, hxy, _, hxl, hfs⟩ := DataW.trod_struct Try.underlying60 c2
      match xs, hxl with
      | [y0, y1], _ =>
        have g0 : DataW.trod enc Try.prog W base (fun _ => true) true k 9 ((cs.drop 0).take (Try.prog.cellsOf 9)) = some y0 := hfs 0 _ rfl
        have g1 : DataW.trod enc Try.prog W base (fun _ => true) true k 26 ((cs.drop 1).take (Try.prog.cellsOf 26)) = some y1 := hfs 1 _ rfl
        rw [cellsStC, List.drop_zero] at g0
        rw [cellsRfC] at g1
        obtain ⟨s0, q0, _, _⟩ := DataW.trod_string Try.underlying9 g0
        obtain ⟨p, hp, q1⟩ := open_refC g1 (by rw [List.length_take, List.length_drop, hcl]; rfl)
        refine ⟨⟨s0, p⟩, fun i hi => ?_, hp⟩
        have e0 := hc i hi
        rw [Deep.add_add] at e0
        have hsp : cs = cs.take 1 ++ (cs.drop 1).take 33 := by
          rw [List.take_of_length_le (l := cs.drop 1) (by rw [List.length_drop]; omega)]
          exact (List.take_append_drop 1 cs).symm
        rw [e0, hsp, q0, q1]; rfl
    haveI : Inhabited Sn := ⟨⟨⟨#[]⟩, ⟨0, []⟩⟩⟩
    obtain ⟨f, hfk⟩ := Deep.choose_lt key
    have hL : ((List.range len).map f).length = len := by simp
    have hP : ∀ s ∈ (List.range len).map f, Pok s.top := fun s hs => by
      obtain ⟨j, hj, rfl⟩ := List.mem_map.1 hs
      exact (hfk j (List.mem_range.1 hj)).2
    refine ⟨(List.range len).map f, ⟨by rw [sncs_len hP], .inr ⟨a, cap, by rw [hL], by rw [hL]; exact hl, fun j u hu => ?_⟩⟩, hP, by rw [hL]; omega⟩
    have hjl : j < ((List.range len).map f).length * 34 := by
      rw [← sncs_len hP]; exact (List.getElem?_eq_some_iff.1 hu).1
    rw [hL] at hjl
    have e : j = (j / 34) * 34 + j % 34 := by omega
    have hq : j / 34 < len := by omega
    rw [e, sncs_get hP (by rw [hL]; exact hq) (by omega)] at hu
    rw [List.getElem_map, List.getElem_range] at hu
    rw [e, (hfk (j / 34) hq).1 (j % 34) (by omega)]; exact hu
set_option maxRecDepth 100000 in
theorem open_cat {H : Type} {enc : TypeId × Value → H} {W : World} {base b0 : Nat} {r : Reach} {v : Value} {d : DataW H} {p : List MemPlace}
    (hval : Value.okWide Try.prog W r b0 29 v) (h : DataW.Trod enc Try.prog W base (fun _ => true) true 29 v d p) (hs : ∀ n ∈ d.weights Try.prog 29, n ≤ reachBytes) :
    ∃ (c : Ct) (u : Value), v = .agg (ctc c u).toArray ∧ CT.Ok c ∧ RdT 34 W u c.snaps.length (sncs c.snaps) ∧ c.snaps.length ≤ 2513169434916 := by
  obtain ⟨cs, rfl, hsz, _⟩ : ∃ cs, v = .agg cs ∧ cs.size = Try.prog.cellsOf 29 ∧ Row.okWide Try.prog W r b0 29 cs := by
    simpa [Value.okWide, Try.underlying29] using hval
  obtain ⟨fuel, hf⟩ := h
  obtain ⟨cs⟩ := cs
  simp only [Value.cells] at hf
  obtain ⟨xs, k, hk, hxy, hcl, hxl, hfs⟩ := DataW.trod_struct Try.underlying29 hf
  rw [cellsCtC] at hcl
  match xs, hxl with
  | [y0, y1], _ =>
    have g0 : DataW.trod enc Try.prog W base (fun _ => true) true k 26 ((cs.drop 0).take (Try.prog.cellsOf 26)) = some y0 := hfs 0 _ rfl
    have g1 : DataW.trod enc Try.prog W base (fun _ => true) true k 27 ((cs.drop 33).take (Try.prog.cellsOf 27)) = some y1 := hfs 1 _ rfl
    rw [cellsRfC, List.drop_zero] at g0
    rw [cellsSnsC] at g1
    obtain ⟨tp, htp, q0⟩ := open_refC g0 (by rw [List.length_take, hcl]; rfl)
    obtain ⟨u, hu⟩ : ∃ u, (cs.drop 33).take 1 = [u] := by
      have : ((cs.drop 33).take 1).length = 1 := by rw [List.length_take, List.length_drop, hcl]; rfl
      exact List.length_eq_one_iff.1 this
    rw [hu] at g1
    have hd : d = .agg [y0.1, y1.1] := by
      have := congrArg Prod.fst hxy
      simpa using this
    rw [hd] at hs
    simp only [DataW.weights, Try.underlying29] at hs
    obtain ⟨ss, h5, h6, h7⟩ := open_snaps g1 (fun n hn => hs n (DataW.weights_mem_each (j := 1) rfl rfl n hn))
    refine ⟨⟨tp, ss⟩, u, ?_, ⟨htp, h6⟩, h5, h7⟩
    congr 2
    have hsp : cs = cs.take 33 ++ (cs.drop 33).take 1 := by
      rw [List.take_of_length_le (l := cs.drop 33) (by rw [List.length_drop]; omega)]
      exact (List.take_append_drop 33 cs).symm
    rw [hsp, q0, hu]; rfl
/-- A slice of strings. -/
structure Strs (w : World) (v : Value) (l : List ByteArray) : Prop where
  fits : l.length ≤ 140737488355328
  form : (v = .slice none 0 0 ∧ l = []) ∨ ∃ ad cap, v = .slice (some ad) l.length cap ∧ l.length ≤ cap ∧ ∀ j s, l[j]? = some s → w.cell? (ad.add j) = some (.string s)
theorem Strs.shape {w : World} {v : Value} {l : List ByteArray} (h : Strs w v l) : ∃ ao cap, v = .slice ao l.length cap ∧ l.length ≤ cap := by
  rcases h.form with ⟨e, q⟩ | ⟨ad, cap, e, hc, _⟩
  · subst q; exact ⟨none, 0, e, Nat.le_refl _⟩
  · exact ⟨some ad, cap, e, hc⟩
theorem Strs.below {w w' : World} {v : Value} {l : List ByteArray} (h : Strs w v l) (hb : Below w.heap.size w w') : Strs w' v l := by
  refine ⟨h.fits, ?_⟩
  rcases h.form with q | ⟨ad, cap, e, hc, hs⟩
  · exact .inl q
  · exact .inr ⟨ad, cap, e, hc, fun j s hj => cell_below (hs j s hj) hb⟩
theorem Strs.at_ {w : World} {ao : Option Addr} {n cap : Nat} {l : List ByteArray} (h : Strs w (.slice ao n cap) l) (j : Nat) (hj : j < l.length) : ∃ ad, ao = some ad ∧ w.cell? (ad.add j) = some (.string l[j]) := by
  rcases h.form with ⟨_, q⟩ | ⟨ad, cap', e, _, hs⟩
  · subst q; simp at hj
  · injection e with e2 e3 e4
    exact ⟨ad, e2, hs j _ (List.getElem?_eq_getElem hj)⟩
set_option maxRecDepth 100000 in
theorem open_strsA {H : Type} {enc : TypeId × Value → H} {W : World} {base b0 : Nat} {r : Reach} {v : Value} {d : DataW H} {p : List MemPlace} {t e : TypeId} (ht : Try.prog.underlying t = some (.slice e)) (he : Try.prog.underlying e = some .string) (hc : Try.prog.cellsOf e = 1)
    (hval : Value.okWide Try.prog W r b0 t v) (h : DataW.Trod enc Try.prog W base (fun _ => true) true t v d p)
    (hs : ∀ elems spare, d = .slice elems spare → (elems.length + spare.length) * Try.prog.bytesOf e ≤ reachBytes) (hb : 1 ≤ Try.prog.bytesOf e) : ∃ l : List ByteArray, Strs W v l := by
  obtain ⟨a0, len, cap, rfl⟩ := okWide_slice ht hval
  obtain ⟨fuel, hf⟩ := h
  rcases Deep.open_strs ht he hc hf with ⟨hcs, _⟩ | ⟨a, len', cap', m, Sx, hcs, _, hl, _, hm, hx, hcell⟩
  · simp [Value.cells] at hcs
    obtain ⟨rfl, rfl, rfl⟩ := hcs
    exact ⟨[], by simp, .inl ⟨rfl, rfl⟩⟩
  · simp [Value.cells] at hcs
    obtain ⟨rfl, rfl, rfl⟩ := hcs
    simp only [Prod.mk.injEq] at hx
    obtain ⟨rfl, _⟩ := hx
    simp only [if_true] at hm
    have hfit := hs _ _ rfl
    have hfit := Nat.le_trans (Nat.le_mul_of_pos_right _ hb) hfit
    simp only [List.length_map, List.length_range, reachBytes] at hfit
    refine ⟨(List.range len).map Sx, by simp; omega, .inr ⟨a, cap, by simp, by simpa using hl, fun j s hj => ?_⟩⟩
    rw [List.getElem?_map] at hj
    by_cases hjl : j < len
    · rw [List.getElem?_range hjl] at hj
      simp only [Option.map_some, Option.some.injEq] at hj
      rw [← hj]
      exact (hcell j (by omega)).1
    · rw [List.getElem?_eq_none (by simpa using hjl)] at hj
      cases hj
end Go.Proofs.Ytkagapgganoomaa

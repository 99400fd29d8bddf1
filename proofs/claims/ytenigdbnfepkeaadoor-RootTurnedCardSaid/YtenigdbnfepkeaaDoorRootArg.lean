/- A root by value among a law's arguments: opened. Own work. -/
import Derived.Test.YtenigdbnfepkeaaDoorRtM
import Derived.Test.YtenigdbnfepkeaaDoorRowOpen
import Derived.Deep.Slices
import Derived.ChangeSame
import Derived.OpenShut
namespace Go.Proofs.YtenigdbnfepkeaaDoor
open Go.ChangeShapes Go.WideShapes Go.ChangeAt Go.RowKit
open RT
def litRt {H : Type} : DataW H := .agg [.lit (.int .u64 0), lit8 (List.replicate 32 0), .lit (.int .i64 0), lit8 (List.replicate 32 0), .lit (.int .i64 0), .nil]
theorem weights_elemsR {H : Type} {P : Program} {e : TypeId} : ∀ {l : List (DataW H)} {x : DataW H} {n : Nat}, x ∈ l → n ∈ x.weights P e → n ∈ DataW.weightsAll P e l
  | d :: r, x, n, hx, hn => by
    simp only [DataW.weightsAll, List.mem_append]
    rcases List.mem_cons.1 hx with rfl | q
    · exact .inl hn
    · exact .inr (weights_elemsR q hn)
  | [], _, _, hx, _ => by cases hx
theorem cellsRf : Tryd.prog.cellsOf 45 = 33 := by kernel_rfl
theorem cellsRt : Tryd.prog.cellsOf 27 = 68 := by kernel_rfl
theorem cellsU8R : Tryd.prog.cellsOf 5 = 1 := by kernel_rfl
theorem cellsU32R : Tryd.prog.cellsOf 43 = 1 := by kernel_rfl
theorem cellsU64R : Tryd.prog.cellsOf 22 = 1 := by kernel_rfl
theorem cellsIR : Tryd.prog.cellsOf 3 = 1 := by kernel_rfl
theorem cellsSmR : Tryd.prog.cellsOf 24 = 32 := by kernel_rfl
theorem cellsRfsR : Tryd.prog.cellsOf 25 = 1 := by kernel_rfl
theorem bytesRfR : Tryd.prog.bytesOf 45 = 36 := by kernel_rfl
theorem split33 (cs : List Value) (h : cs.length = 33) : cs = cs.take 1 ++ (cs.drop 1).take 32 := by
  rw [List.take_of_length_le (l := cs.drop 1) (by rw [List.length_drop]; omega)]
  exact (List.take_append_drop 1 cs).symm
theorem split68 (cs : List Value) (h : cs.length = 68) : cs = cs.take 1 ++ ((cs.drop 1).take 32 ++ ((cs.drop 33).take 1 ++ ((cs.drop 34).take 32 ++ ((cs.drop 66).take 1 ++ (cs.drop 67).take 1)))) := by
  rw [List.take_of_length_le (l := cs.drop 67) (by rw [List.length_drop]; omega)]
  have e : ∀ a b, (cs.drop a).take b ++ cs.drop (a + b) = cs.drop a := fun a b => by rw [← List.drop_drop]; exact List.take_append_drop b _
  rw [show cs.drop 67 = cs.drop (66 + 1) from rfl, e 66 1, show cs.drop 66 = cs.drop (34 + 32) from rfl, e 34 32, show cs.drop 34 = cs.drop (33 + 1) from rfl, e 33 1, show cs.drop 33 = cs.drop (1 + 32) from rfl, e 1 32]
  exact (List.take_append_drop 1 cs).symm
/-- Refs in a slice, wherever they lie. -/
theorem open_refs {H : Type} {enc : TypeId × Value → H} {W : World} {base fuel : Nat} {v : Value} {y : DataW H × List MemPlace}
    (hf : DataW.trod enc Tryd.prog W base (fun _ => true) true fuel 25 [v] = some y) (hs : ∀ n ∈ y.1.weights Tryd.prog 25, n ≤ reachBytes) : ∃ ps : List Pg, RdT 33 W v ps.length (pcs ps) ∧ (∀ p ∈ ps, Pok p) ∧ ps.length ≤ 3909374676536 := by
  rcases Deep.open_slice Tryd.underlying25 hf with ⟨hcs, _⟩ | ⟨a, len, cap, m, n, D, Pl, hcs, _, hl, hm, hmm, hx, hcell⟩
  · simp only [List.cons.injEq, and_true] at hcs
    subst hcs
    exact ⟨[], RdT.none_ _ _, (by intro p hp; cases hp), by decide⟩
  · simp only [List.cons.injEq, and_true] at hcs
    subst hcs
    simp only [if_true] at hmm
    subst hx
    have hw := hs
    simp only [DataW.weights, Tryd.underlying25] at hw
    have hlen := hw _ List.mem_cons_self
    simp only [List.length_map, List.length_range, bytesRfR, reachBytes] at hlen
    have key : ∀ j, j < len → ∃ p : Pg, (∀ i, i < 33 → W.cell? (a.add (j * 33 + i)) = (pc p)[i]?) ∧ Pok p := fun j hj => by
      obtain ⟨cs, c1, c2⟩ := hcell j (by omega)
      rw [cellsRf] at c1
      obtain ⟨_, hcl, hc⟩ := World.cells?_some c1
      obtain ⟨xs, k, hk, hxy, _, hxl, hfs⟩ := DataW.trod_struct Tryd.underlying45 c2
      match xs, hxl with
      | [y0, y1], _ =>
        have g0 : DataW.trod enc Tryd.prog W base (fun _ => true) true k 43 ((cs.drop 0).take (Tryd.prog.cellsOf 43)) = some y0 := hfs 0 _ rfl
        have g1 : DataW.trod enc Tryd.prog W base (fun _ => true) true k 24 ((cs.drop 1).take (Tryd.prog.cellsOf 24)) = some y1 := hfs 1 _ rfl
        rw [cellsU32R, List.drop_zero] at g0
        rw [cellsSmR] at g1
        obtain ⟨z0, q0, _, w0⟩ := DataW.trod_int Tryd.underlying43 g0
        obtain ⟨l1, b1, q1, _⟩ := row_open Tryd.underlying24 Tryd.underlying5 cellsU8R cellsSmR g1
        have w0' : 0 ≤ z0 ∧ z0 ≤ 4294967295 := by simpa [Lit.wf, IntKind.min, IntKind.max, IntKind.signed, IntKind.bits] using w0
        obtain ⟨n0, rfl⟩ : ∃ n : Nat, z0 = (n : Int) := ⟨z0.toNat, by omega⟩
        refine ⟨⟨n0, l1⟩, fun i hi => ?_, ⟨by show n0 < 4294967296; omega, b1⟩⟩
        have e0 := hc i hi
        rw [Deep.add_add] at e0
        rw [e0, split33 cs hcl, q0, q1]; rfl
    haveI : Inhabited Pg := ⟨⟨0, []⟩⟩
    obtain ⟨f, hfk⟩ := Deep.choose_lt key
    have hL : ((List.range len).map f).length = len := by simp
    have hP : ∀ p ∈ (List.range len).map f, Pok p := fun p hp => by
      obtain ⟨j, hj, rfl⟩ := List.mem_map.1 hp
      exact (hfk j (List.mem_range.1 hj)).2
    refine ⟨(List.range len).map f, ⟨by rw [pcs_len hP], .inr ⟨a, cap, by rw [hL], by rw [hL]; exact hl, fun j u hu => ?_⟩⟩, hP, by rw [hL]; omega⟩
    have hjl : j < ((List.range len).map f).length * 33 := by
      rw [← pcs_len hP]; exact (List.getElem?_eq_some_iff.1 hu).1
    rw [hL] at hjl
    have e : j = (j / 33) * 33 + j % 33 := by omega
    have hq : j / 33 < len := by omega
    rw [e, pcs_get hP (by rw [hL]; exact hq) (by omega)] at hu
    rw [List.getElem_map, List.getElem_range] at hu
    rw [e, (hfk (j / 33) hq).1 (j % 33) (by omega)]; exact hu
set_option maxRecDepth 100000 in
theorem open_root {H : Type} {enc : TypeId × Value → H} {W : World} {base b0 : Nat} {r : Reach} {v : Value} {d : DataW H} {p : List MemPlace}
    (hval : Value.okWide Tryd.prog W r b0 27 v) (h : DataW.Trod enc Tryd.prog W base (fun _ => true) true 27 v d p) (hs : ∀ n ∈ d.weights Tryd.prog 27, n ≤ reachBytes) :
    ∃ (x : Rt) (u : Value), v = .agg (rtc x u).toArray ∧ Ok x ∧ RdT 33 W u x.pages.length (pcs x.pages) ∧ x.pages.length ≤ 3909374676536 := by
  obtain ⟨cs, rfl, hsz, _⟩ : ∃ cs, v = .agg cs ∧ cs.size = Tryd.prog.cellsOf 27 ∧ Row.okWide Tryd.prog W r b0 27 cs := by
    simpa [Value.okWide, Tryd.underlying27] using hval
  obtain ⟨fuel, hf⟩ := h
  obtain ⟨cs⟩ := cs
  simp only [Value.cells] at hf
  obtain ⟨xs, k, hk, hxy, hcl, hxl, hfs⟩ := DataW.trod_struct Tryd.underlying27 hf
  rw [cellsRt] at hcl
  match xs, hxl with
  | [y0, y1, y2, y3, y4, y5], _ =>
    have g0 : DataW.trod enc Tryd.prog W base (fun _ => true) true k 22 ((cs.drop 0).take (Tryd.prog.cellsOf 22)) = some y0 := hfs 0 _ rfl
    have g1 : DataW.trod enc Tryd.prog W base (fun _ => true) true k 24 ((cs.drop 1).take (Tryd.prog.cellsOf 24)) = some y1 := hfs 1 _ rfl
    have g2 : DataW.trod enc Tryd.prog W base (fun _ => true) true k 3 ((cs.drop 33).take (Tryd.prog.cellsOf 3)) = some y2 := hfs 2 _ rfl
    have g3 : DataW.trod enc Tryd.prog W base (fun _ => true) true k 24 ((cs.drop 34).take (Tryd.prog.cellsOf 24)) = some y3 := hfs 3 _ rfl
    have g4 : DataW.trod enc Tryd.prog W base (fun _ => true) true k 3 ((cs.drop 66).take (Tryd.prog.cellsOf 3)) = some y4 := hfs 4 _ rfl
    have g5 : DataW.trod enc Tryd.prog W base (fun _ => true) true k 25 ((cs.drop 67).take (Tryd.prog.cellsOf 25)) = some y5 := hfs 5 _ rfl
    rw [cellsU64R, List.drop_zero] at g0
    rw [cellsSmR] at g1 g3
    rw [cellsIR] at g2 g4
    rw [cellsRfsR] at g5
    obtain ⟨z0, q0, _, w0⟩ := DataW.trod_int Tryd.underlying22 g0
    obtain ⟨z2, q2, _, w2⟩ := DataW.trod_int Tryd.underlying3 g2
    obtain ⟨z4, q4, _, w4⟩ := DataW.trod_int Tryd.underlying3 g4
    obtain ⟨l1, b1, q1, _⟩ := row_open Tryd.underlying24 Tryd.underlying5 cellsU8R cellsSmR g1
    obtain ⟨l3, b3, q3, _⟩ := row_open Tryd.underlying24 Tryd.underlying5 cellsU8R cellsSmR g3
    have w0' : 0 ≤ z0 ∧ z0 ≤ 18446744073709551615 := by simpa [Lit.wf, IntKind.min, IntKind.max, IntKind.signed, IntKind.bits] using w0
    have w2' : -9223372036854775808 ≤ z2 ∧ z2 ≤ 9223372036854775807 := by simpa [Lit.wf, IntKind.min, IntKind.max, IntKind.signed, IntKind.bits] using w2
    have w4' : -9223372036854775808 ≤ z4 ∧ z4 ≤ 9223372036854775807 := by simpa [Lit.wf, IntKind.min, IntKind.max, IntKind.signed, IntKind.bits] using w4
    obtain ⟨n0, rfl⟩ : ∃ n : Nat, z0 = (n : Int) := ⟨z0.toNat, by omega⟩
    obtain ⟨u, hu⟩ : ∃ u, (cs.drop 67).take 1 = [u] := by
      have : ((cs.drop 67).take 1).length = 1 := by rw [List.length_take, List.length_drop, hcl]; rfl
      exact List.length_eq_one_iff.1 this
    rw [hu] at g5
    have hd : d = .agg [y0.1, y1.1, y2.1, y3.1, y4.1, y5.1] := by
      have := congrArg Prod.fst hxy
      simpa using this
    rw [hd] at hs
    simp only [DataW.weights, Tryd.underlying27] at hs
    obtain ⟨ps, h5, h6, h7⟩ := open_refs g5 (fun n hn => hs n (DataW.weights_mem_each (j := 5) rfl rfl n hn))
    refine ⟨⟨n0, l1, z2, l3, z4, ps⟩, u, ?_, ⟨by show n0 < 18446744073709551616; omega, b1, w2', b3, w4', h6⟩, h5, h7⟩
    congr 2
    rw [split68 cs hcl, q0, q1, q2, q3, q4, hu]; rfl
end Go.Proofs.YtenigdbnfepkeaaDoor

/- A node by value among a law's arguments: opened. Work ahead for stage 15. Own work. -/
import Derived.Test.YtoacdeddkfcllaaDoorNdM
import Derived.Test.YtoacdeddkfcllaaDoorRowOpen
import Derived.Deep.Slices
import Derived.ChangeSame
import Derived.OpenShut
namespace Go.Proofs.YtoacdeddkfcllaaDoor
open Go.ChangeShapes Go.WideShapes Go.ChangeAt Go.RowKit
open RT
def litRf {H : Type} : DataW H := .agg [.lit (.int .u32 0), lit8 (List.replicate 32 0)]
def litNd {H : Type} : DataW H := .agg (List.replicate 8 litRf)
theorem cellsRfN : Tryd.prog.cellsOf 26 = 33 := by kernel_rfl
theorem cellsNdN : Tryd.prog.cellsOf 28 = 264 := by kernel_rfl
theorem cellsU8N : Tryd.prog.cellsOf 5 = 1 := by kernel_rfl
theorem cellsU32N : Tryd.prog.cellsOf 22 = 1 := by kernel_rfl
theorem cellsSmN : Tryd.prog.cellsOf 24 = 32 := by kernel_rfl
theorem split33N (cs : List Value) (h : cs.length = 33) : cs = cs.take 1 ++ (cs.drop 1).take 32 := by
  rw [List.take_of_length_le (l := cs.drop 1) (by rw [List.length_drop]; omega)]
  exact (List.take_append_drop 1 cs).symm
theorem open_ref {H : Type} {enc : TypeId × Value → H} {W : World} {base fuel : Nat} {cs : List Value} {x : DataW H × List MemPlace}
    (hf : DataW.trod enc Tryd.prog W base (fun _ => true) true fuel 26 cs = some x) : ∃ p : Pg, Pok p ∧ cs = pc p := by
  obtain ⟨xs, k, hk, hxy, hcl, hxl, hfs⟩ := DataW.trod_struct Tryd.underlying26 hf
  rw [cellsRfN] at hcl
  match xs, hxl with
  | [y0, y1], _ =>
    have g0 : DataW.trod enc Tryd.prog W base (fun _ => true) true k 22 ((cs.drop 0).take (Tryd.prog.cellsOf 22)) = some y0 := hfs 0 _ rfl
    have g1 : DataW.trod enc Tryd.prog W base (fun _ => true) true k 24 ((cs.drop 1).take (Tryd.prog.cellsOf 24)) = some y1 := hfs 1 _ rfl
    rw [cellsU32N, List.drop_zero] at g0
    rw [cellsSmN] at g1
    obtain ⟨z0, q0, _, w0⟩ := DataW.trod_int Tryd.underlying22 g0
    obtain ⟨l1, b1, q1, _⟩ := row_open Tryd.underlying24 Tryd.underlying5 cellsU8N cellsSmN g1
    have w0' : 0 ≤ z0 ∧ z0 ≤ 4294967295 := by simpa [Lit.wf, IntKind.min, IntKind.max, IntKind.signed, IntKind.bits] using w0
    obtain ⟨n0, rfl⟩ : ∃ n : Nat, z0 = (n : Int) := ⟨z0.toNat, by omega⟩
    refine ⟨⟨n0, l1⟩, ⟨by show n0 < 4294967296; omega, b1⟩, ?_⟩
    rw [split33N cs hcl, q0, q1]; rfl
theorem open_node {H : Type} {enc : TypeId × Value → H} {W : World} {base b0 : Nat} {r : Reach} {v : Value} {d : DataW H} {p : List MemPlace}
    (hval : Value.okWide Tryd.prog W r b0 28 v) (h : DataW.Trod enc Tryd.prog W base (fun _ => true) true 28 v d p) : ∃ ns : List Pg, ND.Nok ns ∧ v = .agg (pcs ns).toArray := by
  obtain ⟨cs, rfl, hsz, _⟩ : ∃ cs, v = .agg cs ∧ cs.size = Tryd.prog.cellsOf 28 ∧ Row.okWide Tryd.prog W r b0 28 cs := by
    simpa [Value.okWide, Tryd.underlying28] using hval
  obtain ⟨fuel, hf⟩ := h
  obtain ⟨cs⟩ := cs
  simp only [Value.cells] at hf
  obtain ⟨xs, m, _, hx, hl, hn, hi⟩ := DataW.trod_array Tryd.underlying28 hf
  rw [cellsNdN] at hl
  have key : ∀ j, j < 8 → ∃ p : Pg, Pok p ∧ (cs.drop (j * 33)).take 33 = pc p := fun j hj => by
    have h1 := hi j hj
    rw [List.getElem?_eq_getElem (show j < xs.length by omega), cellsRfN] at h1
    exact open_ref h1
  haveI : Inhabited Pg := ⟨⟨0, []⟩⟩
  obtain ⟨f, hfk⟩ := Deep.choose_lt key
  have hP : ∀ p ∈ (List.range 8).map f, Pok p := fun p hp => by
    obtain ⟨j, hj, rfl⟩ := List.mem_map.1 hp
    exact (hfk j (List.mem_range.1 hj)).1
  refine ⟨(List.range 8).map f, ⟨by simp, hP⟩, ?_⟩
  have all : ∀ n, n ≤ 8 → pcs ((List.range n).map f) = cs.take (n * 33) := by
    intro n
    induction n with
    | zero => intro _; rw [Nat.zero_mul, List.take_zero]; rfl
    | succ n ih =>
      intro hn
      rw [List.range_succ, List.map_append, pcs_app, ih (by omega), show [n].map f = [f n] from rfl, pcs_one, ← (hfk n (by omega)).2, show (n + 1) * 33 = n * 33 + 33 by omega, List.take_add]
  have q := all 8 (Nat.le_refl _)
  rw [List.take_of_length_le (by rw [hl]; decide)] at q
  rw [q]
end Go.Proofs.YtoacdeddkfcllaaDoor

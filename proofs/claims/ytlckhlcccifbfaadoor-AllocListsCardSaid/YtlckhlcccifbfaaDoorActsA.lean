/- Slices of calls of a set of clusters among a law's arguments. Own work. -/
import Derived.Test.YtlckhlcccifbfaaDoorMem
import Derived.Deep.Slices
import Derived.ChangeSame
namespace Go.Proofs.YtlckhlcccifbfaaDoor
open Go.ChangeShapes Go.WideShapes Go.ChangeAt Go.RowKit
/-- A call: its kind and its cluster. -/
structure AA where
  kind : Nat
  n : Nat
/-- The slice v holds these calls. -/
structure ActsA (w : World) (v : Value) (l : List AA) : Prop where
  fits : l.length ≤ 140737488355328
  form : ∃ ao cap, v = .slice ao l.length cap ∧ ∀ j x, l[j]? = some x → ∃ b off, ao = some ⟨b, off, none⟩ ∧ x.kind < 256 ∧ x.n < 4294967296 ∧
    w.cell? ⟨b, off + j * 2, none⟩ = some (.int .u8 ((x.kind : Nat) : Int)) ∧ w.cell? ⟨b, off + j * 2 + 1, none⟩ = some (.int .u32 ((x.n : Nat) : Int))
theorem ActsA.below {w w' : World} {v : Value} {l : List AA} (h : ActsA w v l) (hb : Below w.heap.size w w') : ActsA w' v l := by
  obtain ⟨ao, cap, e, hc⟩ := h.form
  refine ⟨h.fits, ao, cap, e, fun j x hx => ?_⟩
  obtain ⟨b, off, e1, h1, h2, c0, c1⟩ := hc j x hx
  have hlt := World.block_lt_of_cell? w _ c0
  exact ⟨b, off, e1, h1, h2, (hb.cell hlt).trans c0, (hb.cell (p := ⟨b, off + j * 2 + 1, none⟩) hlt).trans c1⟩
theorem ActsA.shape {w : World} {v : Value} {l : List AA} (h : ActsA w v l) : ∃ ao cap, v = .slice ao l.length cap := by
  obtain ⟨ao, cap, e, _⟩ := h.form; exact ⟨ao, cap, e⟩
theorem ActsA.at_ {w : World} {ao : Option Addr} {n cap : Nat} {l : List AA} (h : ActsA w (.slice ao n cap) l) (j : Nat) (x : AA) (hx : l[j]? = some x) : ∃ b off, ao = some ⟨b, off, none⟩ ∧ x.kind < 256 ∧ x.n < 4294967296 ∧
    w.cell? ⟨b, off + j * 2, none⟩ = some (.int .u8 ((x.kind : Nat) : Int)) ∧ w.cell? ⟨b, off + j * 2 + 1, none⟩ = some (.int .u32 ((x.n : Nat) : Int)) := by
  obtain ⟨ao', cap', e, hc⟩ := h.form
  injection e with e1 _ _
  subst e1
  exact hc j x hx
theorem u32_of' {a : Int} (h : (Lit.int .u32 a).wf = true) : ∃ n : Nat, n < 4294967296 ∧ a = (n : Int) := by
  have k : 0 ≤ a ∧ a ≤ 4294967295 := by simpa [Lit.wf, IntKind.min, IntKind.max, IntKind.signed, IntKind.bits] using h
  exact ⟨a.toNat, by omega, by omega⟩
theorem cellsAct : Tryd.prog.cellsOf 35 = 2 := by kernel_rfl
theorem bytesAct : 1 ≤ Tryd.prog.bytesOf 35 := of_decide_eq_true (by kernel_rfl)
theorem cellsWA : Tryd.prog.cellsOf 31 = 1 := by kernel_rfl
set_option maxRecDepth 100000 in
theorem open_actsa {H : Type} {enc : TypeId × Value → H} {W : World} {base b0 : Nat} {r : Reach} {v : Value} {d : DataW H} {p : List MemPlace}
    (hval : Value.okWide Tryd.prog W r b0 22 v) (h : DataW.Trod enc Tryd.prog W base (fun _ => true) true 22 v d p) (hs : ∀ n ∈ d.weights Tryd.prog 22, n ≤ reachBytes) : ∃ l, ActsA W v l := by
  obtain ⟨a0, len, cap, rfl⟩ := okWide_slice Tryd.underlying22 hval
  obtain ⟨fuel, hf⟩ := h
  rcases Deep.open_slice Tryd.underlying22 hf with ⟨hcs, _⟩ | ⟨a, len', cap', m, n, D, Pl, hcs, _, hl, hm, hmm, hx, hcell⟩
  · simp [Value.cells] at hcs
    obtain ⟨rfl, rfl, rfl⟩ := hcs
    exact ⟨[], by simp, none, 0, rfl, fun j x hx => by simp at hx⟩
  · simp [Value.cells] at hcs
    obtain ⟨rfl, rfl, rfl⟩ := hcs
    simp only [if_true] at hmm
    simp only [Prod.mk.injEq] at hx
    obtain ⟨rfl, _⟩ := hx
    have hw : ∀ n ∈ (DataW.slice ((List.range len).map D) ((List.range (m - len)).map fun j => D (len + j))).weights Tryd.prog 22, n ≤ reachBytes := hs
    simp only [DataW.weights, Tryd.underlying22] at hw
    have hlen := hw _ List.mem_cons_self
    simp only [List.length_map, List.length_range] at hlen
    have hlen2 : len ≤ reachBytes := Nat.le_trans (Nat.le_trans (Nat.le_add_right _ _) (Nat.le_mul_of_pos_right _ bytesAct)) hlen
    have key : ∀ j, j < len → ∃ x : AA, x.kind < 256 ∧ x.n < 4294967296 ∧ W.cell? (a.add (j * 2)) = some (.int .u8 ((x.kind : Nat) : Int)) ∧ W.cell? (a.add (j * 2 + 1)) = some (.int .u32 ((x.n : Nat) : Int)) := fun j hj => by
      obtain ⟨cs, c1, c2⟩ := hcell j (by omega)
      rw [cellsAct] at c1
      obtain ⟨_, hcl, hc⟩ := World.cells?_some c1
      obtain ⟨xs, k, hk, hxy, _, hxl, hfs⟩ := DataW.trod_struct Tryd.underlying35 c2
      match xs, hxl, cs, hcl with
      | [y0, y1], _, [v0, v1], _ =>
        have g0 : DataW.trod enc Tryd.prog W base (fun _ => true) true k 5 (([v0, v1].drop 0).take (Tryd.prog.cellsOf 5)) = some y0 := hfs 0 _ rfl
        rw [cellsB] at g0
        replace g0 : DataW.trod enc Tryd.prog W base (fun _ => true) true k 5 [v0] = some y0 := g0
        have g1 : DataW.trod enc Tryd.prog W base (fun _ => true) true k 31 (([v0, v1].drop 1).take (Tryd.prog.cellsOf 31)) = some y1 := hfs 1 _ rfl
        rw [cellsWA] at g1
        replace g1 : DataW.trod enc Tryd.prog W base (fun _ => true) true k 31 [v1] = some y1 := g1
        obtain ⟨z0, q0, _, w0⟩ := DataW.trod_int Tryd.underlying5 g0
        obtain ⟨z1, q1, _, w1⟩ := DataW.trod_int Tryd.underlying31 g1
        obtain ⟨n0, hn0, rfl⟩ := u8_of w0
        obtain ⟨n1, hn1, rfl⟩ := u32_of' w1
        simp only [List.cons.injEq, and_true] at q0 q1
        subst q0 q1
        have e0 := hc 0 (by omega)
        have e1 := hc 1 (by omega)
        rw [Deep.add_add] at e0 e1
        exact ⟨⟨n0, n1⟩, hn0, hn1, by simpa using e0, by simpa using e1⟩
    haveI : Inhabited AA := ⟨⟨0, 0⟩⟩
    obtain ⟨f, hfk⟩ := Deep.choose_lt key
    have hL : ((List.range len).map fun j => f j).length = len := by simp
    refine ⟨(List.range len).map fun j => f j, by rw [hL]; have := reachBytes_lt; omega, some a, cap, by rw [hL], fun j x hx => ?_⟩
    have hj : j < len := by have := (List.getElem?_eq_some_iff.1 hx).1; rwa [hL] at this
    rw [List.getElem?_map, List.getElem?_range hj] at hx
    obtain rfl := Option.some.inj hx
    obtain ⟨b, off, spot⟩ := a
    have hspot : spot = none := by
      have h0 := (hfk 0 (by omega)).2.2.1
      simpa [Addr.add] using World.cell?_spot h0
    subst hspot
    obtain ⟨h1, h2, c0, c1⟩ := hfk j hj
    rw [Addr.add_lit] at c0 c1
    exact ⟨b, off, rfl, h1, h2, c0, c1⟩
end Go.Proofs.YtlckhlcccifbfaaDoor

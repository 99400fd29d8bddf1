/- Slices of a device's calls among a law's arguments. Own work. -/
import Derived.Test.YtipdcocliefppaaMem
import Derived.Deep.Slices
import Derived.ChangeSame
namespace Go.Proofs.Ytipdcocliefppaa
open Go.ChangeShapes Go.WideShapes Go.ChangeAt Go.RowKit
/-- A call: its kind, its place, its bytes, and whether it is done. -/
structure AD where
  kind : Nat
  at_ : Int
  data : List Nat
  done : Bool
/-- The slice v holds these calls. -/
structure ActsD (w : World) (v : Value) (l : List AD) : Prop where
  fits : l.length ≤ 140737488355328
  form : ∃ ao cap, v = .slice ao l.length cap ∧ ∀ j x, l[j]? = some x → ∃ b off u, ao = some ⟨b, off, none⟩ ∧ x.kind < 256 ∧ (-9223372036854775808 ≤ x.at_ ∧ x.at_ ≤ 9223372036854775807) ∧
    w.cell? ⟨b, off + j * 4, none⟩ = some (.int .u8 ((x.kind : Nat) : Int)) ∧ w.cell? ⟨b, off + j * 4 + 1, none⟩ = some (.int .i64 x.at_) ∧ w.cell? ⟨b, off + j * 4 + 2, none⟩ = some u ∧ w.cell? ⟨b, off + j * 4 + 3, none⟩ = some (.bool x.done) ∧ Rd w u x.data
theorem ActsD.below {w w' : World} {v : Value} {l : List AD} (h : ActsD w v l) (hb : Below w.heap.size w w') : ActsD w' v l := by
  obtain ⟨ao, cap, e, hc⟩ := h.form
  refine ⟨h.fits, ao, cap, e, fun j x hx => ?_⟩
  obtain ⟨b, off, u, e1, h1, h2, c0, c1, c2, c3, hr⟩ := hc j x hx
  have hlt := World.block_lt_of_cell? w _ c0
  exact ⟨b, off, u, e1, h1, h2, (hb.cell hlt).trans c0, (hb.cell (p := ⟨b, off + j * 4 + 1, none⟩) hlt).trans c1, (hb.cell (p := ⟨b, off + j * 4 + 2, none⟩) hlt).trans c2, (hb.cell (p := ⟨b, off + j * 4 + 3, none⟩) hlt).trans c3, hr.below hb⟩
theorem ActsD.shape {w : World} {v : Value} {l : List AD} (h : ActsD w v l) : ∃ ao cap, v = .slice ao l.length cap := by
  obtain ⟨ao, cap, e, _⟩ := h.form; exact ⟨ao, cap, e⟩
theorem ActsD.at_ {w : World} {ao : Option Addr} {n cap : Nat} {l : List AD} (h : ActsD w (.slice ao n cap) l) (j : Nat) (x : AD) (hx : l[j]? = some x) : ∃ b off u, ao = some ⟨b, off, none⟩ ∧ x.kind < 256 ∧ (-9223372036854775808 ≤ x.at_ ∧ x.at_ ≤ 9223372036854775807) ∧
    w.cell? ⟨b, off + j * 4, none⟩ = some (.int .u8 ((x.kind : Nat) : Int)) ∧ w.cell? ⟨b, off + j * 4 + 1, none⟩ = some (.int .i64 x.at_) ∧ w.cell? ⟨b, off + j * 4 + 2, none⟩ = some u ∧ w.cell? ⟨b, off + j * 4 + 3, none⟩ = some (.bool x.done) ∧ Rd w u x.data := by
  obtain ⟨ao', cap', e, hc⟩ := h.form
  injection e with e1 _ _
  subst e1
  exact hc j x hx
/-- A slice of bytes, wherever it lies, whose weights are small enough. -/
theorem bytes_w {H : Type} {enc : TypeId × Value → H} {W : World} {base fuel : Nat} {x : Value} {y : DataW H × List MemPlace} (hf : DataW.trod enc Try.prog W base (fun _ => true) true fuel 33 [x] = some y) (hs : ∀ n ∈ y.1.weights Try.prog 33, n ≤ reachBytes) : ∃ l, Rd W x l := by
  rcases open_ints Try.underlying33 Try.underlying5 cellsB hf with ⟨hcs, _⟩ | ⟨a, len, cap, zs, hcs, _, hl, _, hz, hx, hcell, hwz⟩
  · simp only [List.cons.injEq, and_true] at hcs
    subst hcs
    exact ⟨[], Rd.none_ W⟩
  · simp only [List.cons.injEq, and_true] at hcs
    subst hcs
    subst hx
    simp only [if_true] at hz
    have hfit := hs _ (by simp only [DataW.weights, Try.underlying33]; exact List.mem_cons_self)
    rw [bytesB] at hfit
    simp only [lits, List.length_map, List.length_take, List.length_drop, reachBytes] at hfit
    have hlen : ((zs.take len).map Int.toNat).length = len := by rw [List.length_map, List.length_take]; omega
    have hnum : ∀ k, k < len → ∃ n : Nat, n < 256 ∧ zs.getD k 0 = (n : Int) ∧ gb ((zs.take len).map Int.toNat) k = n := fun k hk => by
      have hkz : k < zs.length := by omega
      obtain ⟨n, hn, e⟩ := u8_of (hwz zs[k] (List.getElem_mem hkz))
      refine ⟨n, hn, by rw [List.getD_eq_getElem?_getD, List.getElem?_eq_getElem hkz]; exact e, ?_⟩
      unfold gb
      rw [List.getD_eq_getElem?_getD, List.getElem?_map, List.getElem?_take, if_pos hk, List.getElem?_eq_getElem hkz, e]
      rfl
    refine ⟨(zs.take len).map Int.toNat, fun k => ?_, by rw [hlen]; omega, .inr ⟨a, cap, by rw [hlen], by rw [hlen]; exact hl, fun j hj => ?_⟩⟩
    · by_cases hk : k < len
      · obtain ⟨n, hn, _, e⟩ := hnum k hk
        rw [e]; exact hn
      · unfold gb
        rw [List.getD_eq_getElem?_getD, List.getElem?_eq_none (by rw [hlen]; omega)]
        show 0 < 256; omega
    · obtain ⟨n, _, e, e2⟩ := hnum j (by omega)
      rw [e2, hcell j (by omega), e]
theorem weights_elem {H : Type} {P : Program} {e : TypeId} : ∀ {l : List (DataW H)} {x : DataW H} {n : Nat}, x ∈ l → n ∈ x.weights P e → n ∈ DataW.weightsAll P e l
  | d :: r, x, n, hx, hn => by
    simp only [DataW.weightsAll, List.mem_append]
    rcases List.mem_cons.1 hx with rfl | q
    · exact .inl hn
    · exact .inr (weights_elem q hn)
  | [], _, _, hx, _ => by cases hx
theorem cellsAct : Try.prog.cellsOf 35 = 4 := by kernel_rfl
theorem bytesAct : 1 ≤ Try.prog.bytesOf 35 := of_decide_eq_true (by kernel_rfl)
theorem cellsIA : Try.prog.cellsOf 3 = 1 := by kernel_rfl
theorem cellsBA : Try.prog.cellsOf 4 = 1 := by kernel_rfl
theorem cellsSA : Try.prog.cellsOf 33 = 1 := by kernel_rfl
set_option maxRecDepth 100000 in
theorem open_actsd {H : Type} {enc : TypeId × Value → H} {W : World} {base b0 : Nat} {r : Reach} {v : Value} {d : DataW H} {p : List MemPlace}
    (hval : Value.okWide Try.prog W r b0 22 v) (h : DataW.Trod enc Try.prog W base (fun _ => true) true 22 v d p) (hs : ∀ n ∈ d.weights Try.prog 22, n ≤ reachBytes) : ∃ l, ActsD W v l := by
  obtain ⟨a0, len, cap, rfl⟩ := okWide_slice Try.underlying22 hval
  obtain ⟨fuel, hf⟩ := h
  rcases Deep.open_slice Try.underlying22 hf with ⟨hcs, _⟩ | ⟨a, len', cap', m, n, D, Pl, hcs, _, hl, hm, hmm, hx, hcell⟩
  · simp [Value.cells] at hcs
    obtain ⟨rfl, rfl, rfl⟩ := hcs
    exact ⟨[], by simp, none, 0, rfl, fun j x hx => by simp at hx⟩
  · simp [Value.cells] at hcs
    obtain ⟨rfl, rfl, rfl⟩ := hcs
    simp only [if_true] at hmm
    simp only [Prod.mk.injEq] at hx
    obtain ⟨rfl, _⟩ := hx
    have hw : ∀ n ∈ (DataW.slice ((List.range len).map D) ((List.range (m - len)).map fun j => D (len + j))).weights Try.prog 22, n ≤ reachBytes := hs
    simp only [DataW.weights, Try.underlying22] at hw
    have hlen := hw _ List.mem_cons_self
    simp only [List.length_map, List.length_range] at hlen
    have hlen2 : len ≤ reachBytes := Nat.le_trans (Nat.le_trans (Nat.le_add_right _ _) (Nat.le_mul_of_pos_right _ bytesAct)) hlen
    have key : ∀ j, j < len → ∃ (x : AD) (u : Value), x.kind < 256 ∧ (-9223372036854775808 ≤ x.at_ ∧ x.at_ ≤ 9223372036854775807) ∧ W.cell? (a.add (j * 4)) = some (.int .u8 ((x.kind : Nat) : Int)) ∧ W.cell? (a.add (j * 4 + 1)) = some (.int .i64 x.at_) ∧ W.cell? (a.add (j * 4 + 2)) = some u ∧ W.cell? (a.add (j * 4 + 3)) = some (.bool x.done) ∧ Rd W u x.data := fun j hj => by
      obtain ⟨cs, c1, c2⟩ := hcell j (by omega)
      rw [cellsAct] at c1
      obtain ⟨_, hcl, hc⟩ := World.cells?_some c1
      obtain ⟨xs, k, hk, hxy, _, hxl, hfs⟩ := DataW.trod_struct Try.underlying35 c2
      match xs, hxl, cs, hcl with
      | [y0, y1, y2, y3], _, [v0, v1, v2, v3], _ =>
        have g0 : DataW.trod enc Try.prog W base (fun _ => true) true k 5 (([v0, v1, v2, v3].drop 0).take (Try.prog.cellsOf 5)) = some y0 := hfs 0 _ rfl
        rw [cellsB] at g0
        replace g0 : DataW.trod enc Try.prog W base (fun _ => true) true k 5 [v0] = some y0 := g0
        have g1 : DataW.trod enc Try.prog W base (fun _ => true) true k 3 (([v0, v1, v2, v3].drop 1).take (Try.prog.cellsOf 3)) = some y1 := hfs 1 _ rfl
        rw [cellsIA] at g1
        replace g1 : DataW.trod enc Try.prog W base (fun _ => true) true k 3 [v1] = some y1 := g1
        have g2 : DataW.trod enc Try.prog W base (fun _ => true) true k 33 (([v0, v1, v2, v3].drop 2).take (Try.prog.cellsOf 33)) = some y2 := hfs 2 _ rfl
        rw [cellsSA] at g2
        replace g2 : DataW.trod enc Try.prog W base (fun _ => true) true k 33 [v2] = some y2 := g2
        have g3 : DataW.trod enc Try.prog W base (fun _ => true) true k 4 (([v0, v1, v2, v3].drop 3).take (Try.prog.cellsOf 4)) = some y3 := hfs 3 _ rfl
        rw [cellsBA] at g3
        replace g3 : DataW.trod enc Try.prog W base (fun _ => true) true k 4 [v3] = some y3 := g3
        obtain ⟨z0, q0, _, w0⟩ := DataW.trod_int Try.underlying5 g0
        obtain ⟨z1, q1, _, w1⟩ := DataW.trod_int Try.underlying3 g1
        obtain ⟨z3, q3, _⟩ := DataW.trod_bool Try.underlying4 g3
        obtain ⟨n0, hn0, rfl⟩ := u8_of w0
        have w1' : -9223372036854775808 ≤ z1 ∧ z1 ≤ 9223372036854775807 := by simpa [Lit.wf, IntKind.min, IntKind.max, IntKind.signed, IntKind.bits] using w1
        simp only [List.cons.injEq, and_true] at q0 q1 q3
        subst q0 q1 q3
        have hD : D j = .agg [y0.1, y1.1, y2.1, y3.1] := by
          have := congrArg Prod.fst hxy
          simpa using this
        obtain ⟨l, hr⟩ := bytes_w g2 (fun n hn => hw n (by
          refine List.mem_cons_of_mem _ (List.mem_append_left _ (weights_elem (x := D j) (List.mem_map.2 ⟨j, by simpa using hj, rfl⟩) ?_))
          rw [hD]
          simp only [DataW.weights, Try.underlying35]
          exact DataW.weights_mem_each (j := 2) rfl rfl n hn))
        have e0 := hc 0 (by omega)
        have e1 := hc 1 (by omega)
        have e2 := hc 2 (by omega)
        have e3 := hc 3 (by omega)
        rw [Deep.add_add] at e0 e1 e2 e3
        exact ⟨⟨n0, z1, l, z3⟩, v2, hn0, w1', by simpa using e0, by simpa using e1, by simpa using e2, by simpa using e3, hr⟩
    have key2 : ∀ j, j < len → ∃ q : AD × Value, q.1.kind < 256 ∧ (-9223372036854775808 ≤ q.1.at_ ∧ q.1.at_ ≤ 9223372036854775807) ∧ W.cell? (a.add (j * 4)) = some (.int .u8 ((q.1.kind : Nat) : Int)) ∧ W.cell? (a.add (j * 4 + 1)) = some (.int .i64 q.1.at_) ∧ W.cell? (a.add (j * 4 + 2)) = some q.2 ∧ W.cell? (a.add (j * 4 + 3)) = some (.bool q.1.done) ∧ Rd W q.2 q.1.data := fun j hj => by
      obtain ⟨x, u, h⟩ := key j hj; exact ⟨(x, u), h⟩
    haveI : Inhabited AD := ⟨⟨0, 0, [], false⟩⟩
    haveI : Inhabited Value := ⟨.bool false⟩
    obtain ⟨f, hfk⟩ := Deep.choose_lt key2
    have hL : ((List.range len).map fun j => (f j).1).length = len := by simp
    refine ⟨(List.range len).map fun j => (f j).1, by rw [hL]; have := reachBytes_lt; omega, some a, cap, by rw [hL], fun j x hx => ?_⟩
    have hj : j < len := by have := (List.getElem?_eq_some_iff.1 hx).1; rwa [hL] at this
    rw [List.getElem?_map, List.getElem?_range hj] at hx
    obtain rfl := Option.some.inj hx
    obtain ⟨b, off, spot⟩ := a
    have hspot : spot = none := by
      have h0 := (hfk 0 (by omega)).2.2.1
      simpa [Addr.add] using World.cell?_spot h0
    subst hspot
    obtain ⟨h1, h2, c0, c1, c2, c3, hr⟩ := hfk j hj
    rw [Addr.add_lit] at c0 c1 c2 c3
    exact ⟨b, off, (f j).2, rfl, h1, h2, c0, c1, c2, c3, hr⟩
end Go.Proofs.Ytipdcocliefppaa

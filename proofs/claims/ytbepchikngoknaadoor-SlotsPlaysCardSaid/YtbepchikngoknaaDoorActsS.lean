/- Slices of calls upon key slots among a law's arguments. Own work. -/
import Derived.Test.YtbepchikngoknaaDoorMem
import Derived.Test.YtbepchikngoknaaDoorTabArg
import Derived.Deep.Slices
import Derived.ChangeSame
namespace Go.Proofs.YtbepchikngoknaaDoor
open Go.ChangeShapes Go.WideShapes Go.ChangeAt Go.RowKit
/-- A call: its kind, its passphrases, its salt, its turns. -/
structure AS where
  kind : Nat
  pass : List Nat
  fresh : List Nat
  salt : List Nat
  turns : Int
/-- Its cells. -/
def acs (x : AS) (u f : Value) : List Value := .int .u8 (x.kind : Int) :: u :: f :: (row8 x.salt ++ [.int .i64 x.turns])
structure ActOk (w : World) (x : AS) (u f : Value) : Prop where
  kind : x.kind < 256
  salt : Bytes 16 x.salt
  turns : -9223372036854775808 ≤ x.turns ∧ x.turns ≤ 9223372036854775807
  pass : Rd w u x.pass
  fresh : Rd w f x.fresh
theorem ActOk.below {w w' : World} {x : AS} {u f : Value} (h : ActOk w x u f) (hb : Below w.heap.size w w') : ActOk w' x u f := ⟨h.kind, h.salt, h.turns, h.pass.below hb, h.fresh.below hb⟩
theorem acs_len {w : World} {x : AS} {u f : Value} (h : ActOk w x u f) : (acs x u f).length = 20 := by
  unfold acs
  simp only [List.length_cons, List.length_append, row8_len, h.salt.1, List.length_nil]
/-- The slice v holds these calls. -/
structure ActsS (w : World) (v : Value) (l : List AS) : Prop where
  fits : l.length ≤ 140737488355328
  form : ∃ ao cap, v = .slice ao l.length cap ∧ ∀ j x, l[j]? = some x → ∃ b off u f, ao = some ⟨b, off, none⟩ ∧ w.rangeAt b (off + j * 20) (acs x u f) ∧ ActOk w x u f
theorem rangeAt_below {w w' : World} {b o : Nat} {cs : List Value} (h : w.rangeAt b o cs) (hb : Below w.heap.size w w') : w'.rangeAt b o cs := fun k v hv => by
  have hc := h k v hv
  exact (hb.cell (p := ⟨b, o + k, none⟩) (World.block_lt_of_cell? w _ hc)).trans hc
theorem ActsS.below {w w' : World} {v : Value} {l : List AS} (h : ActsS w v l) (hb : Below w.heap.size w w') : ActsS w' v l := by
  obtain ⟨ao, cap, e, hc⟩ := h.form
  refine ⟨h.fits, ao, cap, e, fun j x hx => ?_⟩
  obtain ⟨b, off, u, f, e1, h1, h2⟩ := hc j x hx
  exact ⟨b, off, u, f, e1, rangeAt_below h1 hb, h2.below hb⟩
theorem ActsS.shape {w : World} {v : Value} {l : List AS} (h : ActsS w v l) : ∃ ao cap, v = .slice ao l.length cap := by
  obtain ⟨ao, cap, e, _⟩ := h.form; exact ⟨ao, cap, e⟩
theorem ActsS.at_ {w : World} {ao : Option Addr} {n cap : Nat} {l : List AS} (h : ActsS w (.slice ao n cap) l) (j : Nat) (x : AS) (hx : l[j]? = some x) : ∃ b off u f, ao = some ⟨b, off, none⟩ ∧ w.rangeAt b (off + j * 20) (acs x u f) ∧ ActOk w x u f := by
  obtain ⟨ao', cap', e, hc⟩ := h.form
  injection e with e1 _ _
  subst e1
  exact hc j x hx
/-- A slice of bytes, wherever it lies, whose weights are small enough. -/
theorem bytes_ws {H : Type} {enc : TypeId × Value → H} {W : World} {base fuel : Nat} {x : Value} {y : DataW H × List MemPlace} (hf : DataW.trod enc Tryd.prog W base (fun _ => true) true fuel 31 [x] = some y) (hs : ∀ n ∈ y.1.weights Tryd.prog 31, n ≤ reachBytes) : ∃ l, Rd W x l := by
  rcases open_ints Tryd.underlying31 Tryd.underlying5 cellsB hf with ⟨hcs, _⟩ | ⟨a, len, cap, zs, hcs, _, hl, _, hz, hx, hcell, hwz⟩
  · simp only [List.cons.injEq, and_true] at hcs
    subst hcs
    exact ⟨[], Rd.none_ W⟩
  · simp only [List.cons.injEq, and_true] at hcs
    subst hcs
    subst hx
    simp only [if_true] at hz
    have hfit := hs _ (by simp only [DataW.weights, Tryd.underlying31]; exact List.mem_cons_self)
    rw [bytesB] at hfit
    simp only [lits, List.length_map, List.length_take, List.length_drop, reachBytes] at hfit
    have hlen : ((zs.take len).map Int.toNat).length = len := by rw [List.length_map, List.length_take]; omega
    have hnum : ∀ k, k < len → ∃ n : Nat, n < 256 ∧ zs.getD k 0 = (n : Int) ∧ gb ((zs.take len).map Int.toNat) k = n := fun k hk => by
      have hkz : k < zs.length := by omega
      obtain ⟨n, hn, e⟩ := u8_of (hwz zs[k] (List.getElem_mem hkz))
      refine ⟨n, hn, by rw [List.getD_eq_getElem?_getD, List.getElem?_eq_getElem hkz]; exact e, ?_⟩
      unfold gb
      rw [List.getD_eq_getElem?_getD, List.getElem?_map, List.getElem?_take, if_pos hk, List.getElem?_eq_getElem hkz, e]
      rfl
    refine ⟨(zs.take len).map Int.toNat, fun k => ?_, by rw [hlen]; omega, .inr ⟨a, cap, by rw [hlen], by rw [hlen]; exact hl, fun j hj => ?_⟩⟩
    · by_cases hk : k < len
      · obtain ⟨n, hn, _, e⟩ := hnum k hk
        rw [e]; exact hn
      · unfold gb
        rw [List.getD_eq_getElem?_getD, List.getElem?_eq_none (by rw [hlen]; omega)]
        show 0 < 256; omega
    · obtain ⟨n, _, e, e2⟩ := hnum j (by omega)
      rw [e2, hcell j (by omega), e]
theorem weights_elems {H : Type} {P : Program} {e : TypeId} : ∀ {l : List (DataW H)} {x : DataW H} {n : Nat}, x ∈ l → n ∈ x.weights P e → n ∈ DataW.weightsAll P e l
  | d :: r, x, n, hx, hn => by
    simp only [DataW.weightsAll, List.mem_append]
    rcases List.mem_cons.1 hx with rfl | q
    · exact .inl hn
    · exact .inr (weights_elems q hn)
  | [], _, _, hx, _ => by cases hx
theorem cellsActS : Tryd.prog.cellsOf 56 = 20 := by kernel_rfl
theorem bytesActS : 1 ≤ Tryd.prog.bytesOf 56 := of_decide_eq_true (by kernel_rfl)
theorem cellsIS : Tryd.prog.cellsOf 3 = 1 := by kernel_rfl
theorem cellsSS : Tryd.prog.cellsOf 31 = 1 := by kernel_rfl
theorem split20 (cs : List Value) (h : cs.length = 20) : cs = cs.take 1 ++ ((cs.drop 1).take 1 ++ ((cs.drop 2).take 1 ++ ((cs.drop 3).take 16 ++ (cs.drop 19).take 1))) := by
  rw [List.take_of_length_le (l := cs.drop 19) (by rw [List.length_drop]; omega)]
  have e : ∀ a b, (cs.drop a).take b ++ cs.drop (a + b) = cs.drop a := fun a b => by rw [← List.drop_drop]; exact List.take_append_drop b _
  rw [show cs.drop 19 = cs.drop (3 + 16) from rfl, e 3 16, show cs.drop 3 = cs.drop (2 + 1) from rfl, e 2 1, show cs.drop 2 = cs.drop (1 + 1) from rfl, e 1 1]
  exact (List.take_append_drop 1 cs).symm
set_option maxRecDepth 100000 in
theorem open_actss {H : Type} {enc : TypeId × Value → H} {W : World} {base b0 : Nat} {r : Reach} {v : Value} {d : DataW H} {p : List MemPlace}
    (hval : Value.okWide Tryd.prog W r b0 52 v) (h : DataW.Trod enc Tryd.prog W base (fun _ => true) true 52 v d p) (hs : ∀ n ∈ d.weights Tryd.prog 52, n ≤ reachBytes) : ∃ l, ActsS W v l := by
  obtain ⟨a0, len, cap, rfl⟩ := okWide_slice Tryd.underlying52 hval
  obtain ⟨fuel, hf⟩ := h
  rcases Deep.open_slice Tryd.underlying52 hf with ⟨hcs, _⟩ | ⟨a, len', cap', m, n, D, Pl, hcs, _, hl, hm, hmm, hx, hcell⟩
  · simp [Value.cells] at hcs
    obtain ⟨rfl, rfl, rfl⟩ := hcs
    exact ⟨[], by simp, none, 0, rfl, fun j x hx => by simp at hx⟩
  · simp [Value.cells] at hcs
    obtain ⟨rfl, rfl, rfl⟩ := hcs
    simp only [if_true] at hmm
    simp only [Prod.mk.injEq] at hx
    obtain ⟨rfl, _⟩ := hx
    have hw : ∀ n ∈ (DataW.slice ((List.range len).map D) ((List.range (m - len)).map fun j => D (len + j))).weights Tryd.prog 52, n ≤ reachBytes := hs
    simp only [DataW.weights, Tryd.underlying52] at hw
    have hlen := hw _ List.mem_cons_self
    simp only [List.length_map, List.length_range] at hlen
    have hlen2 : len ≤ reachBytes := Nat.le_trans (Nat.le_trans (Nat.le_add_right _ _) (Nat.le_mul_of_pos_right _ bytesActS)) hlen
    have key : ∀ j, j < len → ∃ (x : AS) (u f : Value), (∀ i, i < 20 → W.cell? (a.add (j * 20 + i)) = (acs x u f)[i]?) ∧ ActOk W x u f := fun j hj => by
      obtain ⟨cs, c1, c2⟩ := hcell j (by omega)
      rw [cellsActS] at c1
      obtain ⟨_, hcl, hc⟩ := World.cells?_some c1
      obtain ⟨xs, k, hk, hxy, _, hxl, hfs⟩ := DataW.trod_struct Tryd.underlying56 c2
      match xs, hxl with
      | [y0, y1, y2, y3, y4], _ =>
        have g0 : DataW.trod enc Tryd.prog W base (fun _ => true) true k 5 ((cs.drop 0).take (Tryd.prog.cellsOf 5)) = some y0 := hfs 0 _ rfl
        have g1 : DataW.trod enc Tryd.prog W base (fun _ => true) true k 31 ((cs.drop 1).take (Tryd.prog.cellsOf 31)) = some y1 := hfs 1 _ rfl
        have g2 : DataW.trod enc Tryd.prog W base (fun _ => true) true k 31 ((cs.drop 2).take (Tryd.prog.cellsOf 31)) = some y2 := hfs 2 _ rfl
        have g3 : DataW.trod enc Tryd.prog W base (fun _ => true) true k 23 ((cs.drop 3).take (Tryd.prog.cellsOf 23)) = some y3 := hfs 3 _ rfl
        have g4 : DataW.trod enc Tryd.prog W base (fun _ => true) true k 3 ((cs.drop 19).take (Tryd.prog.cellsOf 3)) = some y4 := hfs 4 _ rfl
        rw [cellsTU, List.drop_zero] at g0
        rw [cellsSS] at g1 g2
        rw [cellsTS] at g3
        rw [cellsIS] at g4
        obtain ⟨z0, q0, _, w0⟩ := DataW.trod_int Tryd.underlying5 g0
        obtain ⟨z4, q4, _, w4⟩ := DataW.trod_int Tryd.underlying3 g4
        obtain ⟨n0, hn0, rfl⟩ := u8_of w0
        have w4' : -9223372036854775808 ≤ z4 ∧ z4 ≤ 9223372036854775807 := by simpa [Lit.wf, IntKind.min, IntKind.max, IntKind.signed, IntKind.bits] using w4
        obtain ⟨l3, b3, q3, _⟩ := row_open Tryd.underlying23 Tryd.underlying5 cellsTU cellsTS g3
        obtain ⟨u, hu⟩ : ∃ u, (cs.drop 1).take 1 = [u] := by
          have : ((cs.drop 1).take 1).length = 1 := by rw [List.length_take, List.length_drop, hcl]; rfl
          exact List.length_eq_one_iff.1 this
        obtain ⟨f, hf2⟩ : ∃ u, (cs.drop 2).take 1 = [u] := by
          have : ((cs.drop 2).take 1).length = 1 := by rw [List.length_take, List.length_drop, hcl]; rfl
          exact List.length_eq_one_iff.1 this
        rw [hu] at g1
        rw [hf2] at g2
        have hD : D j = .agg [y0.1, y1.1, y2.1, y3.1, y4.1] := by
          have := congrArg Prod.fst hxy
          simpa using this
        have hwj : ∀ (i : Nat) n, n ∈ (D j).weights Tryd.prog 56 → n ≤ reachBytes := fun _ n hn => hw n (List.mem_cons_of_mem _ (List.mem_append_left _ (weights_elems (x := D j) (List.mem_map.2 ⟨j, by simpa using hj, rfl⟩) hn)))
        rw [hD] at hwj
        simp only [DataW.weights, Tryd.underlying56] at hwj
        obtain ⟨lp, hr⟩ := bytes_ws g1 (fun n hn => hwj 1 n (DataW.weights_mem_each (j := 1) rfl rfl n hn))
        obtain ⟨lf, hr2⟩ := bytes_ws g2 (fun n hn => hwj 2 n (DataW.weights_mem_each (j := 2) rfl rfl n hn))
        refine ⟨⟨n0, lp, lf, l3, z4⟩, u, f, fun i hi => ?_, ⟨hn0, b3, w4', hr, hr2⟩⟩
        have e0 := hc i hi
        rw [Deep.add_add] at e0
        rw [e0]
        have hcs : cs = acs ⟨n0, lp, lf, l3, z4⟩ u f := by
          rw [split20 cs hcl, q0, hu, hf2, q3, q4]; rfl
        rw [hcs]
    have key2 : ∀ j, j < len → ∃ q : AS × Value × Value, (∀ i, i < 20 → W.cell? (a.add (j * 20 + i)) = (acs q.1 q.2.1 q.2.2)[i]?) ∧ ActOk W q.1 q.2.1 q.2.2 := fun j hj => by
      obtain ⟨x, u, f, h⟩ := key j hj; exact ⟨(x, u, f), h⟩
    haveI : Inhabited AS := ⟨⟨0, [], [], [], 0⟩⟩
    haveI : Inhabited Value := ⟨.bool false⟩
    obtain ⟨f, hfk⟩ := Deep.choose_lt key2
    have hL : ((List.range len).map fun j => (f j).1).length = len := by simp
    refine ⟨(List.range len).map fun j => (f j).1, by rw [hL]; have := reachBytes_lt; omega, some a, cap, by rw [hL], fun j x hx => ?_⟩
    have hj : j < len := by have := (List.getElem?_eq_some_iff.1 hx).1; rwa [hL] at this
    rw [List.getElem?_map, List.getElem?_range hj] at hx
    obtain rfl := Option.some.inj hx
    obtain ⟨b, off, spot⟩ := a
    have hspot : spot = none := by
      have h0 := (hfk 0 (by omega)).1 0 (by omega)
      have h1 : (acs (f 0).1 (f 0).2.1 (f 0).2.2)[0]? = some (.int .u8 ((f 0).1.kind : Int)) := rfl
      rw [h1] at h0
      simpa [Addr.add] using World.cell?_spot h0
    subst hspot
    obtain ⟨h1, h2⟩ := hfk j hj
    refine ⟨b, off, (f j).2.1, (f j).2.2, rfl, fun i v hv => ?_, h2⟩
    have hi : i < 20 := by
      rcases Nat.lt_or_ge i 20 with q | q
      · exact q
      · rw [List.getElem?_eq_none (by rw [acs_len h2]; exact q)] at hv; cases hv
    have := h1 i hi
    rw [Addr.add_lit] at this
    rw [Nat.add_assoc, this]; exact hv
end Go.Proofs.YtbepchikngoknaaDoor

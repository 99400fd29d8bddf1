/- SlotsPlays' own do: a call on both sides: contract. Written by gen_sldo.py. Own work. -/
import Derived.Test.YtbepchikngoknaaDoorSlTurns
import Derived.Test.YtbepchikngoknaaDoorSlZ
import Derived.Test.YtbepchikngoknaaDoorFactX
import Derived.Test.YtbepchikngoknaaDoorLoadWanted
namespace Go.Proofs.YtbepchikngoknaaDoor
open Go.ChangeShapes Go.WideShapes Go.ChangeAt Go.RowKit
open SM AM WM SL
theorem infoAct : (Tryd.prog.info? 56).map (·.size) = some 20 := by kernel_rfl
/-- Results that are two rows of cells, out of the variables in which they stand, and two slots. -/
theorem results_mid4 {P : Program} {fn : Func} {p q t u : Tmp} {ty ty2 : TypeId} (h : fn.results = #[.cell p ty, .cell q ty2, .tmp t, .tmp u]) (tmps : Array Value) (w : World) (b b2 : Nat) (cs cs2 : List Value) (d d2 : TypeDesc)
    (hp : tmps.getD p undef = .pointer (some ⟨b, 0, none⟩)) (hr : w.rangeAt b 0 cs) (hu : P.underlying ty = some d) (hd : d.isRow = true) (hi : (P.info? ty).map (·.size) = some cs.length)
    (hp2 : tmps.getD q undef = .pointer (some ⟨b2, 0, none⟩)) (hr2 : w.rangeAt b2 0 cs2) (hu2 : P.underlying ty2 = some d2) (hd2 : d2.isRow = true) (hi2 : (P.info? ty2).map (·.size) = some cs2.length) :
    (results fn tmps).run P w = .ok (.tuple #[.agg cs.toArray, .agg cs2.toArray, tmps.getD t undef, tmps.getD u undef]) w := by
  have hp' : tmps[p]?.getD undef = .pointer (some ⟨b, 0, none⟩) := by simpa using hp
  have hq' : tmps[q]?.getD undef = .pointer (some ⟨b2, 0, none⟩) := by simpa using hp2
  simp [results, h, hp', hq', asAddr, run_loadVar_mid w b 0 ty cs d hr hu hd hi, run_loadVar_mid w b2 0 ty2 cs2 d2 hr2 hu2 hd2 hi2]
/-- The variables of a call on both sides. -/
structure DS (W : World) (L C M R4 R5 X Y : List Value) (w : World) : Prop where
  b0 : Blk w W.heap.size 30 L
  b1 : Blk w (W.heap.size + 1) 34 L
  b2 : Blk w (W.heap.size + 2) 56 C
  b3 : Blk w (W.heap.size + 3) 25 M
  b4 : Blk w (W.heap.size + 4) 30 R4
  b5 : Blk w (W.heap.size + 5) 34 R5
  b6 : Blk w (W.heap.size + 6) 30 X
  b7 : Blk w (W.heap.size + 7) 34 Y
  bel : Below W.heap.size W w
section
variable {W w w' : World} {L C M R4 R5 X Y N : List Value}
theorem DS.below (h : DS W L C M R4 R5 X Y w) (k : Below w.heap.size w w') : DS W L C M R4 R5 X Y w' := ⟨h.b0.below k h.b0.lt, h.b1.below k h.b1.lt, h.b2.below k h.b2.lt, h.b3.below k h.b3.lt, h.b4.below k h.b4.lt, h.b5.below k h.b5.lt, h.b6.below k h.b6.lt, h.b7.below k h.b7.lt, h.bel.on k⟩
theorem DS.set4 (h : DS W L C M R4 R5 X Y w) (o : Blk w' (W.heap.size + 4) 30 N) (g : w.grownBy w' (some (W.heap.size + 4))) : DS W L C M N R5 X Y w' := ⟨h.b0.grown g (fun e => by have := Option.some.inj e; omega), h.b1.grown g (fun e => by have := Option.some.inj e; omega), h.b2.grown g (fun e => by have := Option.some.inj e; omega), h.b3.grown g (fun e => by have := Option.some.inj e; omega), o, h.b5.grown g (fun e => by have := Option.some.inj e; omega), h.b6.grown g (fun e => by have := Option.some.inj e; omega), h.b7.grown g (fun e => by have := Option.some.inj e; omega), h.bel.grown g h.bel.size (fun g hg => by have := Option.some.inj hg; omega)⟩
theorem DS.set5 (h : DS W L C M R4 R5 X Y w) (o : Blk w' (W.heap.size + 5) 34 N) (g : w.grownBy w' (some (W.heap.size + 5))) : DS W L C M R4 N X Y w' := ⟨h.b0.grown g (fun e => by have := Option.some.inj e; omega), h.b1.grown g (fun e => by have := Option.some.inj e; omega), h.b2.grown g (fun e => by have := Option.some.inj e; omega), h.b3.grown g (fun e => by have := Option.some.inj e; omega), h.b4.grown g (fun e => by have := Option.some.inj e; omega), o, h.b6.grown g (fun e => by have := Option.some.inj e; omega), h.b7.grown g (fun e => by have := Option.some.inj e; omega), h.bel.grown g h.bel.size (fun g hg => by have := Option.some.inj hg; omega)⟩
theorem DS.set6 (h : DS W L C M R4 R5 X Y w) (o : Blk w' (W.heap.size + 6) 30 N) (g : w.grownBy w' (some (W.heap.size + 6))) : DS W L C M R4 R5 N Y w' := ⟨h.b0.grown g (fun e => by have := Option.some.inj e; omega), h.b1.grown g (fun e => by have := Option.some.inj e; omega), h.b2.grown g (fun e => by have := Option.some.inj e; omega), h.b3.grown g (fun e => by have := Option.some.inj e; omega), h.b4.grown g (fun e => by have := Option.some.inj e; omega), h.b5.grown g (fun e => by have := Option.some.inj e; omega), o, h.b7.grown g (fun e => by have := Option.some.inj e; omega), h.bel.grown g h.bel.size (fun g hg => by have := Option.some.inj hg; omega)⟩
theorem DS.set7 (h : DS W L C M R4 R5 X Y w) (o : Blk w' (W.heap.size + 7) 34 N) (g : w.grownBy w' (some (W.heap.size + 7))) : DS W L C M R4 R5 X N w' := ⟨h.b0.grown g (fun e => by have := Option.some.inj e; omega), h.b1.grown g (fun e => by have := Option.some.inj e; omega), h.b2.grown g (fun e => by have := Option.some.inj e; omega), h.b3.grown g (fun e => by have := Option.some.inj e; omega), h.b4.grown g (fun e => by have := Option.some.inj e; omega), h.b5.grown g (fun e => by have := Option.some.inj e; omega), h.b6.grown g (fun e => by have := Option.some.inj e; omega), o, h.bel.grown g h.bel.size (fun g hg => by have := Option.some.inj hg; omega)⟩
end
def GD (n : Nat) (P P' : World → Prop) (k : Nat) (_ : Told) (w : World) : Prop := if k < n then P w else P' w
def GE (P P1 P2 : World → Prop) (k : Nat) (_ : Told) (w : World) : Prop := if k = 0 then P w else if k = 1 then P1 w else P2 w
set_option maxRecDepth 100000 in
set_option maxHeartbeats 8000000 in
theorem do_any (T : List Slot) (hT : Tok T) (x : AS) (u f : Value) (m : List Nat) (hm : Bytes 32 m) (w : World) (hx : ActOk w x u f) (tx : TabX w) (tk : Tab w) (ta : TabA w) (tp : TabP w) :
    Calls Tryd.prog 21 #[.agg (tbc T).toArray, .agg (tbc T).toArray, .agg (acs x u f).toArray, .agg (row8 m).toArray] w fun e w' => e = .returned (.tuple #[.agg (tbc (nxt T x m)).toArray, .agg (tbc (nxt T x m)).toArray, .int .i64 (stepE T x), .bool true]) ∧ Below w.heap.size w w' := by
  obtain ⟨ua, uc, rfl, _⟩ := hx.pass.shape
  obtain ⟨fa, fc, rfl, _⟩ := hx.fresh.shape
  obtain ⟨pl, hpl⟩ : ∃ n, n = x.pass.length := ⟨_, rfl⟩
  obtain ⟨fl, hfl⟩ : ∃ n, n = x.fresh.length := ⟨_, rfl⟩
  have hXok := stepT_ok hT x hx.salt hm
  obtain ⟨L, hL⟩ : ∃ L, L = tbc T := ⟨_, rfl⟩
  obtain ⟨C, hC⟩ : ∃ C, C = acs x (.slice ua x.pass.length uc) (.slice fa x.fresh.length fc) := ⟨_, rfl⟩
  obtain ⟨M, hM⟩ : ∃ M, M = row8 m := ⟨_, rfl⟩
  obtain ⟨Z0, hZ0⟩ : ∃ D, D = tbc zero := ⟨_, rfl⟩
  obtain ⟨X, hX⟩ : ∃ X, X = tbc (stepT T x m) := ⟨_, rfl⟩
  obtain ⟨E, hE⟩ : ∃ E, E = stepE T x := ⟨_, rfl⟩
  obtain ⟨K, hK⟩ : ∃ K, K = few x.turns := ⟨_, rfl⟩
  have hz : ∀ w, (zeroValue 30).run Tryd.prog w = .ok (.agg Z0.toArray) w := by rw [hZ0]; exact zeroTb
  have hz2 : ∀ w, (zeroValue 34).run Tryd.prog w = .ok (.agg Z0.toArray) w := by rw [hZ0]; exact zeroTr
  have hz656 : Z0.length = 656 := by rw [hZ0]; exact tbc_len zero_ok
  have L656 := Lib.hid (show L.length = 656 by rw [hL]; exact tbc_len hT)
  have X656 := Lib.hid (show X.length = 656 by rw [hX]; exact tbc_len hXok)
  have XONE := Lib.hid (show X.toArray.all (·.oneCell') = true by rw [hX]; exact tbc_all _)
  have LONE := Lib.hid (show L.toArray.all (·.oneCell') = true by rw [hL]; exact tbc_all _)
  have C20 := Lib.hid (show C.length = 20 by rw [hC]; exact acs_len hx)
  have M32 := Lib.hid (show M.length = 32 by rw [hM, row8_len]; exact hm.1)
  have SA16 := Lib.hid (show (row8 x.salt).length = 16 by rw [row8_len]; exact hx.salt.1)
  have hxx := fun w => run_eql_table 34 Tryd.underlying34 hXok hXok w
  simp only [decide_true] at hxx
  rw [← hX] at hxx
  obtain ⟨w8, hw8⟩ : ∃ x, x = ((((((((w.alloc (.cells L.toArray 30)).alloc (.cells L.toArray 34)).alloc (.cells C.toArray 56)).alloc (.cells M.toArray 25)).alloc (.cells Z0.toArray 30)).alloc (.cells Z0.toArray 34)).alloc (.cells Z0.toArray 30)).alloc (.cells Z0.toArray 34)) := ⟨_, rfl⟩
  have HD0 := Lib.hid (show DS w L C M Z0 Z0 Z0 Z0 w8 by rw [hw8]; exact ⟨((((((((Blk.new w 30 L w.heap.size (by simp)).alloc _).alloc _).alloc _).alloc _).alloc _).alloc _).alloc _), (((((((Blk.new (w.alloc (.cells L.toArray 30)) 34 L (w.heap.size + 1) (by simp)).alloc _).alloc _).alloc _).alloc _).alloc _).alloc _), ((((((Blk.new ((w.alloc (.cells L.toArray 30)).alloc (.cells L.toArray 34)) 56 C (w.heap.size + 2) (by simp)).alloc _).alloc _).alloc _).alloc _).alloc _), (((((Blk.new (((w.alloc (.cells L.toArray 30)).alloc (.cells L.toArray 34)).alloc (.cells C.toArray 56)) 25 M (w.heap.size + 3) (by simp)).alloc _).alloc _).alloc _).alloc _), ((((Blk.new ((((w.alloc (.cells L.toArray 30)).alloc (.cells L.toArray 34)).alloc (.cells C.toArray 56)).alloc (.cells M.toArray 25)) 30 Z0 (w.heap.size + 4) (by simp)).alloc _).alloc _).alloc _), (((Blk.new (((((w.alloc (.cells L.toArray 30)).alloc (.cells L.toArray 34)).alloc (.cells C.toArray 56)).alloc (.cells M.toArray 25)).alloc (.cells Z0.toArray 30)) 34 Z0 (w.heap.size + 5) (by simp)).alloc _).alloc _), ((Blk.new ((((((w.alloc (.cells L.toArray 30)).alloc (.cells L.toArray 34)).alloc (.cells C.toArray 56)).alloc (.cells M.toArray 25)).alloc (.cells Z0.toArray 30)).alloc (.cells Z0.toArray 34)) 30 Z0 (w.heap.size + 6) (by simp)).alloc _), (Blk.new (((((((w.alloc (.cells L.toArray 30)).alloc (.cells L.toArray 34)).alloc (.cells C.toArray 56)).alloc (.cells M.toArray 25)).alloc (.cells Z0.toArray 30)).alloc (.cells Z0.toArray 34)).alloc (.cells Z0.toArray 30)) 34 Z0 (w.heap.size + 7) (by simp)), (((((((((((((((((Below.refl w.heap.size w)).alloc (by simp; try omega) _)).alloc (by simp; try omega) _)).alloc (by simp; try omega) _)).alloc (by simp; try omega) _)).alloc (by simp; try omega) _)).alloc (by simp; try omega) _)).alloc (by simp; try omega) _)).alloc (by simp; try omega) _)⟩)
  have HW8 := Lib.hid hw8
  have HC0 := Lib.hid (fun W (h : Blk W (w.heap.size + 2) 56 C) => (show W.cell? ⟨w.heap.size + 2, 0, none⟩ = some (.int .u8 (x.kind : Int)) from h.cell 0 _ (by rw [hC]; rfl)))
  have HC1 := Lib.hid (fun W (h : Blk W (w.heap.size + 2) 56 C) => (show W.cell? ⟨w.heap.size + 2, 1, none⟩ = some (.slice ua pl uc) from h.cell 1 _ (by rw [hC, hpl]; rfl)))
  have HSA := Lib.hid (fun W (h : Blk W (w.heap.size + 2) 56 C) => (show W.rangeAt (w.heap.size + 2) 3 (row8 x.salt) by rw [hC] at h; exact range_part h 3 _ (acs_salt _ _)))
  have HTU := Lib.hid (fun W (h : DS w L C M Z0 Z0 Z0 Z0 W) => (show Calls Tryd.prog 40 #[.agg C.toArray] W fun e w' => e = .returned (.int .i64 K) ∧ DS w L C M Z0 Z0 Z0 Z0 w' by
    have h0 := turns_any x (.slice ua x.pass.length uc) (.slice fa x.fresh.length fc) W hx.salt
    rw [← hC, ← hK] at h0
    exact h0.mono fun e w' ⟨h1, h2⟩ => ⟨h1, h.below h2⟩))
  have HTV := Lib.hid (fun W (h : DS w L C M Z0 Z0 X Z0 W) => (show Calls Tryd.prog 40 #[.agg C.toArray] W fun e w' => e = .returned (.int .i64 K) ∧ DS w L C M Z0 Z0 X Z0 w' by
    have h0 := turns_any x (.slice ua x.pass.length uc) (.slice fa x.fresh.length fc) W hx.salt
    rw [← hC, ← hK] at h0
    exact h0.mono fun e w' ⟨h1, h2⟩ => ⟨h1, h.below h2⟩))
  have HCE := Lib.hid (show C = acs x (.slice ua pl uc) (.slice fa fl fc) by rw [hC, hpl, hfl])
  have hres : (Ending.returned (.tuple #[.agg (tbc (nxt T x m)).toArray, .agg (tbc (nxt T x m)).toArray, .int .i64 (stepE T x), .bool true]) : Ending) = if E = 0 then .returned (.tuple #[.agg X.toArray, .agg X.toArray, .int .i64 0, .bool true]) else .returned (.tuple #[.agg L.toArray, .agg L.toArray, .int .i64 E, .bool true]) := by
    unfold nxt
    rw [← hE]
    by_cases h : E = 0
    · rw [if_pos h, if_pos h, ← hX, h]
    · rw [if_neg h, if_neg h, ← hL]
  have hkl := hx.kind
  have HPASS := Lib.hid hx.pass
  have HFRESH := Lib.hid hx.fresh
  have HSALT := Lib.hid hx.salt
  have HT := Lib.hid hT
  have HM := Lib.hid hm
  have HTX := Lib.hid tx
  have HTK := Lib.hid tk
  have HTA := Lib.hid ta
  have HTP := Lib.hid tp
  rw [← hpl] at HPASS
  rw [← hfl] at HFRESH
  rw [hres, ← hL, ← hM]
  rw [show (Value.agg (acs x (.slice ua x.pass.length uc) (.slice fa x.fresh.length fc)).toArray) = .agg C.toArray by rw [hC]]
  have HLE := Lib.hid hL
  have HME := Lib.hid hM
  have HXE := Lib.hid hX
  have HEE := Lib.hid hE
  have HKE := Lib.hid hK
  clear hres hL hC hM hZ0 hX hE hK hpl hfl hx hT hm tx tk ta tp hXok hw8
  by_cases hk2 : x.kind % 4 = 2
  · have hkI : (x.kind : Int) % 4 = 2 := by omega
    have HPG := Lib.hid (fun W (h : DS w L C M Z0 Z0 Z0 Z0 W) => (show Calls Tryd.prog 25 #[.agg L.toArray, .slice ua pl uc] W fun e w' => e = .returned (.tuple #[.agg X.toArray, .int .i64 E]) ∧ DS w L C M Z0 Z0 Z0 Z0 w' by
      have h2 := sremove_any T HT.out x.pass _ W (HPASS.out.below h.bel) (HTX.out.below h.bel) (HTP.out.below h.bel)
      have e1 : tbc (remove T x.pass) = X := by rw [HXE.out]; unfold stepT; rw [if_pos hk2]
      have e2 : rerr T x.pass = E := by rw [HEE.out]; unfold stepE; rw [if_pos hk2]
      rw [e1, e2, ← HLE.out] at h2
      exact h2.mono fun e w' ⟨h3, h4⟩ => ⟨h3, h.below h4⟩))
    have HRF := Lib.hid (fun W (h : DS w L C M Z0 Z0 X Z0 W) => (show Calls Tryd.prog 39 #[.agg L.toArray, .slice ua pl uc] W fun e w' => e = .returned (.tuple #[.agg X.toArray, .int .i64 E]) ∧ DS w L C M Z0 Z0 X Z0 w' by
      have h2 := rremove_any T HT.out x.pass _ W (HPASS.out.below h.bel) (HTA.out.below h.bel) (HTK.out.below h.bel)
      have e1 : tbc (remove T x.pass) = X := by rw [HXE.out]; unfold stepT; rw [if_pos hk2]
      have e2 : rerr T x.pass = E := by rw [HEE.out]; unfold stepE; rw [if_pos hk2]
      rw [e1, e2, ← HLE.out] at h2
      exact h2.mono fun e w' ⟨h3, h4⟩ => ⟨h3, h.below h4⟩))
    clear hk2
    by_cases he : E = 0
    · skip
      go_enter Tryd.func21, Tryd.ntmps21
      go_upto_region 4 with fail
      rw [← HW8.out]
      clear HW8
      have c0 := HC0.out _ HD0.out.b2
      have c1 := HC1.out _ HD0.out.b2
      go_upto_region 8 with fail
      go_upto_region 9 with ((fail_if_success (with_reducible show bodyPost _ _ _ _ _ _)); first
        | (refine wpList_load_mid rfl 30 (.tmp 4) rfl w.heap.size 0 rfl L _ HD0.out.b0.range Tryd.underlying30 rfl (by rw [L656.out]; exact infoTb) ?_)
        | (go_at_call 25; (with_reducible refine (HPG.out _ HD0.out).mono ?_); rintro e w1 ⟨rfl, hd⟩; have HD1 := Lib.hid hd; clear hd)
        | (refine wpList_store_blk rfl 30 (.tmp 12) (.tmp 51) rfl (w.heap.size + 6) 0 X rfl rfl 30 Z0 HD1.out.b6 (by rw [X656.out, hz656]; exact Nat.le_refl _) (by rw [X656.out]; exact infoTb) XONE.out ?_; intro w2 b g; rw [splice_all _ _ (by rw [X656.out, hz656])] at b; have HD2 := Lib.hid (HD1.out.set6 b g); clear b g))
      have c2 := HC1.out _ HD2.out.b2
      go_upto_region 13 with ((fail_if_success (with_reducible show bodyPost _ _ _ _ _ _)); first
        | (refine wpList_load_mid rfl 34 (.tmp 5) rfl (w.heap.size + 1) 0 rfl L _ HD2.out.b1.range Tryd.underlying34 rfl (by rw [L656.out]; exact infoTr) ?_)
        | (go_at_call 39; (with_reducible refine (HRF.out _ HD2.out).mono ?_); rintro e w3 ⟨rfl, hd⟩; have HD3 := Lib.hid hd; clear hd)
        | (refine wpList_store_blk rfl 34 (.tmp 13) (.tmp 58) rfl (w.heap.size + 7) 0 X rfl rfl 34 Z0 HD3.out.b7 (by rw [X656.out, hz656]; exact Nat.le_refl _) (by rw [X656.out]; exact infoTr) XONE.out ?_; intro w4 b g; rw [splice_all _ _ (by rw [X656.out, hz656])] at b; have HD := Lib.hid (HD3.out.set7 b g); clear b g))
      go_upto_region 16 with ((fail_if_success (with_reducible show bodyPost _ _ _ _ _ _)); first
        | (refine wpList_load_mid rfl 30 (.tmp 12) rfl (w.heap.size + 6) 0 rfl X _ HD.out.b6.range Tryd.underlying30 rfl (by rw [X656.out]; exact infoTb) ?_)
        | (refine wpList_load_mid rfl 34 (.tmp 13) rfl (w.heap.size + 7) 0 rfl X _ HD.out.b7.range Tryd.underlying34 rfl (by rw [X656.out]; exact infoTr) ?_)
        | (refine wpList_bin rfl (b := .eql) (t := 34) (x := .tmp 88) (y := .tmp 89) rfl (.bool true) rfl rfl (run_eqGuard_agg _ _ _ _ _ _ _ eqTypeTr) (hxx _) ?_))
      refine wp_region_z (by kernel_rfl) [3, 4] (by kernel_rfl) (by kernel_rfl) (Stg [3, 4] (GE (DS w L C M Z0 Z0 X X) (DS w L C M X Z0 X X) (DS w L C M X X X X))) [.pre (.agg X.toArray), .pre (.agg X.toArray), .pre (.bool true), .any, .any, .pre (.int .i64 0), .pre (.bool true)] (fun i hi hq => by
          simp only [List.mem_cons, List.mem_nil_iff, or_false] at hi
          rcases hi with rfl | rfl
          · rfl
          · rfl) (Stg.zero (show DS w L C M Z0 Z0 X X _ from (HD.out.below (Below.refl _ _).drew))) ?_ ?_
      · refine ⟨?_, ?_, ?_, ?_, ?_, ?_, ?_, trivial⟩
        · intro a w5 r hF hI hns hri h1 h2 hd
          have e12 : a.eval (.tmp 12) = .pointer (some ⟨(w.heap.size + 6), 0, none⟩) := hF 12 (by decide +kernel)
          obtain ⟨k, hk1, hk2, hA⟩ : ∃ k, 0 ≤ k ∧ k ≤ 0 ∧ GE (DS w L C M Z0 Z0 X X) (DS w L C M X Z0 X X) (DS w L C M X X X X) k r w5 := hI.between 0 0 (.inl rfl) (.inr ⟨by decide, h1 3 (by decide) (by decide +kernel)⟩)
          obtain rfl : k = 0 := by omega
          have hA : DS w L C M Z0 Z0 X X w5 := hA
          have hrr := hA.b6.range
          exact doesZ_ld (by decide) rfl 30 (.tmp 12) rfl (w.heap.size + 6) 0 e12 X hrr _ Tryd.underlying30 rfl (by rw [X656.out]; exact infoTb) hI rfl
        · intro a w5 r hF hI hns hri h1 h2 hd
          have e13 : a.eval (.tmp 13) = .pointer (some ⟨(w.heap.size + 7), 0, none⟩) := hF 13 (by decide +kernel)
          obtain ⟨k, hk1, hk2, hA⟩ : ∃ k, 0 ≤ k ∧ k ≤ 1 ∧ GE (DS w L C M Z0 Z0 X X) (DS w L C M X Z0 X X) (DS w L C M X X X X) k r w5 := hI.between 0 1 (.inl rfl) (.inr ⟨by decide, h1 4 (by decide) (by decide +kernel)⟩)
          have hrr : w5.rangeAt (w.heap.size + 7) 0 X := by
            rcases (show k = 0 ∨ k = 1 by omega) with rfl | rfl
            · exact (show DS w L C M Z0 Z0 X X w5 from hA).b7.range
            · exact (show DS w L C M X Z0 X X w5 from hA).b7.range
          exact doesZ_ld (by decide) rfl 34 (.tmp 13) rfl (w.heap.size + 7) 0 e13 X hrr _ Tryd.underlying34 rfl (by rw [X656.out]; exact infoTr) hI rfl
        · intro a w5 r hF hI hns hri h1 h2 hd
          have e16 : a.eval (.tmp 16) = .bool true := hF 16 (by decide +kernel)
          exact doesZ_read (v := .bool true) (by decide) rfl (ex_move rfl e16) hI rfl
        · intro a w5 r hF hI hns hri h1 h2 hd
          have e8 : a.eval (.tmp 8) = .pointer (some ⟨(w.heap.size + 4), 0, none⟩) := hF 8 (by decide +kernel)
          have e102 : a.eval (.tmp 102) = .agg X.toArray := hd 0 (by decide +kernel)
          have hA : GE (DS w L C M Z0 Z0 X X) (DS w L C M X Z0 X X) (DS w L C M X X X X) 0 r w5 := hI.at_ 0 (.inl rfl) (.inr ⟨by decide, hri⟩)
          have hA : DS w L C M Z0 Z0 X X w5 := hA
          exact doesZ_put (by decide) rfl 30 (.tmp 8) (.tmp 102) rfl (w.heap.size + 4) 0 X e8 e102 30 Z0 hA.b4 (by rw [X656.out, hz656]; exact Nat.le_refl _) (by rw [X656.out]; exact infoTb) XONE.out rfl (fun w' o' g' => hI.next 0 3 _ rfl (by decide) (.inl rfl) hri (by decide) (show DS w L C M X Z0 X X w' from hA.set4 (by rw [splice_all _ _ (by rw [X656.out, hz656])] at o'; exact o') g'))
        · intro a w5 r hF hI hns hri h1 h2 hd
          have e9 : a.eval (.tmp 9) = .pointer (some ⟨(w.heap.size + 5), 0, none⟩) := hF 9 (by decide +kernel)
          have e103 : a.eval (.tmp 103) = .agg X.toArray := hd 1 (by decide +kernel)
          have hA : GE (DS w L C M Z0 Z0 X X) (DS w L C M X Z0 X X) (DS w L C M X X X X) 1 r w5 := hI.at_ 1 (.inr ⟨by decide, h2 3 (by decide) (by decide +kernel)⟩) (.inr ⟨by decide, hri⟩)
          have hA : DS w L C M X Z0 X X w5 := hA
          exact doesZ_put (by decide) rfl 34 (.tmp 9) (.tmp 103) rfl (w.heap.size + 5) 0 X e9 e103 34 Z0 hA.b5 (by rw [X656.out, hz656]; exact Nat.le_refl _) (by rw [X656.out]; exact infoTr) XONE.out rfl (fun w' o' g' => hI.next 1 4 _ rfl (by decide) (.inr ⟨by decide, h2 3 (by decide) (by decide +kernel)⟩) hri (by decide) (show DS w L C M X X X X w' from hA.set5 (by rw [splice_all _ _ (by rw [X656.out, hz656])] at o'; exact o') g'))
        · intro a w5 r hF hI hns hri h1 h2 hd
          exact doesZ_read (v := .int .i64 0) (by decide) rfl (ex_assign rfl rfl) hI rfl
        · intro a w5 r hF hI hns hri h1 h2 hd
          have e104 : a.eval (.tmp 104) = .bool true := hd 2 (by decide +kernel)
          exact doesZ_read (v := .bool true) (by decide) rfl (ex_assign rfl e104) hI rfl
      · intro vs r w9 hI hS hvs
        have hz9 : DS w L C M X X X X w9 := hI.at_ 2 (.inr ⟨by decide, hS 4 (by decide)⟩) (.inl rfl)
        have e1 : vs 5 = .int .i64 0 := hvs 5 (by decide)
        have e2 : vs 6 = .bool true := hvs 6 (by decide)
        have HE := Lib.hid hz9
        clear hI hS hvs hz9
        simp only [putOps, Act.put, List.setIfInBounds_toArray, List.set_cons_zero, List.set_cons_succ, e1, e2]
        go_wp2_with fail
        exact bodyPost_ret (results_mid4 rfl _ _ (w.heap.size + 4) (w.heap.size + 5) X X _ _ rfl HE.out.b4.range Tryd.underlying30 rfl (by rw [X656.out]; exact infoTb) rfl HE.out.b5.range Tryd.underlying34 rfl (by rw [X656.out]; exact infoTr)) rfl ⟨Eq.trans (b := Ending.returned (.tuple #[.agg X.toArray, .agg X.toArray, .int .i64 0, .bool true])) rfl rfl, HE.out.bel⟩
    · skip
      go_enter Tryd.func21, Tryd.ntmps21
      go_upto_region 4 with fail
      rw [← HW8.out]
      clear HW8
      have c0 := HC0.out _ HD0.out.b2
      have c1 := HC1.out _ HD0.out.b2
      go_upto_region 8 with fail
      go_upto_region 9 with ((fail_if_success (with_reducible show bodyPost _ _ _ _ _ _)); first
        | (refine wpList_load_mid rfl 30 (.tmp 4) rfl w.heap.size 0 rfl L _ HD0.out.b0.range Tryd.underlying30 rfl (by rw [L656.out]; exact infoTb) ?_)
        | (go_at_call 25; (with_reducible refine (HPG.out _ HD0.out).mono ?_); rintro e w1 ⟨rfl, hd⟩; have HD1 := Lib.hid hd; clear hd)
        | (refine wpList_store_blk rfl 30 (.tmp 12) (.tmp 51) rfl (w.heap.size + 6) 0 X rfl rfl 30 Z0 HD1.out.b6 (by rw [X656.out, hz656]; exact Nat.le_refl _) (by rw [X656.out]; exact infoTb) XONE.out ?_; intro w2 b g; rw [splice_all _ _ (by rw [X656.out, hz656])] at b; have HD2 := Lib.hid (HD1.out.set6 b g); clear b g))
      have c2 := HC1.out _ HD2.out.b2
      go_upto_region 13 with ((fail_if_success (with_reducible show bodyPost _ _ _ _ _ _)); first
        | (refine wpList_load_mid rfl 34 (.tmp 5) rfl (w.heap.size + 1) 0 rfl L _ HD2.out.b1.range Tryd.underlying34 rfl (by rw [L656.out]; exact infoTr) ?_)
        | (go_at_call 39; (with_reducible refine (HRF.out _ HD2.out).mono ?_); rintro e w3 ⟨rfl, hd⟩; have HD3 := Lib.hid hd; clear hd)
        | (refine wpList_store_blk rfl 34 (.tmp 13) (.tmp 58) rfl (w.heap.size + 7) 0 X rfl rfl 34 Z0 HD3.out.b7 (by rw [X656.out, hz656]; exact Nat.le_refl _) (by rw [X656.out]; exact infoTr) XONE.out ?_; intro w4 b g; rw [splice_all _ _ (by rw [X656.out, hz656])] at b; have HD := Lib.hid (HD3.out.set7 b g); clear b g))
      go_upto_region 15 with ((fail_if_success (with_reducible show bodyPost _ _ _ _ _ _)); first
        | (refine wpList_load_mid rfl 30 (.tmp 12) rfl (w.heap.size + 6) 0 rfl X _ HD.out.b6.range Tryd.underlying30 rfl (by rw [X656.out]; exact infoTb) ?_)
        | (refine wpList_load_mid rfl 34 (.tmp 13) rfl (w.heap.size + 7) 0 rfl X _ HD.out.b7.range Tryd.underlying34 rfl (by rw [X656.out]; exact infoTr) ?_)
        | (refine wpList_bin rfl (b := .eql) (t := 34) (x := .tmp 88) (y := .tmp 89) rfl (.bool true) rfl rfl (run_eqGuard_agg _ _ _ _ _ _ _ eqTypeTr) (hxx _) ?_))
      refine wp_region_z (by kernel_rfl) [4, 5] (by kernel_rfl) (by kernel_rfl) (Stg [4, 5] (GE (DS w L C M Z0 Z0 X X) (DS w L C M L Z0 X X) (DS w L C M L L X X))) [.pre (.agg L.toArray), .pre (.agg L.toArray), .pre (.int .i64 E), .pre (.bool true), .any, .any, .pre (.int .i64 E), .pre (.bool true)] (fun i hi hq => by
          simp only [List.mem_cons, List.mem_nil_iff, or_false] at hi
          rcases hi with rfl | rfl
          · rfl
          · rfl) (Stg.zero (show DS w L C M Z0 Z0 X X _ from (HD.out.below (Below.refl _ _).drew))) ?_ ?_
      · refine ⟨?_, ?_, ?_, ?_, ?_, ?_, ?_, ?_, trivial⟩
        · intro a w5 r hF hI hns hri h1 h2 hd
          have e4 : a.eval (.tmp 4) = .pointer (some ⟨w.heap.size, 0, none⟩) := hF 4 (by decide +kernel)
          obtain ⟨k, hk1, hk2, hA⟩ : ∃ k, 0 ≤ k ∧ k ≤ 0 ∧ GE (DS w L C M Z0 Z0 X X) (DS w L C M L Z0 X X) (DS w L C M L L X X) k r w5 := hI.between 0 0 (.inl rfl) (.inr ⟨by decide, h1 4 (by decide) (by decide +kernel)⟩)
          obtain rfl : k = 0 := by omega
          have hA : DS w L C M Z0 Z0 X X w5 := hA
          have hrr := hA.b0.range
          exact doesZ_ld (by decide) rfl 30 (.tmp 4) rfl w.heap.size 0 e4 L hrr _ Tryd.underlying30 rfl (by rw [L656.out]; exact infoTb) hI rfl
        · intro a w5 r hF hI hns hri h1 h2 hd
          have e5 : a.eval (.tmp 5) = .pointer (some ⟨(w.heap.size + 1), 0, none⟩) := hF 5 (by decide +kernel)
          obtain ⟨k, hk1, hk2, hA⟩ : ∃ k, 0 ≤ k ∧ k ≤ 1 ∧ GE (DS w L C M Z0 Z0 X X) (DS w L C M L Z0 X X) (DS w L C M L L X X) k r w5 := hI.between 0 1 (.inl rfl) (.inr ⟨by decide, h1 5 (by decide) (by decide +kernel)⟩)
          have hrr : w5.rangeAt (w.heap.size + 1) 0 L := by
            rcases (show k = 0 ∨ k = 1 by omega) with rfl | rfl
            · exact (show DS w L C M Z0 Z0 X X w5 from hA).b1.range
            · exact (show DS w L C M L Z0 X X w5 from hA).b1.range
          exact doesZ_ld (by decide) rfl 34 (.tmp 5) rfl (w.heap.size + 1) 0 e5 L hrr _ Tryd.underlying34 rfl (by rw [L656.out]; exact infoTr) hI rfl
        · intro a w5 r hF hI hns hri h1 h2 hd
          have e15 : a.eval (.tmp 15) = .int .i64 E := hF 15 (by decide +kernel)
          exact doesZ_read (v := .int .i64 E) (by decide) rfl (ex_move rfl e15) hI rfl
        · intro a w5 r hF hI hns hri h1 h2 hd
          have e16 : a.eval (.tmp 16) = .bool true := hF 16 (by decide +kernel)
          exact doesZ_read (v := .bool true) (by decide) rfl (ex_move rfl e16) hI rfl
        · intro a w5 r hF hI hns hri h1 h2 hd
          have e8 : a.eval (.tmp 8) = .pointer (some ⟨(w.heap.size + 4), 0, none⟩) := hF 8 (by decide +kernel)
          have e98 : a.eval (.tmp 98) = .agg L.toArray := hd 0 (by decide +kernel)
          have hA : GE (DS w L C M Z0 Z0 X X) (DS w L C M L Z0 X X) (DS w L C M L L X X) 0 r w5 := hI.at_ 0 (.inl rfl) (.inr ⟨by decide, hri⟩)
          have hA : DS w L C M Z0 Z0 X X w5 := hA
          exact doesZ_put (by decide) rfl 30 (.tmp 8) (.tmp 98) rfl (w.heap.size + 4) 0 L e8 e98 30 Z0 hA.b4 (by rw [L656.out, hz656]; exact Nat.le_refl _) (by rw [L656.out]; exact infoTb) LONE.out rfl (fun w' o' g' => hI.next 0 4 _ rfl (by decide) (.inl rfl) hri (by decide) (show DS w L C M L Z0 X X w' from hA.set4 (by rw [splice_all _ _ (by rw [L656.out, hz656])] at o'; exact o') g'))
        · intro a w5 r hF hI hns hri h1 h2 hd
          have e9 : a.eval (.tmp 9) = .pointer (some ⟨(w.heap.size + 5), 0, none⟩) := hF 9 (by decide +kernel)
          have e99 : a.eval (.tmp 99) = .agg L.toArray := hd 1 (by decide +kernel)
          have hA : GE (DS w L C M Z0 Z0 X X) (DS w L C M L Z0 X X) (DS w L C M L L X X) 1 r w5 := hI.at_ 1 (.inr ⟨by decide, h2 4 (by decide) (by decide +kernel)⟩) (.inr ⟨by decide, hri⟩)
          have hA : DS w L C M L Z0 X X w5 := hA
          exact doesZ_put (by decide) rfl 34 (.tmp 9) (.tmp 99) rfl (w.heap.size + 5) 0 L e9 e99 34 Z0 hA.b5 (by rw [L656.out, hz656]; exact Nat.le_refl _) (by rw [L656.out]; exact infoTr) LONE.out rfl (fun w' o' g' => hI.next 1 5 _ rfl (by decide) (.inr ⟨by decide, h2 4 (by decide) (by decide +kernel)⟩) hri (by decide) (show DS w L C M L L X X w' from hA.set5 (by rw [splice_all _ _ (by rw [L656.out, hz656])] at o'; exact o') g'))
        · intro a w5 r hF hI hns hri h1 h2 hd
          have e100 : a.eval (.tmp 100) = .int .i64 E := hd 2 (by decide +kernel)
          exact doesZ_read (v := .int .i64 E) (by decide) rfl (ex_assign rfl e100) hI rfl
        · intro a w5 r hF hI hns hri h1 h2 hd
          have e101 : a.eval (.tmp 101) = .bool true := hd 3 (by decide +kernel)
          exact doesZ_read (v := .bool true) (by decide) rfl (ex_assign rfl e101) hI rfl
      · intro vs r w9 hI hS hvs
        have hz9 : DS w L C M L L X X w9 := hI.at_ 2 (.inr ⟨by decide, hS 5 (by decide)⟩) (.inl rfl)
        have e1 : vs 6 = .int .i64 E := hvs 6 (by decide)
        have e2 : vs 7 = .bool true := hvs 7 (by decide)
        have HE := Lib.hid hz9
        clear hI hS hvs hz9
        simp only [putOps, Act.put, List.setIfInBounds_toArray, List.set_cons_zero, List.set_cons_succ, e1, e2]
        go_wp2_with fail
        exact bodyPost_ret (results_mid4 rfl _ _ (w.heap.size + 4) (w.heap.size + 5) L L _ _ rfl HE.out.b4.range Tryd.underlying30 rfl (by rw [L656.out]; exact infoTb) rfl HE.out.b5.range Tryd.underlying34 rfl (by rw [L656.out]; exact infoTr)) rfl ⟨Eq.trans (b := Ending.returned (.tuple #[.agg L.toArray, .agg L.toArray, .int .i64 E, .bool true])) rfl rfl, HE.out.bel⟩
  · by_cases hk3 : x.kind % 4 = 3
    · have hkI : (x.kind : Int) % 4 = 3 := by omega
      have HPG := Lib.hid (fun W (h : DS w L C M Z0 Z0 Z0 Z0 W) => (show Calls Tryd.prog 23 #[.agg L.toArray, .slice ua pl uc, .slice fa fl fc, .agg (row8 x.salt).toArray, .int .i64 K] W fun e w' => e = .returned (.tuple #[.agg X.toArray, .int .i64 E]) ∧ DS w L C M Z0 Z0 Z0 Z0 w' by
        have h2 := srotate_any T HT.out x.pass x.fresh x.salt K _ _ W HSALT.out (HPASS.out.below h.bel) (HFRESH.out.below h.bel) (HTX.out.below h.bel) (HTP.out.below h.bel)
        have e1 : tbc (rotate T x.pass x.fresh x.salt K) = X := by rw [HXE.out, HKE.out]; unfold stepT; rw [if_neg hk2, if_pos hk3]
        have e2 : terr T x.pass x.fresh K = E := by rw [HEE.out, HKE.out]; unfold stepE; rw [if_neg hk2, if_pos hk3]
        rw [e1, e2, ← HLE.out] at h2
        exact h2.mono fun e w' ⟨h3, h4⟩ => ⟨h3, h.below h4⟩))
      have HRF := Lib.hid (fun W (h : DS w L C M Z0 Z0 X Z0 W) => (show Calls Tryd.prog 41 #[.agg L.toArray, .slice ua pl uc, .slice fa fl fc, .agg (row8 x.salt).toArray, .int .i64 K] W fun e w' => e = .returned (.tuple #[.agg X.toArray, .int .i64 E]) ∧ DS w L C M Z0 Z0 X Z0 w' by
        have h2 := rrotate_any T HT.out x.pass x.fresh x.salt K _ _ W HSALT.out (HPASS.out.below h.bel) (HFRESH.out.below h.bel) (HTA.out.below h.bel) (HTK.out.below h.bel)
        have e1 : tbc (rotate T x.pass x.fresh x.salt K) = X := by rw [HXE.out, HKE.out]; unfold stepT; rw [if_neg hk2, if_pos hk3]
        have e2 : terr T x.pass x.fresh K = E := by rw [HEE.out, HKE.out]; unfold stepE; rw [if_neg hk2, if_pos hk3]
        rw [e1, e2, ← HLE.out] at h2
        exact h2.mono fun e w' ⟨h3, h4⟩ => ⟨h3, h.below h4⟩))
      clear hk2 hk3
      by_cases he : E = 0
      · skip
        go_enter Tryd.func21, Tryd.ntmps21
        go_upto_region 4 with fail
        rw [← HW8.out]
        clear HW8
        have c0 := HC0.out _ HD0.out.b2
        go_upto_region 11 with fail
        have HD := HD0
        clear HD0 c0
        refine wp_region_z (by kernel_rfl) [8, 9, 13] (by kernel_rfl) (by kernel_rfl) (Stg [8, 9, 13] (GD 3 (DS w L C M Z0 Z0 Z0 Z0) (DS w L C M Z0 Z0 X Z0))) [.pre (.agg L.toArray), .pre (.pointer (some ⟨(w.heap.size + 2), 1, none⟩)), .pre (.slice ua pl uc), .pre (.pointer (some ⟨(w.heap.size + 2), 2, none⟩)), .pre (.slice fa fl fc), .pre (.pointer (some ⟨(w.heap.size + 2), 3, none⟩)), .pre (.agg (row8 x.salt).toArray), .pre (.agg C.toArray), .pre (.int .i64 K), .pre (.tuple #[.agg X.toArray, .int .i64 E]), .pre (.tuple #[.agg X.toArray, .int .i64 E]), .pre (.agg X.toArray), .pre (.int .i64 E), .any, .pre (.int .i64 E)] (fun i hi hq => by
            simp only [List.mem_cons, List.mem_nil_iff, or_false] at hi
            rcases hi with rfl | rfl | rfl
            · exact absurd hq (by decide +kernel)
            · exact absurd hq (by decide +kernel)
            · rfl) (Stg.zero (show DS w L C M Z0 Z0 Z0 Z0 _ from (HD.out.below (Below.refl _ _).drew))) ?_ ?_
        · refine ⟨?_, ?_, ?_, ?_, ?_, ?_, ?_, ?_, ?_, ?_, ?_, ?_, ?_, ?_, ?_, trivial⟩
          · intro a w5 r hF hI hns hri h1 h2 hd
            have e4 : a.eval (.tmp 4) = .pointer (some ⟨w.heap.size, 0, none⟩) := hF 4 (by decide +kernel)
            obtain ⟨k, hk1, hk2, hA⟩ : ∃ k, 0 ≤ k ∧ k ≤ 1 ∧ GD 3 (DS w L C M Z0 Z0 Z0 Z0) (DS w L C M Z0 Z0 X Z0) k r w5 := hI.between 0 1 (.inl rfl) (.inr ⟨by decide, h1 9 (by decide) (by decide +kernel)⟩)
            have hA : DS w L C M Z0 Z0 Z0 Z0 w5 := by
              rcases (show k = 0 ∨ k = 1 by omega) with rfl | rfl
              · exact hA
              · exact hA
            have hrr := hA.b0.range
            exact doesZ_ld (by decide) rfl 30 (.tmp 4) rfl w.heap.size 0 e4 L hrr _ Tryd.underlying30 rfl (by rw [L656.out]; exact infoTb) hI rfl
          · intro a w5 r hF hI hns hri h1 h2 hd
            have e6 : a.eval (.tmp 6) = .pointer (some ⟨(w.heap.size + 2), 0, none⟩) := hF 6 (by decide +kernel)
            exact doesZ_read (v := .pointer (some ⟨(w.heap.size + 2), 1, none⟩)) (by decide) rfl (ex_fieldAddr rfl e6 (by go_simp)) hI rfl
          · intro a w5 r hF hI hns hri h1 h2 hd
            have e64 : a.eval (.tmp 64) = .pointer (some ⟨(w.heap.size + 2), 1, none⟩) := hd 1 (by decide +kernel)
            obtain ⟨k, hk1, hk2, hA⟩ : ∃ k, 0 ≤ k ∧ k ≤ 1 ∧ GD 3 (DS w L C M Z0 Z0 Z0 Z0) (DS w L C M Z0 Z0 X Z0) k r w5 := hI.between 0 1 (.inl rfl) (.inr ⟨by decide, h1 9 (by decide) (by decide +kernel)⟩)
            have hA : DS w L C M Z0 Z0 Z0 Z0 w5 := by
              rcases (show k = 0 ∨ k = 1 by omega) with rfl | rfl
              · exact hA
              · exact hA
            have ct := hA.b2.cell 1 _ (by rw [HCE.out]; rfl)
            exact doesZ_read (v := .slice ua pl uc) (by decide) rfl (by unfold execOp; simp only [e64]; go_simp) hI rfl
          · intro a w5 r hF hI hns hri h1 h2 hd
            have e6 : a.eval (.tmp 6) = .pointer (some ⟨(w.heap.size + 2), 0, none⟩) := hF 6 (by decide +kernel)
            exact doesZ_read (v := .pointer (some ⟨(w.heap.size + 2), 2, none⟩)) (by decide) rfl (ex_fieldAddr rfl e6 (by go_simp)) hI rfl
          · intro a w5 r hF hI hns hri h1 h2 hd
            have e66 : a.eval (.tmp 66) = .pointer (some ⟨(w.heap.size + 2), 2, none⟩) := hd 3 (by decide +kernel)
            obtain ⟨k, hk1, hk2, hA⟩ : ∃ k, 0 ≤ k ∧ k ≤ 1 ∧ GD 3 (DS w L C M Z0 Z0 Z0 Z0) (DS w L C M Z0 Z0 X Z0) k r w5 := hI.between 0 1 (.inl rfl) (.inr ⟨by decide, h1 9 (by decide) (by decide +kernel)⟩)
            have hA : DS w L C M Z0 Z0 Z0 Z0 w5 := by
              rcases (show k = 0 ∨ k = 1 by omega) with rfl | rfl
              · exact hA
              · exact hA
            have ct := hA.b2.cell 2 _ (by rw [HCE.out]; rfl)
            exact doesZ_read (v := .slice fa fl fc) (by decide) rfl (by unfold execOp; simp only [e66]; go_simp) hI rfl
          · intro a w5 r hF hI hns hri h1 h2 hd
            have e6 : a.eval (.tmp 6) = .pointer (some ⟨(w.heap.size + 2), 0, none⟩) := hF 6 (by decide +kernel)
            exact doesZ_read (v := .pointer (some ⟨(w.heap.size + 2), 3, none⟩)) (by decide) rfl (ex_fieldAddr rfl e6 (by go_simp)) hI rfl
          · intro a w5 r hF hI hns hri h1 h2 hd
            have e68 : a.eval (.tmp 68) = .pointer (some ⟨(w.heap.size + 2), 3, none⟩) := hd 5 (by decide +kernel)
            obtain ⟨k, hk1, hk2, hA⟩ : ∃ k, 0 ≤ k ∧ k ≤ 1 ∧ GD 3 (DS w L C M Z0 Z0 Z0 Z0) (DS w L C M Z0 Z0 X Z0) k r w5 := hI.between 0 1 (.inl rfl) (.inr ⟨by decide, h1 9 (by decide) (by decide +kernel)⟩)
            have hA : DS w L C M Z0 Z0 Z0 Z0 w5 := by
              rcases (show k = 0 ∨ k = 1 by omega) with rfl | rfl
              · exact hA
              · exact hA
            have hrr := HSA.out _ hA.b2
            exact doesZ_ld (by decide) rfl 23 (.tmp 68) rfl (w.heap.size + 2) 3 e68 (row8 x.salt) hrr _ Tryd.underlying23 rfl (by rw [SA16.out]; exact info162) hI rfl
          · intro a w5 r hF hI hns hri h1 h2 hd
            have e6 : a.eval (.tmp 6) = .pointer (some ⟨(w.heap.size + 2), 0, none⟩) := hF 6 (by decide +kernel)
            have hA : GD 3 (DS w L C M Z0 Z0 Z0 Z0) (DS w L C M Z0 Z0 X Z0) 0 r w5 := hI.at_ 0 (.inl rfl) (.inr ⟨by decide, h1 8 (by decide) (by decide +kernel)⟩)
            have hA : DS w L C M Z0 Z0 Z0 Z0 w5 := hA
            have hrr := hA.b2.range
            exact doesZ_ld (by decide) rfl 56 (.tmp 6) rfl (w.heap.size + 2) 0 e6 C hrr _ Tryd.underlying56 rfl (by rw [C20.out]; exact infoAct) hI rfl
          · intro a w5 r hF hI hns hri h1 h2 hd
            have e70 : a.eval (.tmp 70) = .agg C.toArray := hd 7 (by decide +kernel)
            have hA : GD 3 (DS w L C M Z0 Z0 Z0 Z0) (DS w L C M Z0 Z0 X Z0) 0 r w5 := hI.at_ 0 (.inl rfl) (.inr ⟨by decide, hri⟩)
            have hA : DS w L C M Z0 Z0 Z0 Z0 w5 := hA
            exact doesZ_call (by decide) rfl (ex_call (vs := #[.agg C.toArray]) rfl (by simp only [List.map_toArray, List.map_cons, List.map_nil, e70]) (by go_simp)) ((HTU.out w5 hA).mono fun e w6 hh => by obtain ⟨he, hl⟩ := hh; exact ⟨_, he, hI.next 0 8 _ rfl (by decide) (.inl rfl) hri (by decide) (show DS w L C M Z0 Z0 Z0 Z0 w6 from hl), rfl⟩)
          · intro a w5 r hF hI hns hri h1 h2 hd
            have e63 : a.eval (.tmp 63) = .agg L.toArray := hd 0 (by decide +kernel)
            have e65 : a.eval (.tmp 65) = .slice ua pl uc := hd 2 (by decide +kernel)
            have e67 : a.eval (.tmp 67) = .slice fa fl fc := hd 4 (by decide +kernel)
            have e69 : a.eval (.tmp 69) = .agg (row8 x.salt).toArray := hd 6 (by decide +kernel)
            have e71 : a.eval (.tmp 71) = .int .i64 K := hd 8 (by decide +kernel)
            have hA : GD 3 (DS w L C M Z0 Z0 Z0 Z0) (DS w L C M Z0 Z0 X Z0) 1 r w5 := hI.at_ 1 (.inr ⟨by decide, h2 8 (by decide) (by decide +kernel)⟩) (.inr ⟨by decide, hri⟩)
            have hA : DS w L C M Z0 Z0 Z0 Z0 w5 := hA
            exact doesZ_call (by decide) rfl (ex_call (vs := #[.agg L.toArray, .slice ua pl uc, .slice fa fl fc, .agg (row8 x.salt).toArray, .int .i64 K]) rfl (by simp only [List.map_toArray, List.map_cons, List.map_nil, e63, e65, e67, e69, e71]) (by go_simp)) ((HPG.out w5 hA).mono fun e w6 hh => by obtain ⟨he, hl⟩ := hh; exact ⟨_, he, hI.next 1 9 _ rfl (by decide) (.inr ⟨by decide, h2 8 (by decide) (by decide +kernel)⟩) hri (by decide) (show DS w L C M Z0 Z0 Z0 Z0 w6 from hl), rfl⟩)
          · intro a w5 r hF hI hns hri h1 h2 hd
            have e72 : a.eval (.tmp 72) = .tuple #[.agg X.toArray, .int .i64 E] := hd 9 (by decide +kernel)
            exact doesZ_read (v := .tuple #[.agg X.toArray, .int .i64 E]) (by decide) rfl (ex_move rfl e72) hI rfl
          · intro a w5 r hF hI hns hri h1 h2 hd
            have e62 : a.eval (.tmp 62) = .tuple #[.agg X.toArray, .int .i64 E] := hd 10 (by decide +kernel)
            exact doesZ_read (v := .agg X.toArray) (by decide) rfl (by unfold execOp; simp only [e62]; go_simp) hI rfl
          · intro a w5 r hF hI hns hri h1 h2 hd
            have e62 : a.eval (.tmp 62) = .tuple #[.agg X.toArray, .int .i64 E] := hd 10 (by decide +kernel)
            exact doesZ_read (v := .int .i64 E) (by decide) rfl (by unfold execOp; simp only [e62]; go_simp) hI rfl
          · intro a w5 r hF hI hns hri h1 h2 hd
            have e12 : a.eval (.tmp 12) = .pointer (some ⟨(w.heap.size + 6), 0, none⟩) := hF 12 (by decide +kernel)
            have e73 : a.eval (.tmp 73) = .agg X.toArray := hd 11 (by decide +kernel)
            have hA : GD 3 (DS w L C M Z0 Z0 Z0 Z0) (DS w L C M Z0 Z0 X Z0) 2 r w5 := hI.at_ 2 (.inr ⟨by decide, h2 9 (by decide) (by decide +kernel)⟩) (.inr ⟨by decide, hri⟩)
            have hA : DS w L C M Z0 Z0 Z0 Z0 w5 := hA
            exact doesZ_put (by decide) rfl 30 (.tmp 12) (.tmp 73) rfl (w.heap.size + 6) 0 X e12 e73 30 Z0 hA.b6 (by rw [X656.out, hz656]; exact Nat.le_refl _) (by rw [X656.out]; exact infoTb) XONE.out rfl (fun w' o' g' => hI.next 2 13 _ rfl (by decide) (.inr ⟨by decide, h2 9 (by decide) (by decide +kernel)⟩) hri (by decide) (show DS w L C M Z0 Z0 X Z0 w' from hA.set6 (by rw [splice_all _ _ (by rw [X656.out, hz656])] at o'; exact o') g'))
          · intro a w5 r hF hI hns hri h1 h2 hd
            have e74 : a.eval (.tmp 74) = .int .i64 E := hd 12 (by decide +kernel)
            exact doesZ_read (v := .int .i64 E) (by decide) rfl (ex_assign rfl e74) hI rfl
        · intro vs r w9 hI hS hvs
          have hz9 : DS w L C M Z0 Z0 X Z0 w9 := hI.at_ 3 (.inr ⟨by decide, hS 13 (by decide)⟩) (.inl rfl)
          have ee : vs 14 = .int .i64 E := hvs 14 (by decide)
          have HD := Lib.hid hz9
          clear hI hS hvs hz9
          simp only [putOps, Act.put, List.setIfInBounds_toArray, List.set_cons_zero, List.set_cons_succ, ee]
          clear ee
          generalize vs 0 = z0 at *; generalize vs 1 = z1 at *; generalize vs 2 = z2 at *; generalize vs 3 = z3 at *; generalize vs 4 = z4 at *; generalize vs 5 = z5 at *; generalize vs 6 = z6 at *; generalize vs 7 = z7 at *; generalize vs 8 = z8 at *; generalize vs 9 = z9 at *; generalize vs 10 = z10 at *; generalize vs 11 = z11 at *; generalize vs 12 = z12 at *
          go_upto_region 12 with fail
          refine wp_region_z (by kernel_rfl) [8, 9, 13] (by kernel_rfl) (by kernel_rfl) (Stg [8, 9, 13] (GD 3 (DS w L C M Z0 Z0 X Z0) (DS w L C M Z0 Z0 X X))) [.pre (.agg L.toArray), .pre (.pointer (some ⟨(w.heap.size + 2), 1, none⟩)), .pre (.slice ua pl uc), .pre (.pointer (some ⟨(w.heap.size + 2), 2, none⟩)), .pre (.slice fa fl fc), .pre (.pointer (some ⟨(w.heap.size + 2), 3, none⟩)), .pre (.agg (row8 x.salt).toArray), .pre (.agg C.toArray), .pre (.int .i64 K), .pre (.tuple #[.agg X.toArray, .int .i64 E]), .pre (.tuple #[.agg X.toArray, .int .i64 E]), .pre (.agg X.toArray), .pre (.int .i64 E), .any, .pre (.int .i64 E)] (fun i hi hq => by
              simp only [List.mem_cons, List.mem_nil_iff, or_false] at hi
              rcases hi with rfl | rfl | rfl
              · exact absurd hq (by decide +kernel)
              · exact absurd hq (by decide +kernel)
              · rfl) (Stg.zero (show DS w L C M Z0 Z0 X Z0 _ from (HD.out.below (Below.refl _ _).drew))) ?_ ?_
          · refine ⟨?_, ?_, ?_, ?_, ?_, ?_, ?_, ?_, ?_, ?_, ?_, ?_, ?_, ?_, ?_, trivial⟩
            · intro a w5 r hF hI hns hri h1 h2 hd
              have e5 : a.eval (.tmp 5) = .pointer (some ⟨(w.heap.size + 1), 0, none⟩) := hF 5 (by decide +kernel)
              obtain ⟨k, hk1, hk2, hA⟩ : ∃ k, 0 ≤ k ∧ k ≤ 1 ∧ GD 3 (DS w L C M Z0 Z0 X Z0) (DS w L C M Z0 Z0 X X) k r w5 := hI.between 0 1 (.inl rfl) (.inr ⟨by decide, h1 9 (by decide) (by decide +kernel)⟩)
              have hA : DS w L C M Z0 Z0 X Z0 w5 := by
                rcases (show k = 0 ∨ k = 1 by omega) with rfl | rfl
                · exact hA
                · exact hA
              have hrr := hA.b1.range
              exact doesZ_ld (by decide) rfl 34 (.tmp 5) rfl (w.heap.size + 1) 0 e5 L hrr _ Tryd.underlying34 rfl (by rw [L656.out]; exact infoTr) hI rfl
            · intro a w5 r hF hI hns hri h1 h2 hd
              have e6 : a.eval (.tmp 6) = .pointer (some ⟨(w.heap.size + 2), 0, none⟩) := hF 6 (by decide +kernel)
              exact doesZ_read (v := .pointer (some ⟨(w.heap.size + 2), 1, none⟩)) (by decide) rfl (ex_fieldAddr rfl e6 (by go_simp)) hI rfl
            · intro a w5 r hF hI hns hri h1 h2 hd
              have e77 : a.eval (.tmp 77) = .pointer (some ⟨(w.heap.size + 2), 1, none⟩) := hd 1 (by decide +kernel)
              obtain ⟨k, hk1, hk2, hA⟩ : ∃ k, 0 ≤ k ∧ k ≤ 1 ∧ GD 3 (DS w L C M Z0 Z0 X Z0) (DS w L C M Z0 Z0 X X) k r w5 := hI.between 0 1 (.inl rfl) (.inr ⟨by decide, h1 9 (by decide) (by decide +kernel)⟩)
              have hA : DS w L C M Z0 Z0 X Z0 w5 := by
                rcases (show k = 0 ∨ k = 1 by omega) with rfl | rfl
                · exact hA
                · exact hA
              have ct := hA.b2.cell 1 _ (by rw [HCE.out]; rfl)
              exact doesZ_read (v := .slice ua pl uc) (by decide) rfl (by unfold execOp; simp only [e77]; go_simp) hI rfl
            · intro a w5 r hF hI hns hri h1 h2 hd
              have e6 : a.eval (.tmp 6) = .pointer (some ⟨(w.heap.size + 2), 0, none⟩) := hF 6 (by decide +kernel)
              exact doesZ_read (v := .pointer (some ⟨(w.heap.size + 2), 2, none⟩)) (by decide) rfl (ex_fieldAddr rfl e6 (by go_simp)) hI rfl
            · intro a w5 r hF hI hns hri h1 h2 hd
              have e79 : a.eval (.tmp 79) = .pointer (some ⟨(w.heap.size + 2), 2, none⟩) := hd 3 (by decide +kernel)
              obtain ⟨k, hk1, hk2, hA⟩ : ∃ k, 0 ≤ k ∧ k ≤ 1 ∧ GD 3 (DS w L C M Z0 Z0 X Z0) (DS w L C M Z0 Z0 X X) k r w5 := hI.between 0 1 (.inl rfl) (.inr ⟨by decide, h1 9 (by decide) (by decide +kernel)⟩)
              have hA : DS w L C M Z0 Z0 X Z0 w5 := by
                rcases (show k = 0 ∨ k = 1 by omega) with rfl | rfl
                · exact hA
                · exact hA
              have ct := hA.b2.cell 2 _ (by rw [HCE.out]; rfl)
              exact doesZ_read (v := .slice fa fl fc) (by decide) rfl (by unfold execOp; simp only [e79]; go_simp) hI rfl
            · intro a w5 r hF hI hns hri h1 h2 hd
              have e6 : a.eval (.tmp 6) = .pointer (some ⟨(w.heap.size + 2), 0, none⟩) := hF 6 (by decide +kernel)
              exact doesZ_read (v := .pointer (some ⟨(w.heap.size + 2), 3, none⟩)) (by decide) rfl (ex_fieldAddr rfl e6 (by go_simp)) hI rfl
            · intro a w5 r hF hI hns hri h1 h2 hd
              have e81 : a.eval (.tmp 81) = .pointer (some ⟨(w.heap.size + 2), 3, none⟩) := hd 5 (by decide +kernel)
              obtain ⟨k, hk1, hk2, hA⟩ : ∃ k, 0 ≤ k ∧ k ≤ 1 ∧ GD 3 (DS w L C M Z0 Z0 X Z0) (DS w L C M Z0 Z0 X X) k r w5 := hI.between 0 1 (.inl rfl) (.inr ⟨by decide, h1 9 (by decide) (by decide +kernel)⟩)
              have hA : DS w L C M Z0 Z0 X Z0 w5 := by
                rcases (show k = 0 ∨ k = 1 by omega) with rfl | rfl
                · exact hA
                · exact hA
              have hrr := HSA.out _ hA.b2
              exact doesZ_ld (by decide) rfl 23 (.tmp 81) rfl (w.heap.size + 2) 3 e81 (row8 x.salt) hrr _ Tryd.underlying23 rfl (by rw [SA16.out]; exact info162) hI rfl
            · intro a w5 r hF hI hns hri h1 h2 hd
              have e6 : a.eval (.tmp 6) = .pointer (some ⟨(w.heap.size + 2), 0, none⟩) := hF 6 (by decide +kernel)
              have hA : GD 3 (DS w L C M Z0 Z0 X Z0) (DS w L C M Z0 Z0 X X) 0 r w5 := hI.at_ 0 (.inl rfl) (.inr ⟨by decide, h1 8 (by decide) (by decide +kernel)⟩)
              have hA : DS w L C M Z0 Z0 X Z0 w5 := hA
              have hrr := hA.b2.range
              exact doesZ_ld (by decide) rfl 56 (.tmp 6) rfl (w.heap.size + 2) 0 e6 C hrr _ Tryd.underlying56 rfl (by rw [C20.out]; exact infoAct) hI rfl
            · intro a w5 r hF hI hns hri h1 h2 hd
              have e83 : a.eval (.tmp 83) = .agg C.toArray := hd 7 (by decide +kernel)
              have hA : GD 3 (DS w L C M Z0 Z0 X Z0) (DS w L C M Z0 Z0 X X) 0 r w5 := hI.at_ 0 (.inl rfl) (.inr ⟨by decide, hri⟩)
              have hA : DS w L C M Z0 Z0 X Z0 w5 := hA
              exact doesZ_call (by decide) rfl (ex_call (vs := #[.agg C.toArray]) rfl (by simp only [List.map_toArray, List.map_cons, List.map_nil, e83]) (by go_simp)) ((HTV.out w5 hA).mono fun e w6 hh => by obtain ⟨he, hl⟩ := hh; exact ⟨_, he, hI.next 0 8 _ rfl (by decide) (.inl rfl) hri (by decide) (show DS w L C M Z0 Z0 X Z0 w6 from hl), rfl⟩)
            · intro a w5 r hF hI hns hri h1 h2 hd
              have e76 : a.eval (.tmp 76) = .agg L.toArray := hd 0 (by decide +kernel)
              have e78 : a.eval (.tmp 78) = .slice ua pl uc := hd 2 (by decide +kernel)
              have e80 : a.eval (.tmp 80) = .slice fa fl fc := hd 4 (by decide +kernel)
              have e82 : a.eval (.tmp 82) = .agg (row8 x.salt).toArray := hd 6 (by decide +kernel)
              have e84 : a.eval (.tmp 84) = .int .i64 K := hd 8 (by decide +kernel)
              have hA : GD 3 (DS w L C M Z0 Z0 X Z0) (DS w L C M Z0 Z0 X X) 1 r w5 := hI.at_ 1 (.inr ⟨by decide, h2 8 (by decide) (by decide +kernel)⟩) (.inr ⟨by decide, hri⟩)
              have hA : DS w L C M Z0 Z0 X Z0 w5 := hA
              exact doesZ_call (by decide) rfl (ex_call (vs := #[.agg L.toArray, .slice ua pl uc, .slice fa fl fc, .agg (row8 x.salt).toArray, .int .i64 K]) rfl (by simp only [List.map_toArray, List.map_cons, List.map_nil, e76, e78, e80, e82, e84]) (by go_simp)) ((HRF.out w5 hA).mono fun e w6 hh => by obtain ⟨he, hl⟩ := hh; exact ⟨_, he, hI.next 1 9 _ rfl (by decide) (.inr ⟨by decide, h2 8 (by decide) (by decide +kernel)⟩) hri (by decide) (show DS w L C M Z0 Z0 X Z0 w6 from hl), rfl⟩)
            · intro a w5 r hF hI hns hri h1 h2 hd
              have e85 : a.eval (.tmp 85) = .tuple #[.agg X.toArray, .int .i64 E] := hd 9 (by decide +kernel)
              exact doesZ_read (v := .tuple #[.agg X.toArray, .int .i64 E]) (by decide) rfl (ex_move rfl e85) hI rfl
            · intro a w5 r hF hI hns hri h1 h2 hd
              have e75 : a.eval (.tmp 75) = .tuple #[.agg X.toArray, .int .i64 E] := hd 10 (by decide +kernel)
              exact doesZ_read (v := .agg X.toArray) (by decide) rfl (by unfold execOp; simp only [e75]; go_simp) hI rfl
            · intro a w5 r hF hI hns hri h1 h2 hd
              have e75 : a.eval (.tmp 75) = .tuple #[.agg X.toArray, .int .i64 E] := hd 10 (by decide +kernel)
              exact doesZ_read (v := .int .i64 E) (by decide) rfl (by unfold execOp; simp only [e75]; go_simp) hI rfl
            · intro a w5 r hF hI hns hri h1 h2 hd
              have e13 : a.eval (.tmp 13) = .pointer (some ⟨(w.heap.size + 7), 0, none⟩) := hF 13 (by decide +kernel)
              have e86 : a.eval (.tmp 86) = .agg X.toArray := hd 11 (by decide +kernel)
              have hA : GD 3 (DS w L C M Z0 Z0 X Z0) (DS w L C M Z0 Z0 X X) 2 r w5 := hI.at_ 2 (.inr ⟨by decide, h2 9 (by decide) (by decide +kernel)⟩) (.inr ⟨by decide, hri⟩)
              have hA : DS w L C M Z0 Z0 X Z0 w5 := hA
              exact doesZ_put (by decide) rfl 34 (.tmp 13) (.tmp 86) rfl (w.heap.size + 7) 0 X e13 e86 34 Z0 hA.b7 (by rw [X656.out, hz656]; exact Nat.le_refl _) (by rw [X656.out]; exact infoTr) XONE.out rfl (fun w' o' g' => hI.next 2 13 _ rfl (by decide) (.inr ⟨by decide, h2 9 (by decide) (by decide +kernel)⟩) hri (by decide) (show DS w L C M Z0 Z0 X X w' from hA.set7 (by rw [splice_all _ _ (by rw [X656.out, hz656])] at o'; exact o') g'))
            · intro a w5 r hF hI hns hri h1 h2 hd
              have e87 : a.eval (.tmp 87) = .int .i64 E := hd 12 (by decide +kernel)
              exact doesZ_read (v := .int .i64 E) (by decide) rfl (ex_assign rfl e87) hI rfl
          · intro vs r w9 hI hS hvs
            have hz9 : DS w L C M Z0 Z0 X X w9 := hI.at_ 3 (.inr ⟨by decide, hS 13 (by decide)⟩) (.inl rfl)
            have ee : vs 14 = .int .i64 E := hvs 14 (by decide)
            have HD := Lib.hid hz9
            clear hI hS hvs hz9
            simp only [putOps, Act.put, List.setIfInBounds_toArray, List.set_cons_zero, List.set_cons_succ, ee]
            clear ee
            generalize vs 0 = z0 at *; generalize vs 1 = z1 at *; generalize vs 2 = z2 at *; generalize vs 3 = z3 at *; generalize vs 4 = z4 at *; generalize vs 5 = z5 at *; generalize vs 6 = z6 at *; generalize vs 7 = z7 at *; generalize vs 8 = z8 at *; generalize vs 9 = z9 at *; generalize vs 10 = z10 at *; generalize vs 11 = z11 at *; generalize vs 12 = z12 at *
            go_upto_region 16 with ((fail_if_success (with_reducible show bodyPost _ _ _ _ _ _)); first
              | (refine wpList_load_mid rfl 30 (.tmp 12) rfl (w.heap.size + 6) 0 rfl X _ HD.out.b6.range Tryd.underlying30 rfl (by rw [X656.out]; exact infoTb) ?_)
              | (refine wpList_load_mid rfl 34 (.tmp 13) rfl (w.heap.size + 7) 0 rfl X _ HD.out.b7.range Tryd.underlying34 rfl (by rw [X656.out]; exact infoTr) ?_)
              | (refine wpList_bin rfl (b := .eql) (t := 34) (x := .tmp 88) (y := .tmp 89) rfl (.bool true) rfl rfl (run_eqGuard_agg _ _ _ _ _ _ _ eqTypeTr) (hxx _) ?_))
            refine wp_region_z (by kernel_rfl) [3, 4] (by kernel_rfl) (by kernel_rfl) (Stg [3, 4] (GE (DS w L C M Z0 Z0 X X) (DS w L C M X Z0 X X) (DS w L C M X X X X))) [.pre (.agg X.toArray), .pre (.agg X.toArray), .pre (.bool true), .any, .any, .pre (.int .i64 0), .pre (.bool true)] (fun i hi hq => by
                simp only [List.mem_cons, List.mem_nil_iff, or_false] at hi
                rcases hi with rfl | rfl
                · rfl
                · rfl) (Stg.zero (show DS w L C M Z0 Z0 X X _ from (HD.out.below (Below.refl _ _).drew))) ?_ ?_
            · refine ⟨?_, ?_, ?_, ?_, ?_, ?_, ?_, trivial⟩
              · intro a w5 r hF hI hns hri h1 h2 hd
                have e12 : a.eval (.tmp 12) = .pointer (some ⟨(w.heap.size + 6), 0, none⟩) := hF 12 (by decide +kernel)
                obtain ⟨k, hk1, hk2, hA⟩ : ∃ k, 0 ≤ k ∧ k ≤ 0 ∧ GE (DS w L C M Z0 Z0 X X) (DS w L C M X Z0 X X) (DS w L C M X X X X) k r w5 := hI.between 0 0 (.inl rfl) (.inr ⟨by decide, h1 3 (by decide) (by decide +kernel)⟩)
                obtain rfl : k = 0 := by omega
                have hA : DS w L C M Z0 Z0 X X w5 := hA
                have hrr := hA.b6.range
                exact doesZ_ld (by decide) rfl 30 (.tmp 12) rfl (w.heap.size + 6) 0 e12 X hrr _ Tryd.underlying30 rfl (by rw [X656.out]; exact infoTb) hI rfl
              · intro a w5 r hF hI hns hri h1 h2 hd
                have e13 : a.eval (.tmp 13) = .pointer (some ⟨(w.heap.size + 7), 0, none⟩) := hF 13 (by decide +kernel)
                obtain ⟨k, hk1, hk2, hA⟩ : ∃ k, 0 ≤ k ∧ k ≤ 1 ∧ GE (DS w L C M Z0 Z0 X X) (DS w L C M X Z0 X X) (DS w L C M X X X X) k r w5 := hI.between 0 1 (.inl rfl) (.inr ⟨by decide, h1 4 (by decide) (by decide +kernel)⟩)
                have hrr : w5.rangeAt (w.heap.size + 7) 0 X := by
                  rcases (show k = 0 ∨ k = 1 by omega) with rfl | rfl
                  · exact (show DS w L C M Z0 Z0 X X w5 from hA).b7.range
                  · exact (show DS w L C M X Z0 X X w5 from hA).b7.range
                exact doesZ_ld (by decide) rfl 34 (.tmp 13) rfl (w.heap.size + 7) 0 e13 X hrr _ Tryd.underlying34 rfl (by rw [X656.out]; exact infoTr) hI rfl
              · intro a w5 r hF hI hns hri h1 h2 hd
                have e16 : a.eval (.tmp 16) = .bool true := hF 16 (by decide +kernel)
                exact doesZ_read (v := .bool true) (by decide) rfl (ex_move rfl e16) hI rfl
              · intro a w5 r hF hI hns hri h1 h2 hd
                have e8 : a.eval (.tmp 8) = .pointer (some ⟨(w.heap.size + 4), 0, none⟩) := hF 8 (by decide +kernel)
                have e102 : a.eval (.tmp 102) = .agg X.toArray := hd 0 (by decide +kernel)
                have hA : GE (DS w L C M Z0 Z0 X X) (DS w L C M X Z0 X X) (DS w L C M X X X X) 0 r w5 := hI.at_ 0 (.inl rfl) (.inr ⟨by decide, hri⟩)
                have hA : DS w L C M Z0 Z0 X X w5 := hA
                exact doesZ_put (by decide) rfl 30 (.tmp 8) (.tmp 102) rfl (w.heap.size + 4) 0 X e8 e102 30 Z0 hA.b4 (by rw [X656.out, hz656]; exact Nat.le_refl _) (by rw [X656.out]; exact infoTb) XONE.out rfl (fun w' o' g' => hI.next 0 3 _ rfl (by decide) (.inl rfl) hri (by decide) (show DS w L C M X Z0 X X w' from hA.set4 (by rw [splice_all _ _ (by rw [X656.out, hz656])] at o'; exact o') g'))
              · intro a w5 r hF hI hns hri h1 h2 hd
                have e9 : a.eval (.tmp 9) = .pointer (some ⟨(w.heap.size + 5), 0, none⟩) := hF 9 (by decide +kernel)
                have e103 : a.eval (.tmp 103) = .agg X.toArray := hd 1 (by decide +kernel)
                have hA : GE (DS w L C M Z0 Z0 X X) (DS w L C M X Z0 X X) (DS w L C M X X X X) 1 r w5 := hI.at_ 1 (.inr ⟨by decide, h2 3 (by decide) (by decide +kernel)⟩) (.inr ⟨by decide, hri⟩)
                have hA : DS w L C M X Z0 X X w5 := hA
                exact doesZ_put (by decide) rfl 34 (.tmp 9) (.tmp 103) rfl (w.heap.size + 5) 0 X e9 e103 34 Z0 hA.b5 (by rw [X656.out, hz656]; exact Nat.le_refl _) (by rw [X656.out]; exact infoTr) XONE.out rfl (fun w' o' g' => hI.next 1 4 _ rfl (by decide) (.inr ⟨by decide, h2 3 (by decide) (by decide +kernel)⟩) hri (by decide) (show DS w L C M X X X X w' from hA.set5 (by rw [splice_all _ _ (by rw [X656.out, hz656])] at o'; exact o') g'))
              · intro a w5 r hF hI hns hri h1 h2 hd
                exact doesZ_read (v := .int .i64 0) (by decide) rfl (ex_assign rfl rfl) hI rfl
              · intro a w5 r hF hI hns hri h1 h2 hd
                have e104 : a.eval (.tmp 104) = .bool true := hd 2 (by decide +kernel)
                exact doesZ_read (v := .bool true) (by decide) rfl (ex_assign rfl e104) hI rfl
            · intro vs r w9 hI hS hvs
              have hz9 : DS w L C M X X X X w9 := hI.at_ 2 (.inr ⟨by decide, hS 4 (by decide)⟩) (.inl rfl)
              have e1 : vs 5 = .int .i64 0 := hvs 5 (by decide)
              have e2 : vs 6 = .bool true := hvs 6 (by decide)
              have HE := Lib.hid hz9
              clear hI hS hvs hz9
              simp only [putOps, Act.put, List.setIfInBounds_toArray, List.set_cons_zero, List.set_cons_succ, e1, e2]
              go_wp2_with fail
              exact bodyPost_ret (results_mid4 rfl _ _ (w.heap.size + 4) (w.heap.size + 5) X X _ _ rfl HE.out.b4.range Tryd.underlying30 rfl (by rw [X656.out]; exact infoTb) rfl HE.out.b5.range Tryd.underlying34 rfl (by rw [X656.out]; exact infoTr)) rfl ⟨Eq.trans (b := Ending.returned (.tuple #[.agg X.toArray, .agg X.toArray, .int .i64 0, .bool true])) rfl rfl, HE.out.bel⟩
      · skip
        go_enter Tryd.func21, Tryd.ntmps21
        go_upto_region 4 with fail
        rw [← HW8.out]
        clear HW8
        have c0 := HC0.out _ HD0.out.b2
        go_upto_region 11 with fail
        have HD := HD0
        clear HD0 c0
        refine wp_region_z (by kernel_rfl) [8, 9, 13] (by kernel_rfl) (by kernel_rfl) (Stg [8, 9, 13] (GD 3 (DS w L C M Z0 Z0 Z0 Z0) (DS w L C M Z0 Z0 X Z0))) [.pre (.agg L.toArray), .pre (.pointer (some ⟨(w.heap.size + 2), 1, none⟩)), .pre (.slice ua pl uc), .pre (.pointer (some ⟨(w.heap.size + 2), 2, none⟩)), .pre (.slice fa fl fc), .pre (.pointer (some ⟨(w.heap.size + 2), 3, none⟩)), .pre (.agg (row8 x.salt).toArray), .pre (.agg C.toArray), .pre (.int .i64 K), .pre (.tuple #[.agg X.toArray, .int .i64 E]), .pre (.tuple #[.agg X.toArray, .int .i64 E]), .pre (.agg X.toArray), .pre (.int .i64 E), .any, .pre (.int .i64 E)] (fun i hi hq => by
            simp only [List.mem_cons, List.mem_nil_iff, or_false] at hi
            rcases hi with rfl | rfl | rfl
            · exact absurd hq (by decide +kernel)
            · exact absurd hq (by decide +kernel)
            · rfl) (Stg.zero (show DS w L C M Z0 Z0 Z0 Z0 _ from (HD.out.below (Below.refl _ _).drew))) ?_ ?_
        · refine ⟨?_, ?_, ?_, ?_, ?_, ?_, ?_, ?_, ?_, ?_, ?_, ?_, ?_, ?_, ?_, trivial⟩
          · intro a w5 r hF hI hns hri h1 h2 hd
            have e4 : a.eval (.tmp 4) = .pointer (some ⟨w.heap.size, 0, none⟩) := hF 4 (by decide +kernel)
            obtain ⟨k, hk1, hk2, hA⟩ : ∃ k, 0 ≤ k ∧ k ≤ 1 ∧ GD 3 (DS w L C M Z0 Z0 Z0 Z0) (DS w L C M Z0 Z0 X Z0) k r w5 := hI.between 0 1 (.inl rfl) (.inr ⟨by decide, h1 9 (by decide) (by decide +kernel)⟩)
            have hA : DS w L C M Z0 Z0 Z0 Z0 w5 := by
              rcases (show k = 0 ∨ k = 1 by omega) with rfl | rfl
              · exact hA
              · exact hA
            have hrr := hA.b0.range
            exact doesZ_ld (by decide) rfl 30 (.tmp 4) rfl w.heap.size 0 e4 L hrr _ Tryd.underlying30 rfl (by rw [L656.out]; exact infoTb) hI rfl
          · intro a w5 r hF hI hns hri h1 h2 hd
            have e6 : a.eval (.tmp 6) = .pointer (some ⟨(w.heap.size + 2), 0, none⟩) := hF 6 (by decide +kernel)
            exact doesZ_read (v := .pointer (some ⟨(w.heap.size + 2), 1, none⟩)) (by decide) rfl (ex_fieldAddr rfl e6 (by go_simp)) hI rfl
          · intro a w5 r hF hI hns hri h1 h2 hd
            have e64 : a.eval (.tmp 64) = .pointer (some ⟨(w.heap.size + 2), 1, none⟩) := hd 1 (by decide +kernel)
            obtain ⟨k, hk1, hk2, hA⟩ : ∃ k, 0 ≤ k ∧ k ≤ 1 ∧ GD 3 (DS w L C M Z0 Z0 Z0 Z0) (DS w L C M Z0 Z0 X Z0) k r w5 := hI.between 0 1 (.inl rfl) (.inr ⟨by decide, h1 9 (by decide) (by decide +kernel)⟩)
            have hA : DS w L C M Z0 Z0 Z0 Z0 w5 := by
              rcases (show k = 0 ∨ k = 1 by omega) with rfl | rfl
              · exact hA
              · exact hA
            have ct := hA.b2.cell 1 _ (by rw [HCE.out]; rfl)
            exact doesZ_read (v := .slice ua pl uc) (by decide) rfl (by unfold execOp; simp only [e64]; go_simp) hI rfl
          · intro a w5 r hF hI hns hri h1 h2 hd
            have e6 : a.eval (.tmp 6) = .pointer (some ⟨(w.heap.size + 2), 0, none⟩) := hF 6 (by decide +kernel)
            exact doesZ_read (v := .pointer (some ⟨(w.heap.size + 2), 2, none⟩)) (by decide) rfl (ex_fieldAddr rfl e6 (by go_simp)) hI rfl
          · intro a w5 r hF hI hns hri h1 h2 hd
            have e66 : a.eval (.tmp 66) = .pointer (some ⟨(w.heap.size + 2), 2, none⟩) := hd 3 (by decide +kernel)
            obtain ⟨k, hk1, hk2, hA⟩ : ∃ k, 0 ≤ k ∧ k ≤ 1 ∧ GD 3 (DS w L C M Z0 Z0 Z0 Z0) (DS w L C M Z0 Z0 X Z0) k r w5 := hI.between 0 1 (.inl rfl) (.inr ⟨by decide, h1 9 (by decide) (by decide +kernel)⟩)
            have hA : DS w L C M Z0 Z0 Z0 Z0 w5 := by
              rcases (show k = 0 ∨ k = 1 by omega) with rfl | rfl
              · exact hA
              · exact hA
            have ct := hA.b2.cell 2 _ (by rw [HCE.out]; rfl)
            exact doesZ_read (v := .slice fa fl fc) (by decide) rfl (by unfold execOp; simp only [e66]; go_simp) hI rfl
          · intro a w5 r hF hI hns hri h1 h2 hd
            have e6 : a.eval (.tmp 6) = .pointer (some ⟨(w.heap.size + 2), 0, none⟩) := hF 6 (by decide +kernel)
            exact doesZ_read (v := .pointer (some ⟨(w.heap.size + 2), 3, none⟩)) (by decide) rfl (ex_fieldAddr rfl e6 (by go_simp)) hI rfl
          · intro a w5 r hF hI hns hri h1 h2 hd
            have e68 : a.eval (.tmp 68) = .pointer (some ⟨(w.heap.size + 2), 3, none⟩) := hd 5 (by decide +kernel)
            obtain ⟨k, hk1, hk2, hA⟩ : ∃ k, 0 ≤ k ∧ k ≤ 1 ∧ GD 3 (DS w L C M Z0 Z0 Z0 Z0) (DS w L C M Z0 Z0 X Z0) k r w5 := hI.between 0 1 (.inl rfl) (.inr ⟨by decide, h1 9 (by decide) (by decide +kernel)⟩)
            have hA : DS w L C M Z0 Z0 Z0 Z0 w5 := by
              rcases (show k = 0 ∨ k = 1 by omega) with rfl | rfl
              · exact hA
              · exact hA
            have hrr := HSA.out _ hA.b2
            exact doesZ_ld (by decide) rfl 23 (.tmp 68) rfl (w.heap.size + 2) 3 e68 (row8 x.salt) hrr _ Tryd.underlying23 rfl (by rw [SA16.out]; exact info162) hI rfl
          · intro a w5 r hF hI hns hri h1 h2 hd
            have e6 : a.eval (.tmp 6) = .pointer (some ⟨(w.heap.size + 2), 0, none⟩) := hF 6 (by decide +kernel)
            have hA : GD 3 (DS w L C M Z0 Z0 Z0 Z0) (DS w L C M Z0 Z0 X Z0) 0 r w5 := hI.at_ 0 (.inl rfl) (.inr ⟨by decide, h1 8 (by decide) (by decide +kernel)⟩)
            have hA : DS w L C M Z0 Z0 Z0 Z0 w5 := hA
            have hrr := hA.b2.range
            exact doesZ_ld (by decide) rfl 56 (.tmp 6) rfl (w.heap.size + 2) 0 e6 C hrr _ Tryd.underlying56 rfl (by rw [C20.out]; exact infoAct) hI rfl
          · intro a w5 r hF hI hns hri h1 h2 hd
            have e70 : a.eval (.tmp 70) = .agg C.toArray := hd 7 (by decide +kernel)
            have hA : GD 3 (DS w L C M Z0 Z0 Z0 Z0) (DS w L C M Z0 Z0 X Z0) 0 r w5 := hI.at_ 0 (.inl rfl) (.inr ⟨by decide, hri⟩)
            have hA : DS w L C M Z0 Z0 Z0 Z0 w5 := hA
            exact doesZ_call (by decide) rfl (ex_call (vs := #[.agg C.toArray]) rfl (by simp only [List.map_toArray, List.map_cons, List.map_nil, e70]) (by go_simp)) ((HTU.out w5 hA).mono fun e w6 hh => by obtain ⟨he, hl⟩ := hh; exact ⟨_, he, hI.next 0 8 _ rfl (by decide) (.inl rfl) hri (by decide) (show DS w L C M Z0 Z0 Z0 Z0 w6 from hl), rfl⟩)
          · intro a w5 r hF hI hns hri h1 h2 hd
            have e63 : a.eval (.tmp 63) = .agg L.toArray := hd 0 (by decide +kernel)
            have e65 : a.eval (.tmp 65) = .slice ua pl uc := hd 2 (by decide +kernel)
            have e67 : a.eval (.tmp 67) = .slice fa fl fc := hd 4 (by decide +kernel)
            have e69 : a.eval (.tmp 69) = .agg (row8 x.salt).toArray := hd 6 (by decide +kernel)
            have e71 : a.eval (.tmp 71) = .int .i64 K := hd 8 (by decide +kernel)
            have hA : GD 3 (DS w L C M Z0 Z0 Z0 Z0) (DS w L C M Z0 Z0 X Z0) 1 r w5 := hI.at_ 1 (.inr ⟨by decide, h2 8 (by decide) (by decide +kernel)⟩) (.inr ⟨by decide, hri⟩)
            have hA : DS w L C M Z0 Z0 Z0 Z0 w5 := hA
            exact doesZ_call (by decide) rfl (ex_call (vs := #[.agg L.toArray, .slice ua pl uc, .slice fa fl fc, .agg (row8 x.salt).toArray, .int .i64 K]) rfl (by simp only [List.map_toArray, List.map_cons, List.map_nil, e63, e65, e67, e69, e71]) (by go_simp)) ((HPG.out w5 hA).mono fun e w6 hh => by obtain ⟨he, hl⟩ := hh; exact ⟨_, he, hI.next 1 9 _ rfl (by decide) (.inr ⟨by decide, h2 8 (by decide) (by decide +kernel)⟩) hri (by decide) (show DS w L C M Z0 Z0 Z0 Z0 w6 from hl), rfl⟩)
          · intro a w5 r hF hI hns hri h1 h2 hd
            have e72 : a.eval (.tmp 72) = .tuple #[.agg X.toArray, .int .i64 E] := hd 9 (by decide +kernel)
            exact doesZ_read (v := .tuple #[.agg X.toArray, .int .i64 E]) (by decide) rfl (ex_move rfl e72) hI rfl
          · intro a w5 r hF hI hns hri h1 h2 hd
            have e62 : a.eval (.tmp 62) = .tuple #[.agg X.toArray, .int .i64 E] := hd 10 (by decide +kernel)
            exact doesZ_read (v := .agg X.toArray) (by decide) rfl (by unfold execOp; simp only [e62]; go_simp) hI rfl
          · intro a w5 r hF hI hns hri h1 h2 hd
            have e62 : a.eval (.tmp 62) = .tuple #[.agg X.toArray, .int .i64 E] := hd 10 (by decide +kernel)
            exact doesZ_read (v := .int .i64 E) (by decide) rfl (by unfold execOp; simp only [e62]; go_simp) hI rfl
          · intro a w5 r hF hI hns hri h1 h2 hd
            have e12 : a.eval (.tmp 12) = .pointer (some ⟨(w.heap.size + 6), 0, none⟩) := hF 12 (by decide +kernel)
            have e73 : a.eval (.tmp 73) = .agg X.toArray := hd 11 (by decide +kernel)
            have hA : GD 3 (DS w L C M Z0 Z0 Z0 Z0) (DS w L C M Z0 Z0 X Z0) 2 r w5 := hI.at_ 2 (.inr ⟨by decide, h2 9 (by decide) (by decide +kernel)⟩) (.inr ⟨by decide, hri⟩)
            have hA : DS w L C M Z0 Z0 Z0 Z0 w5 := hA
            exact doesZ_put (by decide) rfl 30 (.tmp 12) (.tmp 73) rfl (w.heap.size + 6) 0 X e12 e73 30 Z0 hA.b6 (by rw [X656.out, hz656]; exact Nat.le_refl _) (by rw [X656.out]; exact infoTb) XONE.out rfl (fun w' o' g' => hI.next 2 13 _ rfl (by decide) (.inr ⟨by decide, h2 9 (by decide) (by decide +kernel)⟩) hri (by decide) (show DS w L C M Z0 Z0 X Z0 w' from hA.set6 (by rw [splice_all _ _ (by rw [X656.out, hz656])] at o'; exact o') g'))
          · intro a w5 r hF hI hns hri h1 h2 hd
            have e74 : a.eval (.tmp 74) = .int .i64 E := hd 12 (by decide +kernel)
            exact doesZ_read (v := .int .i64 E) (by decide) rfl (ex_assign rfl e74) hI rfl
        · intro vs r w9 hI hS hvs
          have hz9 : DS w L C M Z0 Z0 X Z0 w9 := hI.at_ 3 (.inr ⟨by decide, hS 13 (by decide)⟩) (.inl rfl)
          have ee : vs 14 = .int .i64 E := hvs 14 (by decide)
          have HD := Lib.hid hz9
          clear hI hS hvs hz9
          simp only [putOps, Act.put, List.setIfInBounds_toArray, List.set_cons_zero, List.set_cons_succ, ee]
          clear ee
          generalize vs 0 = z0 at *; generalize vs 1 = z1 at *; generalize vs 2 = z2 at *; generalize vs 3 = z3 at *; generalize vs 4 = z4 at *; generalize vs 5 = z5 at *; generalize vs 6 = z6 at *; generalize vs 7 = z7 at *; generalize vs 8 = z8 at *; generalize vs 9 = z9 at *; generalize vs 10 = z10 at *; generalize vs 11 = z11 at *; generalize vs 12 = z12 at *
          go_upto_region 12 with fail
          refine wp_region_z (by kernel_rfl) [8, 9, 13] (by kernel_rfl) (by kernel_rfl) (Stg [8, 9, 13] (GD 3 (DS w L C M Z0 Z0 X Z0) (DS w L C M Z0 Z0 X X))) [.pre (.agg L.toArray), .pre (.pointer (some ⟨(w.heap.size + 2), 1, none⟩)), .pre (.slice ua pl uc), .pre (.pointer (some ⟨(w.heap.size + 2), 2, none⟩)), .pre (.slice fa fl fc), .pre (.pointer (some ⟨(w.heap.size + 2), 3, none⟩)), .pre (.agg (row8 x.salt).toArray), .pre (.agg C.toArray), .pre (.int .i64 K), .pre (.tuple #[.agg X.toArray, .int .i64 E]), .pre (.tuple #[.agg X.toArray, .int .i64 E]), .pre (.agg X.toArray), .pre (.int .i64 E), .any, .pre (.int .i64 E)] (fun i hi hq => by
              simp only [List.mem_cons, List.mem_nil_iff, or_false] at hi
              rcases hi with rfl | rfl | rfl
              · exact absurd hq (by decide +kernel)
              · exact absurd hq (by decide +kernel)
              · rfl) (Stg.zero (show DS w L C M Z0 Z0 X Z0 _ from (HD.out.below (Below.refl _ _).drew))) ?_ ?_
          · refine ⟨?_, ?_, ?_, ?_, ?_, ?_, ?_, ?_, ?_, ?_, ?_, ?_, ?_, ?_, ?_, trivial⟩
            · intro a w5 r hF hI hns hri h1 h2 hd
              have e5 : a.eval (.tmp 5) = .pointer (some ⟨(w.heap.size + 1), 0, none⟩) := hF 5 (by decide +kernel)
              obtain ⟨k, hk1, hk2, hA⟩ : ∃ k, 0 ≤ k ∧ k ≤ 1 ∧ GD 3 (DS w L C M Z0 Z0 X Z0) (DS w L C M Z0 Z0 X X) k r w5 := hI.between 0 1 (.inl rfl) (.inr ⟨by decide, h1 9 (by decide) (by decide +kernel)⟩)
              have hA : DS w L C M Z0 Z0 X Z0 w5 := by
                rcases (show k = 0 ∨ k = 1 by omega) with rfl | rfl
                · exact hA
                · exact hA
              have hrr := hA.b1.range
              exact doesZ_ld (by decide) rfl 34 (.tmp 5) rfl (w.heap.size + 1) 0 e5 L hrr _ Tryd.underlying34 rfl (by rw [L656.out]; exact infoTr) hI rfl
            · intro a w5 r hF hI hns hri h1 h2 hd
              have e6 : a.eval (.tmp 6) = .pointer (some ⟨(w.heap.size + 2), 0, none⟩) := hF 6 (by decide +kernel)
              exact doesZ_read (v := .pointer (some ⟨(w.heap.size + 2), 1, none⟩)) (by decide) rfl (ex_fieldAddr rfl e6 (by go_simp)) hI rfl
            · intro a w5 r hF hI hns hri h1 h2 hd
              have e77 : a.eval (.tmp 77) = .pointer (some ⟨(w.heap.size + 2), 1, none⟩) := hd 1 (by decide +kernel)
              obtain ⟨k, hk1, hk2, hA⟩ : ∃ k, 0 ≤ k ∧ k ≤ 1 ∧ GD 3 (DS w L C M Z0 Z0 X Z0) (DS w L C M Z0 Z0 X X) k r w5 := hI.between 0 1 (.inl rfl) (.inr ⟨by decide, h1 9 (by decide) (by decide +kernel)⟩)
              have hA : DS w L C M Z0 Z0 X Z0 w5 := by
                rcases (show k = 0 ∨ k = 1 by omega) with rfl | rfl
                · exact hA
                · exact hA
              have ct := hA.b2.cell 1 _ (by rw [HCE.out]; rfl)
              exact doesZ_read (v := .slice ua pl uc) (by decide) rfl (by unfold execOp; simp only [e77]; go_simp) hI rfl
            · intro a w5 r hF hI hns hri h1 h2 hd
              have e6 : a.eval (.tmp 6) = .pointer (some ⟨(w.heap.size + 2), 0, none⟩) := hF 6 (by decide +kernel)
              exact doesZ_read (v := .pointer (some ⟨(w.heap.size + 2), 2, none⟩)) (by decide) rfl (ex_fieldAddr rfl e6 (by go_simp)) hI rfl
            · intro a w5 r hF hI hns hri h1 h2 hd
              have e79 : a.eval (.tmp 79) = .pointer (some ⟨(w.heap.size + 2), 2, none⟩) := hd 3 (by decide +kernel)
              obtain ⟨k, hk1, hk2, hA⟩ : ∃ k, 0 ≤ k ∧ k ≤ 1 ∧ GD 3 (DS w L C M Z0 Z0 X Z0) (DS w L C M Z0 Z0 X X) k r w5 := hI.between 0 1 (.inl rfl) (.inr ⟨by decide, h1 9 (by decide) (by decide +kernel)⟩)
              have hA : DS w L C M Z0 Z0 X Z0 w5 := by
                rcases (show k = 0 ∨ k = 1 by omega) with rfl | rfl
                · exact hA
                · exact hA
              have ct := hA.b2.cell 2 _ (by rw [HCE.out]; rfl)
              exact doesZ_read (v := .slice fa fl fc) (by decide) rfl (by unfold execOp; simp only [e79]; go_simp) hI rfl
            · intro a w5 r hF hI hns hri h1 h2 hd
              have e6 : a.eval (.tmp 6) = .pointer (some ⟨(w.heap.size + 2), 0, none⟩) := hF 6 (by decide +kernel)
              exact doesZ_read (v := .pointer (some ⟨(w.heap.size + 2), 3, none⟩)) (by decide) rfl (ex_fieldAddr rfl e6 (by go_simp)) hI rfl
            · intro a w5 r hF hI hns hri h1 h2 hd
              have e81 : a.eval (.tmp 81) = .pointer (some ⟨(w.heap.size + 2), 3, none⟩) := hd 5 (by decide +kernel)
              obtain ⟨k, hk1, hk2, hA⟩ : ∃ k, 0 ≤ k ∧ k ≤ 1 ∧ GD 3 (DS w L C M Z0 Z0 X Z0) (DS w L C M Z0 Z0 X X) k r w5 := hI.between 0 1 (.inl rfl) (.inr ⟨by decide, h1 9 (by decide) (by decide +kernel)⟩)
              have hA : DS w L C M Z0 Z0 X Z0 w5 := by
                rcases (show k = 0 ∨ k = 1 by omega) with rfl | rfl
                · exact hA
                · exact hA
              have hrr := HSA.out _ hA.b2
              exact doesZ_ld (by decide) rfl 23 (.tmp 81) rfl (w.heap.size + 2) 3 e81 (row8 x.salt) hrr _ Tryd.underlying23 rfl (by rw [SA16.out]; exact info162) hI rfl
            · intro a w5 r hF hI hns hri h1 h2 hd
              have e6 : a.eval (.tmp 6) = .pointer (some ⟨(w.heap.size + 2), 0, none⟩) := hF 6 (by decide +kernel)
              have hA : GD 3 (DS w L C M Z0 Z0 X Z0) (DS w L C M Z0 Z0 X X) 0 r w5 := hI.at_ 0 (.inl rfl) (.inr ⟨by decide, h1 8 (by decide) (by decide +kernel)⟩)
              have hA : DS w L C M Z0 Z0 X Z0 w5 := hA
              have hrr := hA.b2.range
              exact doesZ_ld (by decide) rfl 56 (.tmp 6) rfl (w.heap.size + 2) 0 e6 C hrr _ Tryd.underlying56 rfl (by rw [C20.out]; exact infoAct) hI rfl
            · intro a w5 r hF hI hns hri h1 h2 hd
              have e83 : a.eval (.tmp 83) = .agg C.toArray := hd 7 (by decide +kernel)
              have hA : GD 3 (DS w L C M Z0 Z0 X Z0) (DS w L C M Z0 Z0 X X) 0 r w5 := hI.at_ 0 (.inl rfl) (.inr ⟨by decide, hri⟩)
              have hA : DS w L C M Z0 Z0 X Z0 w5 := hA
              exact doesZ_call (by decide) rfl (ex_call (vs := #[.agg C.toArray]) rfl (by simp only [List.map_toArray, List.map_cons, List.map_nil, e83]) (by go_simp)) ((HTV.out w5 hA).mono fun e w6 hh => by obtain ⟨he, hl⟩ := hh; exact ⟨_, he, hI.next 0 8 _ rfl (by decide) (.inl rfl) hri (by decide) (show DS w L C M Z0 Z0 X Z0 w6 from hl), rfl⟩)
            · intro a w5 r hF hI hns hri h1 h2 hd
              have e76 : a.eval (.tmp 76) = .agg L.toArray := hd 0 (by decide +kernel)
              have e78 : a.eval (.tmp 78) = .slice ua pl uc := hd 2 (by decide +kernel)
              have e80 : a.eval (.tmp 80) = .slice fa fl fc := hd 4 (by decide +kernel)
              have e82 : a.eval (.tmp 82) = .agg (row8 x.salt).toArray := hd 6 (by decide +kernel)
              have e84 : a.eval (.tmp 84) = .int .i64 K := hd 8 (by decide +kernel)
              have hA : GD 3 (DS w L C M Z0 Z0 X Z0) (DS w L C M Z0 Z0 X X) 1 r w5 := hI.at_ 1 (.inr ⟨by decide, h2 8 (by decide) (by decide +kernel)⟩) (.inr ⟨by decide, hri⟩)
              have hA : DS w L C M Z0 Z0 X Z0 w5 := hA
              exact doesZ_call (by decide) rfl (ex_call (vs := #[.agg L.toArray, .slice ua pl uc, .slice fa fl fc, .agg (row8 x.salt).toArray, .int .i64 K]) rfl (by simp only [List.map_toArray, List.map_cons, List.map_nil, e76, e78, e80, e82, e84]) (by go_simp)) ((HRF.out w5 hA).mono fun e w6 hh => by obtain ⟨he, hl⟩ := hh; exact ⟨_, he, hI.next 1 9 _ rfl (by decide) (.inr ⟨by decide, h2 8 (by decide) (by decide +kernel)⟩) hri (by decide) (show DS w L C M Z0 Z0 X Z0 w6 from hl), rfl⟩)
            · intro a w5 r hF hI hns hri h1 h2 hd
              have e85 : a.eval (.tmp 85) = .tuple #[.agg X.toArray, .int .i64 E] := hd 9 (by decide +kernel)
              exact doesZ_read (v := .tuple #[.agg X.toArray, .int .i64 E]) (by decide) rfl (ex_move rfl e85) hI rfl
            · intro a w5 r hF hI hns hri h1 h2 hd
              have e75 : a.eval (.tmp 75) = .tuple #[.agg X.toArray, .int .i64 E] := hd 10 (by decide +kernel)
              exact doesZ_read (v := .agg X.toArray) (by decide) rfl (by unfold execOp; simp only [e75]; go_simp) hI rfl
            · intro a w5 r hF hI hns hri h1 h2 hd
              have e75 : a.eval (.tmp 75) = .tuple #[.agg X.toArray, .int .i64 E] := hd 10 (by decide +kernel)
              exact doesZ_read (v := .int .i64 E) (by decide) rfl (by unfold execOp; simp only [e75]; go_simp) hI rfl
            · intro a w5 r hF hI hns hri h1 h2 hd
              have e13 : a.eval (.tmp 13) = .pointer (some ⟨(w.heap.size + 7), 0, none⟩) := hF 13 (by decide +kernel)
              have e86 : a.eval (.tmp 86) = .agg X.toArray := hd 11 (by decide +kernel)
              have hA : GD 3 (DS w L C M Z0 Z0 X Z0) (DS w L C M Z0 Z0 X X) 2 r w5 := hI.at_ 2 (.inr ⟨by decide, h2 9 (by decide) (by decide +kernel)⟩) (.inr ⟨by decide, hri⟩)
              have hA : DS w L C M Z0 Z0 X Z0 w5 := hA
              exact doesZ_put (by decide) rfl 34 (.tmp 13) (.tmp 86) rfl (w.heap.size + 7) 0 X e13 e86 34 Z0 hA.b7 (by rw [X656.out, hz656]; exact Nat.le_refl _) (by rw [X656.out]; exact infoTr) XONE.out rfl (fun w' o' g' => hI.next 2 13 _ rfl (by decide) (.inr ⟨by decide, h2 9 (by decide) (by decide +kernel)⟩) hri (by decide) (show DS w L C M Z0 Z0 X X w' from hA.set7 (by rw [splice_all _ _ (by rw [X656.out, hz656])] at o'; exact o') g'))
            · intro a w5 r hF hI hns hri h1 h2 hd
              have e87 : a.eval (.tmp 87) = .int .i64 E := hd 12 (by decide +kernel)
              exact doesZ_read (v := .int .i64 E) (by decide) rfl (ex_assign rfl e87) hI rfl
          · intro vs r w9 hI hS hvs
            have hz9 : DS w L C M Z0 Z0 X X w9 := hI.at_ 3 (.inr ⟨by decide, hS 13 (by decide)⟩) (.inl rfl)
            have ee : vs 14 = .int .i64 E := hvs 14 (by decide)
            have HD := Lib.hid hz9
            clear hI hS hvs hz9
            simp only [putOps, Act.put, List.setIfInBounds_toArray, List.set_cons_zero, List.set_cons_succ, ee]
            clear ee
            generalize vs 0 = z0 at *; generalize vs 1 = z1 at *; generalize vs 2 = z2 at *; generalize vs 3 = z3 at *; generalize vs 4 = z4 at *; generalize vs 5 = z5 at *; generalize vs 6 = z6 at *; generalize vs 7 = z7 at *; generalize vs 8 = z8 at *; generalize vs 9 = z9 at *; generalize vs 10 = z10 at *; generalize vs 11 = z11 at *; generalize vs 12 = z12 at *
            go_upto_region 15 with ((fail_if_success (with_reducible show bodyPost _ _ _ _ _ _)); first
              | (refine wpList_load_mid rfl 30 (.tmp 12) rfl (w.heap.size + 6) 0 rfl X _ HD.out.b6.range Tryd.underlying30 rfl (by rw [X656.out]; exact infoTb) ?_)
              | (refine wpList_load_mid rfl 34 (.tmp 13) rfl (w.heap.size + 7) 0 rfl X _ HD.out.b7.range Tryd.underlying34 rfl (by rw [X656.out]; exact infoTr) ?_)
              | (refine wpList_bin rfl (b := .eql) (t := 34) (x := .tmp 88) (y := .tmp 89) rfl (.bool true) rfl rfl (run_eqGuard_agg _ _ _ _ _ _ _ eqTypeTr) (hxx _) ?_))
            refine wp_region_z (by kernel_rfl) [4, 5] (by kernel_rfl) (by kernel_rfl) (Stg [4, 5] (GE (DS w L C M Z0 Z0 X X) (DS w L C M L Z0 X X) (DS w L C M L L X X))) [.pre (.agg L.toArray), .pre (.agg L.toArray), .pre (.int .i64 E), .pre (.bool true), .any, .any, .pre (.int .i64 E), .pre (.bool true)] (fun i hi hq => by
                simp only [List.mem_cons, List.mem_nil_iff, or_false] at hi
                rcases hi with rfl | rfl
                · rfl
                · rfl) (Stg.zero (show DS w L C M Z0 Z0 X X _ from (HD.out.below (Below.refl _ _).drew))) ?_ ?_
            · refine ⟨?_, ?_, ?_, ?_, ?_, ?_, ?_, ?_, trivial⟩
              · intro a w5 r hF hI hns hri h1 h2 hd
                have e4 : a.eval (.tmp 4) = .pointer (some ⟨w.heap.size, 0, none⟩) := hF 4 (by decide +kernel)
                obtain ⟨k, hk1, hk2, hA⟩ : ∃ k, 0 ≤ k ∧ k ≤ 0 ∧ GE (DS w L C M Z0 Z0 X X) (DS w L C M L Z0 X X) (DS w L C M L L X X) k r w5 := hI.between 0 0 (.inl rfl) (.inr ⟨by decide, h1 4 (by decide) (by decide +kernel)⟩)
                obtain rfl : k = 0 := by omega
                have hA : DS w L C M Z0 Z0 X X w5 := hA
                have hrr := hA.b0.range
                exact doesZ_ld (by decide) rfl 30 (.tmp 4) rfl w.heap.size 0 e4 L hrr _ Tryd.underlying30 rfl (by rw [L656.out]; exact infoTb) hI rfl
              · intro a w5 r hF hI hns hri h1 h2 hd
                have e5 : a.eval (.tmp 5) = .pointer (some ⟨(w.heap.size + 1), 0, none⟩) := hF 5 (by decide +kernel)
                obtain ⟨k, hk1, hk2, hA⟩ : ∃ k, 0 ≤ k ∧ k ≤ 1 ∧ GE (DS w L C M Z0 Z0 X X) (DS w L C M L Z0 X X) (DS w L C M L L X X) k r w5 := hI.between 0 1 (.inl rfl) (.inr ⟨by decide, h1 5 (by decide) (by decide +kernel)⟩)
                have hrr : w5.rangeAt (w.heap.size + 1) 0 L := by
                  rcases (show k = 0 ∨ k = 1 by omega) with rfl | rfl
                  · exact (show DS w L C M Z0 Z0 X X w5 from hA).b1.range
                  · exact (show DS w L C M L Z0 X X w5 from hA).b1.range
                exact doesZ_ld (by decide) rfl 34 (.tmp 5) rfl (w.heap.size + 1) 0 e5 L hrr _ Tryd.underlying34 rfl (by rw [L656.out]; exact infoTr) hI rfl
              · intro a w5 r hF hI hns hri h1 h2 hd
                have e15 : a.eval (.tmp 15) = .int .i64 E := hF 15 (by decide +kernel)
                exact doesZ_read (v := .int .i64 E) (by decide) rfl (ex_move rfl e15) hI rfl
              · intro a w5 r hF hI hns hri h1 h2 hd
                have e16 : a.eval (.tmp 16) = .bool true := hF 16 (by decide +kernel)
                exact doesZ_read (v := .bool true) (by decide) rfl (ex_move rfl e16) hI rfl
              · intro a w5 r hF hI hns hri h1 h2 hd
                have e8 : a.eval (.tmp 8) = .pointer (some ⟨(w.heap.size + 4), 0, none⟩) := hF 8 (by decide +kernel)
                have e98 : a.eval (.tmp 98) = .agg L.toArray := hd 0 (by decide +kernel)
                have hA : GE (DS w L C M Z0 Z0 X X) (DS w L C M L Z0 X X) (DS w L C M L L X X) 0 r w5 := hI.at_ 0 (.inl rfl) (.inr ⟨by decide, hri⟩)
                have hA : DS w L C M Z0 Z0 X X w5 := hA
                exact doesZ_put (by decide) rfl 30 (.tmp 8) (.tmp 98) rfl (w.heap.size + 4) 0 L e8 e98 30 Z0 hA.b4 (by rw [L656.out, hz656]; exact Nat.le_refl _) (by rw [L656.out]; exact infoTb) LONE.out rfl (fun w' o' g' => hI.next 0 4 _ rfl (by decide) (.inl rfl) hri (by decide) (show DS w L C M L Z0 X X w' from hA.set4 (by rw [splice_all _ _ (by rw [L656.out, hz656])] at o'; exact o') g'))
              · intro a w5 r hF hI hns hri h1 h2 hd
                have e9 : a.eval (.tmp 9) = .pointer (some ⟨(w.heap.size + 5), 0, none⟩) := hF 9 (by decide +kernel)
                have e99 : a.eval (.tmp 99) = .agg L.toArray := hd 1 (by decide +kernel)
                have hA : GE (DS w L C M Z0 Z0 X X) (DS w L C M L Z0 X X) (DS w L C M L L X X) 1 r w5 := hI.at_ 1 (.inr ⟨by decide, h2 4 (by decide) (by decide +kernel)⟩) (.inr ⟨by decide, hri⟩)
                have hA : DS w L C M L Z0 X X w5 := hA
                exact doesZ_put (by decide) rfl 34 (.tmp 9) (.tmp 99) rfl (w.heap.size + 5) 0 L e9 e99 34 Z0 hA.b5 (by rw [L656.out, hz656]; exact Nat.le_refl _) (by rw [L656.out]; exact infoTr) LONE.out rfl (fun w' o' g' => hI.next 1 5 _ rfl (by decide) (.inr ⟨by decide, h2 4 (by decide) (by decide +kernel)⟩) hri (by decide) (show DS w L C M L L X X w' from hA.set5 (by rw [splice_all _ _ (by rw [L656.out, hz656])] at o'; exact o') g'))
              · intro a w5 r hF hI hns hri h1 h2 hd
                have e100 : a.eval (.tmp 100) = .int .i64 E := hd 2 (by decide +kernel)
                exact doesZ_read (v := .int .i64 E) (by decide) rfl (ex_assign rfl e100) hI rfl
              · intro a w5 r hF hI hns hri h1 h2 hd
                have e101 : a.eval (.tmp 101) = .bool true := hd 3 (by decide +kernel)
                exact doesZ_read (v := .bool true) (by decide) rfl (ex_assign rfl e101) hI rfl
            · intro vs r w9 hI hS hvs
              have hz9 : DS w L C M L L X X w9 := hI.at_ 2 (.inr ⟨by decide, hS 5 (by decide)⟩) (.inl rfl)
              have e1 : vs 6 = .int .i64 E := hvs 6 (by decide)
              have e2 : vs 7 = .bool true := hvs 7 (by decide)
              have HE := Lib.hid hz9
              clear hI hS hvs hz9
              simp only [putOps, Act.put, List.setIfInBounds_toArray, List.set_cons_zero, List.set_cons_succ, e1, e2]
              go_wp2_with fail
              exact bodyPost_ret (results_mid4 rfl _ _ (w.heap.size + 4) (w.heap.size + 5) L L _ _ rfl HE.out.b4.range Tryd.underlying30 rfl (by rw [L656.out]; exact infoTb) rfl HE.out.b5.range Tryd.underlying34 rfl (by rw [L656.out]; exact infoTr)) rfl ⟨Eq.trans (b := Ending.returned (.tuple #[.agg L.toArray, .agg L.toArray, .int .i64 E, .bool true])) rfl rfl, HE.out.bel⟩
    · have hkA : ¬ (x.kind : Int) % 4 = 2 := by omega
      have hkB : ¬ (x.kind : Int) % 4 = 3 := by omega
      have HPG := Lib.hid (fun W (h : DS w L C M Z0 Z0 Z0 Z0 W) => (show Calls Tryd.prog 22 #[.agg L.toArray, .slice ua pl uc, .agg (row8 x.salt).toArray, .int .i64 K, .agg M.toArray] W fun e w' => e = .returned (.tuple #[.agg X.toArray, .int .i64 E]) ∧ DS w L C M Z0 Z0 Z0 Z0 w' by
        have h2 := sadd_any T HT.out x.pass x.salt m K _ W HSALT.out HM.out (HPASS.out.below h.bel) (HTX.out.below h.bel) (HTP.out.below h.bel)
        have e1 : tbc (add T x.pass x.salt K m) = X := by rw [HXE.out, HKE.out]; unfold stepT; rw [if_neg hk2, if_neg hk3]
        have e2 : aerr T x.pass K = E := by rw [HEE.out, HKE.out]; unfold stepE; rw [if_neg hk2, if_neg hk3]
        rw [e1, e2, ← HLE.out, ← HME.out] at h2
        exact h2.mono fun e w' ⟨h3, h4⟩ => ⟨h3, h.below h4⟩))
      have HRF := Lib.hid (fun W (h : DS w L C M Z0 Z0 X Z0 W) => (show Calls Tryd.prog 42 #[.agg L.toArray, .slice ua pl uc, .agg (row8 x.salt).toArray, .int .i64 K, .agg M.toArray] W fun e w' => e = .returned (.tuple #[.agg X.toArray, .int .i64 E]) ∧ DS w L C M Z0 Z0 X Z0 w' by
        have h2 := radd_any T HT.out x.pass x.salt m K _ W HSALT.out HM.out (HPASS.out.below h.bel) (HTA.out.below h.bel) (HTK.out.below h.bel)
        have e1 : tbc (add T x.pass x.salt K m) = X := by rw [HXE.out, HKE.out]; unfold stepT; rw [if_neg hk2, if_neg hk3]
        have e2 : aerr T x.pass K = E := by rw [HEE.out, HKE.out]; unfold stepE; rw [if_neg hk2, if_neg hk3]
        rw [e1, e2, ← HLE.out, ← HME.out] at h2
        exact h2.mono fun e w' ⟨h3, h4⟩ => ⟨h3, h.below h4⟩))
      clear hk2 hk3
      by_cases he : E = 0
      · skip
        go_enter Tryd.func21, Tryd.ntmps21
        go_upto_region 4 with fail
        rw [← HW8.out]
        clear HW8
        have c0 := HC0.out _ HD0.out.b2
        go_upto_region 5 with fail
        have HD := HD0
        clear HD0 c0
        refine wp_region_z (by kernel_rfl) [6, 8, 12] (by kernel_rfl) (by kernel_rfl) (Stg [6, 8, 12] (GD 3 (DS w L C M Z0 Z0 Z0 Z0) (DS w L C M Z0 Z0 X Z0))) [.pre (.agg L.toArray), .pre (.pointer (some ⟨(w.heap.size + 2), 1, none⟩)), .pre (.slice ua pl uc), .pre (.pointer (some ⟨(w.heap.size + 2), 3, none⟩)), .pre (.agg (row8 x.salt).toArray), .pre (.agg C.toArray), .pre (.int .i64 K), .pre (.agg M.toArray), .pre (.tuple #[.agg X.toArray, .int .i64 E]), .pre (.tuple #[.agg X.toArray, .int .i64 E]), .pre (.agg X.toArray), .pre (.int .i64 E), .any, .pre (.int .i64 E)] (fun i hi hq => by
            simp only [List.mem_cons, List.mem_nil_iff, or_false] at hi
            rcases hi with rfl | rfl | rfl
            · exact absurd hq (by decide +kernel)
            · exact absurd hq (by decide +kernel)
            · rfl) (Stg.zero (show DS w L C M Z0 Z0 Z0 Z0 _ from (HD.out.below (Below.refl _ _).drew))) ?_ ?_
        · refine ⟨?_, ?_, ?_, ?_, ?_, ?_, ?_, ?_, ?_, ?_, ?_, ?_, ?_, ?_, trivial⟩
          · intro a w5 r hF hI hns hri h1 h2 hd
            have e4 : a.eval (.tmp 4) = .pointer (some ⟨w.heap.size, 0, none⟩) := hF 4 (by decide +kernel)
            obtain ⟨k, hk1, hk2, hA⟩ : ∃ k, 0 ≤ k ∧ k ≤ 1 ∧ GD 3 (DS w L C M Z0 Z0 Z0 Z0) (DS w L C M Z0 Z0 X Z0) k r w5 := hI.between 0 1 (.inl rfl) (.inr ⟨by decide, h1 8 (by decide) (by decide +kernel)⟩)
            have hA : DS w L C M Z0 Z0 Z0 Z0 w5 := by
              rcases (show k = 0 ∨ k = 1 by omega) with rfl | rfl
              · exact hA
              · exact hA
            have hrr := hA.b0.range
            exact doesZ_ld (by decide) rfl 30 (.tmp 4) rfl w.heap.size 0 e4 L hrr _ Tryd.underlying30 rfl (by rw [L656.out]; exact infoTb) hI rfl
          · intro a w5 r hF hI hns hri h1 h2 hd
            have e6 : a.eval (.tmp 6) = .pointer (some ⟨(w.heap.size + 2), 0, none⟩) := hF 6 (by decide +kernel)
            exact doesZ_read (v := .pointer (some ⟨(w.heap.size + 2), 1, none⟩)) (by decide) rfl (ex_fieldAddr rfl e6 (by go_simp)) hI rfl
          · intro a w5 r hF hI hns hri h1 h2 hd
            have e22 : a.eval (.tmp 22) = .pointer (some ⟨(w.heap.size + 2), 1, none⟩) := hd 1 (by decide +kernel)
            obtain ⟨k, hk1, hk2, hA⟩ : ∃ k, 0 ≤ k ∧ k ≤ 1 ∧ GD 3 (DS w L C M Z0 Z0 Z0 Z0) (DS w L C M Z0 Z0 X Z0) k r w5 := hI.between 0 1 (.inl rfl) (.inr ⟨by decide, h1 8 (by decide) (by decide +kernel)⟩)
            have hA : DS w L C M Z0 Z0 Z0 Z0 w5 := by
              rcases (show k = 0 ∨ k = 1 by omega) with rfl | rfl
              · exact hA
              · exact hA
            have ct := hA.b2.cell 1 _ (by rw [HCE.out]; rfl)
            exact doesZ_read (v := .slice ua pl uc) (by decide) rfl (by unfold execOp; simp only [e22]; go_simp) hI rfl
          · intro a w5 r hF hI hns hri h1 h2 hd
            have e6 : a.eval (.tmp 6) = .pointer (some ⟨(w.heap.size + 2), 0, none⟩) := hF 6 (by decide +kernel)
            exact doesZ_read (v := .pointer (some ⟨(w.heap.size + 2), 3, none⟩)) (by decide) rfl (ex_fieldAddr rfl e6 (by go_simp)) hI rfl
          · intro a w5 r hF hI hns hri h1 h2 hd
            have e24 : a.eval (.tmp 24) = .pointer (some ⟨(w.heap.size + 2), 3, none⟩) := hd 3 (by decide +kernel)
            obtain ⟨k, hk1, hk2, hA⟩ : ∃ k, 0 ≤ k ∧ k ≤ 1 ∧ GD 3 (DS w L C M Z0 Z0 Z0 Z0) (DS w L C M Z0 Z0 X Z0) k r w5 := hI.between 0 1 (.inl rfl) (.inr ⟨by decide, h1 8 (by decide) (by decide +kernel)⟩)
            have hA : DS w L C M Z0 Z0 Z0 Z0 w5 := by
              rcases (show k = 0 ∨ k = 1 by omega) with rfl | rfl
              · exact hA
              · exact hA
            have hrr := HSA.out _ hA.b2
            exact doesZ_ld (by decide) rfl 23 (.tmp 24) rfl (w.heap.size + 2) 3 e24 (row8 x.salt) hrr _ Tryd.underlying23 rfl (by rw [SA16.out]; exact info162) hI rfl
          · intro a w5 r hF hI hns hri h1 h2 hd
            have e6 : a.eval (.tmp 6) = .pointer (some ⟨(w.heap.size + 2), 0, none⟩) := hF 6 (by decide +kernel)
            have hA : GD 3 (DS w L C M Z0 Z0 Z0 Z0) (DS w L C M Z0 Z0 X Z0) 0 r w5 := hI.at_ 0 (.inl rfl) (.inr ⟨by decide, h1 6 (by decide) (by decide +kernel)⟩)
            have hA : DS w L C M Z0 Z0 Z0 Z0 w5 := hA
            have hrr := hA.b2.range
            exact doesZ_ld (by decide) rfl 56 (.tmp 6) rfl (w.heap.size + 2) 0 e6 C hrr _ Tryd.underlying56 rfl (by rw [C20.out]; exact infoAct) hI rfl
          · intro a w5 r hF hI hns hri h1 h2 hd
            have e26 : a.eval (.tmp 26) = .agg C.toArray := hd 5 (by decide +kernel)
            have hA : GD 3 (DS w L C M Z0 Z0 Z0 Z0) (DS w L C M Z0 Z0 X Z0) 0 r w5 := hI.at_ 0 (.inl rfl) (.inr ⟨by decide, hri⟩)
            have hA : DS w L C M Z0 Z0 Z0 Z0 w5 := hA
            exact doesZ_call (by decide) rfl (ex_call (vs := #[.agg C.toArray]) rfl (by simp only [List.map_toArray, List.map_cons, List.map_nil, e26]) (by go_simp)) ((HTU.out w5 hA).mono fun e w6 hh => by obtain ⟨he, hl⟩ := hh; exact ⟨_, he, hI.next 0 6 _ rfl (by decide) (.inl rfl) hri (by decide) (show DS w L C M Z0 Z0 Z0 Z0 w6 from hl), rfl⟩)
          · intro a w5 r hF hI hns hri h1 h2 hd
            have e7 : a.eval (.tmp 7) = .pointer (some ⟨(w.heap.size + 3), 0, none⟩) := hF 7 (by decide +kernel)
            obtain ⟨k, hk1, hk2, hA⟩ : ∃ k, 0 ≤ k ∧ k ≤ 1 ∧ GD 3 (DS w L C M Z0 Z0 Z0 Z0) (DS w L C M Z0 Z0 X Z0) k r w5 := hI.between 0 1 (.inl rfl) (.inr ⟨by decide, h1 8 (by decide) (by decide +kernel)⟩)
            have hA : DS w L C M Z0 Z0 Z0 Z0 w5 := by
              rcases (show k = 0 ∨ k = 1 by omega) with rfl | rfl
              · exact hA
              · exact hA
            have hrr := hA.b3.range
            exact doesZ_ld (by decide) rfl 25 (.tmp 7) rfl (w.heap.size + 3) 0 e7 M hrr _ Tryd.underlying25 rfl (by rw [M32.out]; exact infoK2) hI rfl
          · intro a w5 r hF hI hns hri h1 h2 hd
            have e21 : a.eval (.tmp 21) = .agg L.toArray := hd 0 (by decide +kernel)
            have e23 : a.eval (.tmp 23) = .slice ua pl uc := hd 2 (by decide +kernel)
            have e25 : a.eval (.tmp 25) = .agg (row8 x.salt).toArray := hd 4 (by decide +kernel)
            have e27 : a.eval (.tmp 27) = .int .i64 K := hd 6 (by decide +kernel)
            have e28 : a.eval (.tmp 28) = .agg M.toArray := hd 7 (by decide +kernel)
            have hA : GD 3 (DS w L C M Z0 Z0 Z0 Z0) (DS w L C M Z0 Z0 X Z0) 1 r w5 := hI.at_ 1 (.inr ⟨by decide, h2 6 (by decide) (by decide +kernel)⟩) (.inr ⟨by decide, hri⟩)
            have hA : DS w L C M Z0 Z0 Z0 Z0 w5 := hA
            exact doesZ_call (by decide) rfl (ex_call (vs := #[.agg L.toArray, .slice ua pl uc, .agg (row8 x.salt).toArray, .int .i64 K, .agg M.toArray]) rfl (by simp only [List.map_toArray, List.map_cons, List.map_nil, e21, e23, e25, e27, e28]) (by go_simp)) ((HPG.out w5 hA).mono fun e w6 hh => by obtain ⟨he, hl⟩ := hh; exact ⟨_, he, hI.next 1 8 _ rfl (by decide) (.inr ⟨by decide, h2 6 (by decide) (by decide +kernel)⟩) hri (by decide) (show DS w L C M Z0 Z0 Z0 Z0 w6 from hl), rfl⟩)
          · intro a w5 r hF hI hns hri h1 h2 hd
            have e29 : a.eval (.tmp 29) = .tuple #[.agg X.toArray, .int .i64 E] := hd 8 (by decide +kernel)
            exact doesZ_read (v := .tuple #[.agg X.toArray, .int .i64 E]) (by decide) rfl (ex_move rfl e29) hI rfl
          · intro a w5 r hF hI hns hri h1 h2 hd
            have e20 : a.eval (.tmp 20) = .tuple #[.agg X.toArray, .int .i64 E] := hd 9 (by decide +kernel)
            exact doesZ_read (v := .agg X.toArray) (by decide) rfl (by unfold execOp; simp only [e20]; go_simp) hI rfl
          · intro a w5 r hF hI hns hri h1 h2 hd
            have e20 : a.eval (.tmp 20) = .tuple #[.agg X.toArray, .int .i64 E] := hd 9 (by decide +kernel)
            exact doesZ_read (v := .int .i64 E) (by decide) rfl (by unfold execOp; simp only [e20]; go_simp) hI rfl
          · intro a w5 r hF hI hns hri h1 h2 hd
            have e12 : a.eval (.tmp 12) = .pointer (some ⟨(w.heap.size + 6), 0, none⟩) := hF 12 (by decide +kernel)
            have e30 : a.eval (.tmp 30) = .agg X.toArray := hd 10 (by decide +kernel)
            have hA : GD 3 (DS w L C M Z0 Z0 Z0 Z0) (DS w L C M Z0 Z0 X Z0) 2 r w5 := hI.at_ 2 (.inr ⟨by decide, h2 8 (by decide) (by decide +kernel)⟩) (.inr ⟨by decide, hri⟩)
            have hA : DS w L C M Z0 Z0 Z0 Z0 w5 := hA
            exact doesZ_put (by decide) rfl 30 (.tmp 12) (.tmp 30) rfl (w.heap.size + 6) 0 X e12 e30 30 Z0 hA.b6 (by rw [X656.out, hz656]; exact Nat.le_refl _) (by rw [X656.out]; exact infoTb) XONE.out rfl (fun w' o' g' => hI.next 2 12 _ rfl (by decide) (.inr ⟨by decide, h2 8 (by decide) (by decide +kernel)⟩) hri (by decide) (show DS w L C M Z0 Z0 X Z0 w' from hA.set6 (by rw [splice_all _ _ (by rw [X656.out, hz656])] at o'; exact o') g'))
          · intro a w5 r hF hI hns hri h1 h2 hd
            have e31 : a.eval (.tmp 31) = .int .i64 E := hd 11 (by decide +kernel)
            exact doesZ_read (v := .int .i64 E) (by decide) rfl (ex_assign rfl e31) hI rfl
        · intro vs r w9 hI hS hvs
          have hz9 : DS w L C M Z0 Z0 X Z0 w9 := hI.at_ 3 (.inr ⟨by decide, hS 12 (by decide)⟩) (.inl rfl)
          have ee : vs 13 = .int .i64 E := hvs 13 (by decide)
          have HD := Lib.hid hz9
          clear hI hS hvs hz9
          simp only [putOps, Act.put, List.setIfInBounds_toArray, List.set_cons_zero, List.set_cons_succ, ee]
          clear ee
          generalize vs 0 = z0 at *; generalize vs 1 = z1 at *; generalize vs 2 = z2 at *; generalize vs 3 = z3 at *; generalize vs 4 = z4 at *; generalize vs 5 = z5 at *; generalize vs 6 = z6 at *; generalize vs 7 = z7 at *; generalize vs 8 = z8 at *; generalize vs 9 = z9 at *; generalize vs 10 = z10 at *; generalize vs 11 = z11 at *
          go_upto_region 6 with fail
          refine wp_region_z (by kernel_rfl) [6, 8, 12] (by kernel_rfl) (by kernel_rfl) (Stg [6, 8, 12] (GD 3 (DS w L C M Z0 Z0 X Z0) (DS w L C M Z0 Z0 X X))) [.pre (.agg L.toArray), .pre (.pointer (some ⟨(w.heap.size + 2), 1, none⟩)), .pre (.slice ua pl uc), .pre (.pointer (some ⟨(w.heap.size + 2), 3, none⟩)), .pre (.agg (row8 x.salt).toArray), .pre (.agg C.toArray), .pre (.int .i64 K), .pre (.agg M.toArray), .pre (.tuple #[.agg X.toArray, .int .i64 E]), .pre (.tuple #[.agg X.toArray, .int .i64 E]), .pre (.agg X.toArray), .pre (.int .i64 E), .any, .pre (.int .i64 E)] (fun i hi hq => by
              simp only [List.mem_cons, List.mem_nil_iff, or_false] at hi
              rcases hi with rfl | rfl | rfl
              · exact absurd hq (by decide +kernel)
              · exact absurd hq (by decide +kernel)
              · rfl) (Stg.zero (show DS w L C M Z0 Z0 X Z0 _ from (HD.out.below (Below.refl _ _).drew))) ?_ ?_
          · refine ⟨?_, ?_, ?_, ?_, ?_, ?_, ?_, ?_, ?_, ?_, ?_, ?_, ?_, ?_, trivial⟩
            · intro a w5 r hF hI hns hri h1 h2 hd
              have e5 : a.eval (.tmp 5) = .pointer (some ⟨(w.heap.size + 1), 0, none⟩) := hF 5 (by decide +kernel)
              obtain ⟨k, hk1, hk2, hA⟩ : ∃ k, 0 ≤ k ∧ k ≤ 1 ∧ GD 3 (DS w L C M Z0 Z0 X Z0) (DS w L C M Z0 Z0 X X) k r w5 := hI.between 0 1 (.inl rfl) (.inr ⟨by decide, h1 8 (by decide) (by decide +kernel)⟩)
              have hA : DS w L C M Z0 Z0 X Z0 w5 := by
                rcases (show k = 0 ∨ k = 1 by omega) with rfl | rfl
                · exact hA
                · exact hA
              have hrr := hA.b1.range
              exact doesZ_ld (by decide) rfl 34 (.tmp 5) rfl (w.heap.size + 1) 0 e5 L hrr _ Tryd.underlying34 rfl (by rw [L656.out]; exact infoTr) hI rfl
            · intro a w5 r hF hI hns hri h1 h2 hd
              have e6 : a.eval (.tmp 6) = .pointer (some ⟨(w.heap.size + 2), 0, none⟩) := hF 6 (by decide +kernel)
              exact doesZ_read (v := .pointer (some ⟨(w.heap.size + 2), 1, none⟩)) (by decide) rfl (ex_fieldAddr rfl e6 (by go_simp)) hI rfl
            · intro a w5 r hF hI hns hri h1 h2 hd
              have e34 : a.eval (.tmp 34) = .pointer (some ⟨(w.heap.size + 2), 1, none⟩) := hd 1 (by decide +kernel)
              obtain ⟨k, hk1, hk2, hA⟩ : ∃ k, 0 ≤ k ∧ k ≤ 1 ∧ GD 3 (DS w L C M Z0 Z0 X Z0) (DS w L C M Z0 Z0 X X) k r w5 := hI.between 0 1 (.inl rfl) (.inr ⟨by decide, h1 8 (by decide) (by decide +kernel)⟩)
              have hA : DS w L C M Z0 Z0 X Z0 w5 := by
                rcases (show k = 0 ∨ k = 1 by omega) with rfl | rfl
                · exact hA
                · exact hA
              have ct := hA.b2.cell 1 _ (by rw [HCE.out]; rfl)
              exact doesZ_read (v := .slice ua pl uc) (by decide) rfl (by unfold execOp; simp only [e34]; go_simp) hI rfl
            · intro a w5 r hF hI hns hri h1 h2 hd
              have e6 : a.eval (.tmp 6) = .pointer (some ⟨(w.heap.size + 2), 0, none⟩) := hF 6 (by decide +kernel)
              exact doesZ_read (v := .pointer (some ⟨(w.heap.size + 2), 3, none⟩)) (by decide) rfl (ex_fieldAddr rfl e6 (by go_simp)) hI rfl
            · intro a w5 r hF hI hns hri h1 h2 hd
              have e36 : a.eval (.tmp 36) = .pointer (some ⟨(w.heap.size + 2), 3, none⟩) := hd 3 (by decide +kernel)
              obtain ⟨k, hk1, hk2, hA⟩ : ∃ k, 0 ≤ k ∧ k ≤ 1 ∧ GD 3 (DS w L C M Z0 Z0 X Z0) (DS w L C M Z0 Z0 X X) k r w5 := hI.between 0 1 (.inl rfl) (.inr ⟨by decide, h1 8 (by decide) (by decide +kernel)⟩)
              have hA : DS w L C M Z0 Z0 X Z0 w5 := by
                rcases (show k = 0 ∨ k = 1 by omega) with rfl | rfl
                · exact hA
                · exact hA
              have hrr := HSA.out _ hA.b2
              exact doesZ_ld (by decide) rfl 23 (.tmp 36) rfl (w.heap.size + 2) 3 e36 (row8 x.salt) hrr _ Tryd.underlying23 rfl (by rw [SA16.out]; exact info162) hI rfl
            · intro a w5 r hF hI hns hri h1 h2 hd
              have e6 : a.eval (.tmp 6) = .pointer (some ⟨(w.heap.size + 2), 0, none⟩) := hF 6 (by decide +kernel)
              have hA : GD 3 (DS w L C M Z0 Z0 X Z0) (DS w L C M Z0 Z0 X X) 0 r w5 := hI.at_ 0 (.inl rfl) (.inr ⟨by decide, h1 6 (by decide) (by decide +kernel)⟩)
              have hA : DS w L C M Z0 Z0 X Z0 w5 := hA
              have hrr := hA.b2.range
              exact doesZ_ld (by decide) rfl 56 (.tmp 6) rfl (w.heap.size + 2) 0 e6 C hrr _ Tryd.underlying56 rfl (by rw [C20.out]; exact infoAct) hI rfl
            · intro a w5 r hF hI hns hri h1 h2 hd
              have e38 : a.eval (.tmp 38) = .agg C.toArray := hd 5 (by decide +kernel)
              have hA : GD 3 (DS w L C M Z0 Z0 X Z0) (DS w L C M Z0 Z0 X X) 0 r w5 := hI.at_ 0 (.inl rfl) (.inr ⟨by decide, hri⟩)
              have hA : DS w L C M Z0 Z0 X Z0 w5 := hA
              exact doesZ_call (by decide) rfl (ex_call (vs := #[.agg C.toArray]) rfl (by simp only [List.map_toArray, List.map_cons, List.map_nil, e38]) (by go_simp)) ((HTV.out w5 hA).mono fun e w6 hh => by obtain ⟨he, hl⟩ := hh; exact ⟨_, he, hI.next 0 6 _ rfl (by decide) (.inl rfl) hri (by decide) (show DS w L C M Z0 Z0 X Z0 w6 from hl), rfl⟩)
            · intro a w5 r hF hI hns hri h1 h2 hd
              have e7 : a.eval (.tmp 7) = .pointer (some ⟨(w.heap.size + 3), 0, none⟩) := hF 7 (by decide +kernel)
              obtain ⟨k, hk1, hk2, hA⟩ : ∃ k, 0 ≤ k ∧ k ≤ 1 ∧ GD 3 (DS w L C M Z0 Z0 X Z0) (DS w L C M Z0 Z0 X X) k r w5 := hI.between 0 1 (.inl rfl) (.inr ⟨by decide, h1 8 (by decide) (by decide +kernel)⟩)
              have hA : DS w L C M Z0 Z0 X Z0 w5 := by
                rcases (show k = 0 ∨ k = 1 by omega) with rfl | rfl
                · exact hA
                · exact hA
              have hrr := hA.b3.range
              exact doesZ_ld (by decide) rfl 25 (.tmp 7) rfl (w.heap.size + 3) 0 e7 M hrr _ Tryd.underlying25 rfl (by rw [M32.out]; exact infoK2) hI rfl
            · intro a w5 r hF hI hns hri h1 h2 hd
              have e33 : a.eval (.tmp 33) = .agg L.toArray := hd 0 (by decide +kernel)
              have e35 : a.eval (.tmp 35) = .slice ua pl uc := hd 2 (by decide +kernel)
              have e37 : a.eval (.tmp 37) = .agg (row8 x.salt).toArray := hd 4 (by decide +kernel)
              have e39 : a.eval (.tmp 39) = .int .i64 K := hd 6 (by decide +kernel)
              have e40 : a.eval (.tmp 40) = .agg M.toArray := hd 7 (by decide +kernel)
              have hA : GD 3 (DS w L C M Z0 Z0 X Z0) (DS w L C M Z0 Z0 X X) 1 r w5 := hI.at_ 1 (.inr ⟨by decide, h2 6 (by decide) (by decide +kernel)⟩) (.inr ⟨by decide, hri⟩)
              have hA : DS w L C M Z0 Z0 X Z0 w5 := hA
              exact doesZ_call (by decide) rfl (ex_call (vs := #[.agg L.toArray, .slice ua pl uc, .agg (row8 x.salt).toArray, .int .i64 K, .agg M.toArray]) rfl (by simp only [List.map_toArray, List.map_cons, List.map_nil, e33, e35, e37, e39, e40]) (by go_simp)) ((HRF.out w5 hA).mono fun e w6 hh => by obtain ⟨he, hl⟩ := hh; exact ⟨_, he, hI.next 1 8 _ rfl (by decide) (.inr ⟨by decide, h2 6 (by decide) (by decide +kernel)⟩) hri (by decide) (show DS w L C M Z0 Z0 X Z0 w6 from hl), rfl⟩)
            · intro a w5 r hF hI hns hri h1 h2 hd
              have e41 : a.eval (.tmp 41) = .tuple #[.agg X.toArray, .int .i64 E] := hd 8 (by decide +kernel)
              exact doesZ_read (v := .tuple #[.agg X.toArray, .int .i64 E]) (by decide) rfl (ex_move rfl e41) hI rfl
            · intro a w5 r hF hI hns hri h1 h2 hd
              have e32 : a.eval (.tmp 32) = .tuple #[.agg X.toArray, .int .i64 E] := hd 9 (by decide +kernel)
              exact doesZ_read (v := .agg X.toArray) (by decide) rfl (by unfold execOp; simp only [e32]; go_simp) hI rfl
            · intro a w5 r hF hI hns hri h1 h2 hd
              have e32 : a.eval (.tmp 32) = .tuple #[.agg X.toArray, .int .i64 E] := hd 9 (by decide +kernel)
              exact doesZ_read (v := .int .i64 E) (by decide) rfl (by unfold execOp; simp only [e32]; go_simp) hI rfl
            · intro a w5 r hF hI hns hri h1 h2 hd
              have e13 : a.eval (.tmp 13) = .pointer (some ⟨(w.heap.size + 7), 0, none⟩) := hF 13 (by decide +kernel)
              have e42 : a.eval (.tmp 42) = .agg X.toArray := hd 10 (by decide +kernel)
              have hA : GD 3 (DS w L C M Z0 Z0 X Z0) (DS w L C M Z0 Z0 X X) 2 r w5 := hI.at_ 2 (.inr ⟨by decide, h2 8 (by decide) (by decide +kernel)⟩) (.inr ⟨by decide, hri⟩)
              have hA : DS w L C M Z0 Z0 X Z0 w5 := hA
              exact doesZ_put (by decide) rfl 34 (.tmp 13) (.tmp 42) rfl (w.heap.size + 7) 0 X e13 e42 34 Z0 hA.b7 (by rw [X656.out, hz656]; exact Nat.le_refl _) (by rw [X656.out]; exact infoTr) XONE.out rfl (fun w' o' g' => hI.next 2 12 _ rfl (by decide) (.inr ⟨by decide, h2 8 (by decide) (by decide +kernel)⟩) hri (by decide) (show DS w L C M Z0 Z0 X X w' from hA.set7 (by rw [splice_all _ _ (by rw [X656.out, hz656])] at o'; exact o') g'))
            · intro a w5 r hF hI hns hri h1 h2 hd
              have e43 : a.eval (.tmp 43) = .int .i64 E := hd 11 (by decide +kernel)
              exact doesZ_read (v := .int .i64 E) (by decide) rfl (ex_assign rfl e43) hI rfl
          · intro vs r w9 hI hS hvs
            have hz9 : DS w L C M Z0 Z0 X X w9 := hI.at_ 3 (.inr ⟨by decide, hS 12 (by decide)⟩) (.inl rfl)
            have ee : vs 13 = .int .i64 E := hvs 13 (by decide)
            have HD := Lib.hid hz9
            clear hI hS hvs hz9
            simp only [putOps, Act.put, List.setIfInBounds_toArray, List.set_cons_zero, List.set_cons_succ, ee]
            clear ee
            generalize vs 0 = z0 at *; generalize vs 1 = z1 at *; generalize vs 2 = z2 at *; generalize vs 3 = z3 at *; generalize vs 4 = z4 at *; generalize vs 5 = z5 at *; generalize vs 6 = z6 at *; generalize vs 7 = z7 at *; generalize vs 8 = z8 at *; generalize vs 9 = z9 at *; generalize vs 10 = z10 at *; generalize vs 11 = z11 at *
            go_upto_region 16 with ((fail_if_success (with_reducible show bodyPost _ _ _ _ _ _)); first
              | (refine wpList_load_mid rfl 30 (.tmp 12) rfl (w.heap.size + 6) 0 rfl X _ HD.out.b6.range Tryd.underlying30 rfl (by rw [X656.out]; exact infoTb) ?_)
              | (refine wpList_load_mid rfl 34 (.tmp 13) rfl (w.heap.size + 7) 0 rfl X _ HD.out.b7.range Tryd.underlying34 rfl (by rw [X656.out]; exact infoTr) ?_)
              | (refine wpList_bin rfl (b := .eql) (t := 34) (x := .tmp 88) (y := .tmp 89) rfl (.bool true) rfl rfl (run_eqGuard_agg _ _ _ _ _ _ _ eqTypeTr) (hxx _) ?_))
            refine wp_region_z (by kernel_rfl) [3, 4] (by kernel_rfl) (by kernel_rfl) (Stg [3, 4] (GE (DS w L C M Z0 Z0 X X) (DS w L C M X Z0 X X) (DS w L C M X X X X))) [.pre (.agg X.toArray), .pre (.agg X.toArray), .pre (.bool true), .any, .any, .pre (.int .i64 0), .pre (.bool true)] (fun i hi hq => by
                simp only [List.mem_cons, List.mem_nil_iff, or_false] at hi
                rcases hi with rfl | rfl
                · rfl
                · rfl) (Stg.zero (show DS w L C M Z0 Z0 X X _ from (HD.out.below (Below.refl _ _).drew))) ?_ ?_
            · refine ⟨?_, ?_, ?_, ?_, ?_, ?_, ?_, trivial⟩
              · intro a w5 r hF hI hns hri h1 h2 hd
                have e12 : a.eval (.tmp 12) = .pointer (some ⟨(w.heap.size + 6), 0, none⟩) := hF 12 (by decide +kernel)
                obtain ⟨k, hk1, hk2, hA⟩ : ∃ k, 0 ≤ k ∧ k ≤ 0 ∧ GE (DS w L C M Z0 Z0 X X) (DS w L C M X Z0 X X) (DS w L C M X X X X) k r w5 := hI.between 0 0 (.inl rfl) (.inr ⟨by decide, h1 3 (by decide) (by decide +kernel)⟩)
                obtain rfl : k = 0 := by omega
                have hA : DS w L C M Z0 Z0 X X w5 := hA
                have hrr := hA.b6.range
                exact doesZ_ld (by decide) rfl 30 (.tmp 12) rfl (w.heap.size + 6) 0 e12 X hrr _ Tryd.underlying30 rfl (by rw [X656.out]; exact infoTb) hI rfl
              · intro a w5 r hF hI hns hri h1 h2 hd
                have e13 : a.eval (.tmp 13) = .pointer (some ⟨(w.heap.size + 7), 0, none⟩) := hF 13 (by decide +kernel)
                obtain ⟨k, hk1, hk2, hA⟩ : ∃ k, 0 ≤ k ∧ k ≤ 1 ∧ GE (DS w L C M Z0 Z0 X X) (DS w L C M X Z0 X X) (DS w L C M X X X X) k r w5 := hI.between 0 1 (.inl rfl) (.inr ⟨by decide, h1 4 (by decide) (by decide +kernel)⟩)
                have hrr : w5.rangeAt (w.heap.size + 7) 0 X := by
                  rcases (show k = 0 ∨ k = 1 by omega) with rfl | rfl
                  · exact (show DS w L C M Z0 Z0 X X w5 from hA).b7.range
                  · exact (show DS w L C M X Z0 X X w5 from hA).b7.range
                exact doesZ_ld (by decide) rfl 34 (.tmp 13) rfl (w.heap.size + 7) 0 e13 X hrr _ Tryd.underlying34 rfl (by rw [X656.out]; exact infoTr) hI rfl
              · intro a w5 r hF hI hns hri h1 h2 hd
                have e16 : a.eval (.tmp 16) = .bool true := hF 16 (by decide +kernel)
                exact doesZ_read (v := .bool true) (by decide) rfl (ex_move rfl e16) hI rfl
              · intro a w5 r hF hI hns hri h1 h2 hd
                have e8 : a.eval (.tmp 8) = .pointer (some ⟨(w.heap.size + 4), 0, none⟩) := hF 8 (by decide +kernel)
                have e102 : a.eval (.tmp 102) = .agg X.toArray := hd 0 (by decide +kernel)
                have hA : GE (DS w L C M Z0 Z0 X X) (DS w L C M X Z0 X X) (DS w L C M X X X X) 0 r w5 := hI.at_ 0 (.inl rfl) (.inr ⟨by decide, hri⟩)
                have hA : DS w L C M Z0 Z0 X X w5 := hA
                exact doesZ_put (by decide) rfl 30 (.tmp 8) (.tmp 102) rfl (w.heap.size + 4) 0 X e8 e102 30 Z0 hA.b4 (by rw [X656.out, hz656]; exact Nat.le_refl _) (by rw [X656.out]; exact infoTb) XONE.out rfl (fun w' o' g' => hI.next 0 3 _ rfl (by decide) (.inl rfl) hri (by decide) (show DS w L C M X Z0 X X w' from hA.set4 (by rw [splice_all _ _ (by rw [X656.out, hz656])] at o'; exact o') g'))
              · intro a w5 r hF hI hns hri h1 h2 hd
                have e9 : a.eval (.tmp 9) = .pointer (some ⟨(w.heap.size + 5), 0, none⟩) := hF 9 (by decide +kernel)
                have e103 : a.eval (.tmp 103) = .agg X.toArray := hd 1 (by decide +kernel)
                have hA : GE (DS w L C M Z0 Z0 X X) (DS w L C M X Z0 X X) (DS w L C M X X X X) 1 r w5 := hI.at_ 1 (.inr ⟨by decide, h2 3 (by decide) (by decide +kernel)⟩) (.inr ⟨by decide, hri⟩)
                have hA : DS w L C M X Z0 X X w5 := hA
                exact doesZ_put (by decide) rfl 34 (.tmp 9) (.tmp 103) rfl (w.heap.size + 5) 0 X e9 e103 34 Z0 hA.b5 (by rw [X656.out, hz656]; exact Nat.le_refl _) (by rw [X656.out]; exact infoTr) XONE.out rfl (fun w' o' g' => hI.next 1 4 _ rfl (by decide) (.inr ⟨by decide, h2 3 (by decide) (by decide +kernel)⟩) hri (by decide) (show DS w L C M X X X X w' from hA.set5 (by rw [splice_all _ _ (by rw [X656.out, hz656])] at o'; exact o') g'))
              · intro a w5 r hF hI hns hri h1 h2 hd
                exact doesZ_read (v := .int .i64 0) (by decide) rfl (ex_assign rfl rfl) hI rfl
              · intro a w5 r hF hI hns hri h1 h2 hd
                have e104 : a.eval (.tmp 104) = .bool true := hd 2 (by decide +kernel)
                exact doesZ_read (v := .bool true) (by decide) rfl (ex_assign rfl e104) hI rfl
            · intro vs r w9 hI hS hvs
              have hz9 : DS w L C M X X X X w9 := hI.at_ 2 (.inr ⟨by decide, hS 4 (by decide)⟩) (.inl rfl)
              have e1 : vs 5 = .int .i64 0 := hvs 5 (by decide)
              have e2 : vs 6 = .bool true := hvs 6 (by decide)
              have HE := Lib.hid hz9
              clear hI hS hvs hz9
              simp only [putOps, Act.put, List.setIfInBounds_toArray, List.set_cons_zero, List.set_cons_succ, e1, e2]
              go_wp2_with fail
              exact bodyPost_ret (results_mid4 rfl _ _ (w.heap.size + 4) (w.heap.size + 5) X X _ _ rfl HE.out.b4.range Tryd.underlying30 rfl (by rw [X656.out]; exact infoTb) rfl HE.out.b5.range Tryd.underlying34 rfl (by rw [X656.out]; exact infoTr)) rfl ⟨Eq.trans (b := Ending.returned (.tuple #[.agg X.toArray, .agg X.toArray, .int .i64 0, .bool true])) rfl rfl, HE.out.bel⟩
      · skip
        go_enter Tryd.func21, Tryd.ntmps21
        go_upto_region 4 with fail
        rw [← HW8.out]
        clear HW8
        have c0 := HC0.out _ HD0.out.b2
        go_upto_region 5 with fail
        have HD := HD0
        clear HD0 c0
        refine wp_region_z (by kernel_rfl) [6, 8, 12] (by kernel_rfl) (by kernel_rfl) (Stg [6, 8, 12] (GD 3 (DS w L C M Z0 Z0 Z0 Z0) (DS w L C M Z0 Z0 X Z0))) [.pre (.agg L.toArray), .pre (.pointer (some ⟨(w.heap.size + 2), 1, none⟩)), .pre (.slice ua pl uc), .pre (.pointer (some ⟨(w.heap.size + 2), 3, none⟩)), .pre (.agg (row8 x.salt).toArray), .pre (.agg C.toArray), .pre (.int .i64 K), .pre (.agg M.toArray), .pre (.tuple #[.agg X.toArray, .int .i64 E]), .pre (.tuple #[.agg X.toArray, .int .i64 E]), .pre (.agg X.toArray), .pre (.int .i64 E), .any, .pre (.int .i64 E)] (fun i hi hq => by
            simp only [List.mem_cons, List.mem_nil_iff, or_false] at hi
            rcases hi with rfl | rfl | rfl
            · exact absurd hq (by decide +kernel)
            · exact absurd hq (by decide +kernel)
            · rfl) (Stg.zero (show DS w L C M Z0 Z0 Z0 Z0 _ from (HD.out.below (Below.refl _ _).drew))) ?_ ?_
        · refine ⟨?_, ?_, ?_, ?_, ?_, ?_, ?_, ?_, ?_, ?_, ?_, ?_, ?_, ?_, trivial⟩
          · intro a w5 r hF hI hns hri h1 h2 hd
            have e4 : a.eval (.tmp 4) = .pointer (some ⟨w.heap.size, 0, none⟩) := hF 4 (by decide +kernel)
            obtain ⟨k, hk1, hk2, hA⟩ : ∃ k, 0 ≤ k ∧ k ≤ 1 ∧ GD 3 (DS w L C M Z0 Z0 Z0 Z0) (DS w L C M Z0 Z0 X Z0) k r w5 := hI.between 0 1 (.inl rfl) (.inr ⟨by decide, h1 8 (by decide) (by decide +kernel)⟩)
            have hA : DS w L C M Z0 Z0 Z0 Z0 w5 := by
              rcases (show k = 0 ∨ k = 1 by omega) with rfl | rfl
              · exact hA
              · exact hA
            have hrr := hA.b0.range
            exact doesZ_ld (by decide) rfl 30 (.tmp 4) rfl w.heap.size 0 e4 L hrr _ Tryd.underlying30 rfl (by rw [L656.out]; exact infoTb) hI rfl
          · intro a w5 r hF hI hns hri h1 h2 hd
            have e6 : a.eval (.tmp 6) = .pointer (some ⟨(w.heap.size + 2), 0, none⟩) := hF 6 (by decide +kernel)
            exact doesZ_read (v := .pointer (some ⟨(w.heap.size + 2), 1, none⟩)) (by decide) rfl (ex_fieldAddr rfl e6 (by go_simp)) hI rfl
          · intro a w5 r hF hI hns hri h1 h2 hd
            have e22 : a.eval (.tmp 22) = .pointer (some ⟨(w.heap.size + 2), 1, none⟩) := hd 1 (by decide +kernel)
            obtain ⟨k, hk1, hk2, hA⟩ : ∃ k, 0 ≤ k ∧ k ≤ 1 ∧ GD 3 (DS w L C M Z0 Z0 Z0 Z0) (DS w L C M Z0 Z0 X Z0) k r w5 := hI.between 0 1 (.inl rfl) (.inr ⟨by decide, h1 8 (by decide) (by decide +kernel)⟩)
            have hA : DS w L C M Z0 Z0 Z0 Z0 w5 := by
              rcases (show k = 0 ∨ k = 1 by omega) with rfl | rfl
              · exact hA
              · exact hA
            have ct := hA.b2.cell 1 _ (by rw [HCE.out]; rfl)
            exact doesZ_read (v := .slice ua pl uc) (by decide) rfl (by unfold execOp; simp only [e22]; go_simp) hI rfl
          · intro a w5 r hF hI hns hri h1 h2 hd
            have e6 : a.eval (.tmp 6) = .pointer (some ⟨(w.heap.size + 2), 0, none⟩) := hF 6 (by decide +kernel)
            exact doesZ_read (v := .pointer (some ⟨(w.heap.size + 2), 3, none⟩)) (by decide) rfl (ex_fieldAddr rfl e6 (by go_simp)) hI rfl
          · intro a w5 r hF hI hns hri h1 h2 hd
            have e24 : a.eval (.tmp 24) = .pointer (some ⟨(w.heap.size + 2), 3, none⟩) := hd 3 (by decide +kernel)
            obtain ⟨k, hk1, hk2, hA⟩ : ∃ k, 0 ≤ k ∧ k ≤ 1 ∧ GD 3 (DS w L C M Z0 Z0 Z0 Z0) (DS w L C M Z0 Z0 X Z0) k r w5 := hI.between 0 1 (.inl rfl) (.inr ⟨by decide, h1 8 (by decide) (by decide +kernel)⟩)
            have hA : DS w L C M Z0 Z0 Z0 Z0 w5 := by
              rcases (show k = 0 ∨ k = 1 by omega) with rfl | rfl
              · exact hA
              · exact hA
            have hrr := HSA.out _ hA.b2
            exact doesZ_ld (by decide) rfl 23 (.tmp 24) rfl (w.heap.size + 2) 3 e24 (row8 x.salt) hrr _ Tryd.underlying23 rfl (by rw [SA16.out]; exact info162) hI rfl
          · intro a w5 r hF hI hns hri h1 h2 hd
            have e6 : a.eval (.tmp 6) = .pointer (some ⟨(w.heap.size + 2), 0, none⟩) := hF 6 (by decide +kernel)
            have hA : GD 3 (DS w L C M Z0 Z0 Z0 Z0) (DS w L C M Z0 Z0 X Z0) 0 r w5 := hI.at_ 0 (.inl rfl) (.inr ⟨by decide, h1 6 (by decide) (by decide +kernel)⟩)
            have hA : DS w L C M Z0 Z0 Z0 Z0 w5 := hA
            have hrr := hA.b2.range
            exact doesZ_ld (by decide) rfl 56 (.tmp 6) rfl (w.heap.size + 2) 0 e6 C hrr _ Tryd.underlying56 rfl (by rw [C20.out]; exact infoAct) hI rfl
          · intro a w5 r hF hI hns hri h1 h2 hd
            have e26 : a.eval (.tmp 26) = .agg C.toArray := hd 5 (by decide +kernel)
            have hA : GD 3 (DS w L C M Z0 Z0 Z0 Z0) (DS w L C M Z0 Z0 X Z0) 0 r w5 := hI.at_ 0 (.inl rfl) (.inr ⟨by decide, hri⟩)
            have hA : DS w L C M Z0 Z0 Z0 Z0 w5 := hA
            exact doesZ_call (by decide) rfl (ex_call (vs := #[.agg C.toArray]) rfl (by simp only [List.map_toArray, List.map_cons, List.map_nil, e26]) (by go_simp)) ((HTU.out w5 hA).mono fun e w6 hh => by obtain ⟨he, hl⟩ := hh; exact ⟨_, he, hI.next 0 6 _ rfl (by decide) (.inl rfl) hri (by decide) (show DS w L C M Z0 Z0 Z0 Z0 w6 from hl), rfl⟩)
          · intro a w5 r hF hI hns hri h1 h2 hd
            have e7 : a.eval (.tmp 7) = .pointer (some ⟨(w.heap.size + 3), 0, none⟩) := hF 7 (by decide +kernel)
            obtain ⟨k, hk1, hk2, hA⟩ : ∃ k, 0 ≤ k ∧ k ≤ 1 ∧ GD 3 (DS w L C M Z0 Z0 Z0 Z0) (DS w L C M Z0 Z0 X Z0) k r w5 := hI.between 0 1 (.inl rfl) (.inr ⟨by decide, h1 8 (by decide) (by decide +kernel)⟩)
            have hA : DS w L C M Z0 Z0 Z0 Z0 w5 := by
              rcases (show k = 0 ∨ k = 1 by omega) with rfl | rfl
              · exact hA
              · exact hA
            have hrr := hA.b3.range
            exact doesZ_ld (by decide) rfl 25 (.tmp 7) rfl (w.heap.size + 3) 0 e7 M hrr _ Tryd.underlying25 rfl (by rw [M32.out]; exact infoK2) hI rfl
          · intro a w5 r hF hI hns hri h1 h2 hd
            have e21 : a.eval (.tmp 21) = .agg L.toArray := hd 0 (by decide +kernel)
            have e23 : a.eval (.tmp 23) = .slice ua pl uc := hd 2 (by decide +kernel)
            have e25 : a.eval (.tmp 25) = .agg (row8 x.salt).toArray := hd 4 (by decide +kernel)
            have e27 : a.eval (.tmp 27) = .int .i64 K := hd 6 (by decide +kernel)
            have e28 : a.eval (.tmp 28) = .agg M.toArray := hd 7 (by decide +kernel)
            have hA : GD 3 (DS w L C M Z0 Z0 Z0 Z0) (DS w L C M Z0 Z0 X Z0) 1 r w5 := hI.at_ 1 (.inr ⟨by decide, h2 6 (by decide) (by decide +kernel)⟩) (.inr ⟨by decide, hri⟩)
            have hA : DS w L C M Z0 Z0 Z0 Z0 w5 := hA
            exact doesZ_call (by decide) rfl (ex_call (vs := #[.agg L.toArray, .slice ua pl uc, .agg (row8 x.salt).toArray, .int .i64 K, .agg M.toArray]) rfl (by simp only [List.map_toArray, List.map_cons, List.map_nil, e21, e23, e25, e27, e28]) (by go_simp)) ((HPG.out w5 hA).mono fun e w6 hh => by obtain ⟨he, hl⟩ := hh; exact ⟨_, he, hI.next 1 8 _ rfl (by decide) (.inr ⟨by decide, h2 6 (by decide) (by decide +kernel)⟩) hri (by decide) (show DS w L C M Z0 Z0 Z0 Z0 w6 from hl), rfl⟩)
          · intro a w5 r hF hI hns hri h1 h2 hd
            have e29 : a.eval (.tmp 29) = .tuple #[.agg X.toArray, .int .i64 E] := hd 8 (by decide +kernel)
            exact doesZ_read (v := .tuple #[.agg X.toArray, .int .i64 E]) (by decide) rfl (ex_move rfl e29) hI rfl
          · intro a w5 r hF hI hns hri h1 h2 hd
            have e20 : a.eval (.tmp 20) = .tuple #[.agg X.toArray, .int .i64 E] := hd 9 (by decide +kernel)
            exact doesZ_read (v := .agg X.toArray) (by decide) rfl (by unfold execOp; simp only [e20]; go_simp) hI rfl
          · intro a w5 r hF hI hns hri h1 h2 hd
            have e20 : a.eval (.tmp 20) = .tuple #[.agg X.toArray, .int .i64 E] := hd 9 (by decide +kernel)
            exact doesZ_read (v := .int .i64 E) (by decide) rfl (by unfold execOp; simp only [e20]; go_simp) hI rfl
          · intro a w5 r hF hI hns hri h1 h2 hd
            have e12 : a.eval (.tmp 12) = .pointer (some ⟨(w.heap.size + 6), 0, none⟩) := hF 12 (by decide +kernel)
            have e30 : a.eval (.tmp 30) = .agg X.toArray := hd 10 (by decide +kernel)
            have hA : GD 3 (DS w L C M Z0 Z0 Z0 Z0) (DS w L C M Z0 Z0 X Z0) 2 r w5 := hI.at_ 2 (.inr ⟨by decide, h2 8 (by decide) (by decide +kernel)⟩) (.inr ⟨by decide, hri⟩)
            have hA : DS w L C M Z0 Z0 Z0 Z0 w5 := hA
            exact doesZ_put (by decide) rfl 30 (.tmp 12) (.tmp 30) rfl (w.heap.size + 6) 0 X e12 e30 30 Z0 hA.b6 (by rw [X656.out, hz656]; exact Nat.le_refl _) (by rw [X656.out]; exact infoTb) XONE.out rfl (fun w' o' g' => hI.next 2 12 _ rfl (by decide) (.inr ⟨by decide, h2 8 (by decide) (by decide +kernel)⟩) hri (by decide) (show DS w L C M Z0 Z0 X Z0 w' from hA.set6 (by rw [splice_all _ _ (by rw [X656.out, hz656])] at o'; exact o') g'))
          · intro a w5 r hF hI hns hri h1 h2 hd
            have e31 : a.eval (.tmp 31) = .int .i64 E := hd 11 (by decide +kernel)
            exact doesZ_read (v := .int .i64 E) (by decide) rfl (ex_assign rfl e31) hI rfl
        · intro vs r w9 hI hS hvs
          have hz9 : DS w L C M Z0 Z0 X Z0 w9 := hI.at_ 3 (.inr ⟨by decide, hS 12 (by decide)⟩) (.inl rfl)
          have ee : vs 13 = .int .i64 E := hvs 13 (by decide)
          have HD := Lib.hid hz9
          clear hI hS hvs hz9
          simp only [putOps, Act.put, List.setIfInBounds_toArray, List.set_cons_zero, List.set_cons_succ, ee]
          clear ee
          generalize vs 0 = z0 at *; generalize vs 1 = z1 at *; generalize vs 2 = z2 at *; generalize vs 3 = z3 at *; generalize vs 4 = z4 at *; generalize vs 5 = z5 at *; generalize vs 6 = z6 at *; generalize vs 7 = z7 at *; generalize vs 8 = z8 at *; generalize vs 9 = z9 at *; generalize vs 10 = z10 at *; generalize vs 11 = z11 at *
          go_upto_region 6 with fail
          refine wp_region_z (by kernel_rfl) [6, 8, 12] (by kernel_rfl) (by kernel_rfl) (Stg [6, 8, 12] (GD 3 (DS w L C M Z0 Z0 X Z0) (DS w L C M Z0 Z0 X X))) [.pre (.agg L.toArray), .pre (.pointer (some ⟨(w.heap.size + 2), 1, none⟩)), .pre (.slice ua pl uc), .pre (.pointer (some ⟨(w.heap.size + 2), 3, none⟩)), .pre (.agg (row8 x.salt).toArray), .pre (.agg C.toArray), .pre (.int .i64 K), .pre (.agg M.toArray), .pre (.tuple #[.agg X.toArray, .int .i64 E]), .pre (.tuple #[.agg X.toArray, .int .i64 E]), .pre (.agg X.toArray), .pre (.int .i64 E), .any, .pre (.int .i64 E)] (fun i hi hq => by
              simp only [List.mem_cons, List.mem_nil_iff, or_false] at hi
              rcases hi with rfl | rfl | rfl
              · exact absurd hq (by decide +kernel)
              · exact absurd hq (by decide +kernel)
              · rfl) (Stg.zero (show DS w L C M Z0 Z0 X Z0 _ from (HD.out.below (Below.refl _ _).drew))) ?_ ?_
          · refine ⟨?_, ?_, ?_, ?_, ?_, ?_, ?_, ?_, ?_, ?_, ?_, ?_, ?_, ?_, trivial⟩
            · intro a w5 r hF hI hns hri h1 h2 hd
              have e5 : a.eval (.tmp 5) = .pointer (some ⟨(w.heap.size + 1), 0, none⟩) := hF 5 (by decide +kernel)
              obtain ⟨k, hk1, hk2, hA⟩ : ∃ k, 0 ≤ k ∧ k ≤ 1 ∧ GD 3 (DS w L C M Z0 Z0 X Z0) (DS w L C M Z0 Z0 X X) k r w5 := hI.between 0 1 (.inl rfl) (.inr ⟨by decide, h1 8 (by decide) (by decide +kernel)⟩)
              have hA : DS w L C M Z0 Z0 X Z0 w5 := by
                rcases (show k = 0 ∨ k = 1 by omega) with rfl | rfl
                · exact hA
                · exact hA
              have hrr := hA.b1.range
              exact doesZ_ld (by decide) rfl 34 (.tmp 5) rfl (w.heap.size + 1) 0 e5 L hrr _ Tryd.underlying34 rfl (by rw [L656.out]; exact infoTr) hI rfl
            · intro a w5 r hF hI hns hri h1 h2 hd
              have e6 : a.eval (.tmp 6) = .pointer (some ⟨(w.heap.size + 2), 0, none⟩) := hF 6 (by decide +kernel)
              exact doesZ_read (v := .pointer (some ⟨(w.heap.size + 2), 1, none⟩)) (by decide) rfl (ex_fieldAddr rfl e6 (by go_simp)) hI rfl
            · intro a w5 r hF hI hns hri h1 h2 hd
              have e34 : a.eval (.tmp 34) = .pointer (some ⟨(w.heap.size + 2), 1, none⟩) := hd 1 (by decide +kernel)
              obtain ⟨k, hk1, hk2, hA⟩ : ∃ k, 0 ≤ k ∧ k ≤ 1 ∧ GD 3 (DS w L C M Z0 Z0 X Z0) (DS w L C M Z0 Z0 X X) k r w5 := hI.between 0 1 (.inl rfl) (.inr ⟨by decide, h1 8 (by decide) (by decide +kernel)⟩)
              have hA : DS w L C M Z0 Z0 X Z0 w5 := by
                rcases (show k = 0 ∨ k = 1 by omega) with rfl | rfl
                · exact hA
                · exact hA
              have ct := hA.b2.cell 1 _ (by rw [HCE.out]; rfl)
              exact doesZ_read (v := .slice ua pl uc) (by decide) rfl (by unfold execOp; simp only [e34]; go_simp) hI rfl
            · intro a w5 r hF hI hns hri h1 h2 hd
              have e6 : a.eval (.tmp 6) = .pointer (some ⟨(w.heap.size + 2), 0, none⟩) := hF 6 (by decide +kernel)
              exact doesZ_read (v := .pointer (some ⟨(w.heap.size + 2), 3, none⟩)) (by decide) rfl (ex_fieldAddr rfl e6 (by go_simp)) hI rfl
            · intro a w5 r hF hI hns hri h1 h2 hd
              have e36 : a.eval (.tmp 36) = .pointer (some ⟨(w.heap.size + 2), 3, none⟩) := hd 3 (by decide +kernel)
              obtain ⟨k, hk1, hk2, hA⟩ : ∃ k, 0 ≤ k ∧ k ≤ 1 ∧ GD 3 (DS w L C M Z0 Z0 X Z0) (DS w L C M Z0 Z0 X X) k r w5 := hI.between 0 1 (.inl rfl) (.inr ⟨by decide, h1 8 (by decide) (by decide +kernel)⟩)
              have hA : DS w L C M Z0 Z0 X Z0 w5 := by
                rcases (show k = 0 ∨ k = 1 by omega) with rfl | rfl
                · exact hA
                · exact hA
              have hrr := HSA.out _ hA.b2
              exact doesZ_ld (by decide) rfl 23 (.tmp 36) rfl (w.heap.size + 2) 3 e36 (row8 x.salt) hrr _ Tryd.underlying23 rfl (by rw [SA16.out]; exact info162) hI rfl
            · intro a w5 r hF hI hns hri h1 h2 hd
              have e6 : a.eval (.tmp 6) = .pointer (some ⟨(w.heap.size + 2), 0, none⟩) := hF 6 (by decide +kernel)
              have hA : GD 3 (DS w L C M Z0 Z0 X Z0) (DS w L C M Z0 Z0 X X) 0 r w5 := hI.at_ 0 (.inl rfl) (.inr ⟨by decide, h1 6 (by decide) (by decide +kernel)⟩)
              have hA : DS w L C M Z0 Z0 X Z0 w5 := hA
              have hrr := hA.b2.range
              exact doesZ_ld (by decide) rfl 56 (.tmp 6) rfl (w.heap.size + 2) 0 e6 C hrr _ Tryd.underlying56 rfl (by rw [C20.out]; exact infoAct) hI rfl
            · intro a w5 r hF hI hns hri h1 h2 hd
              have e38 : a.eval (.tmp 38) = .agg C.toArray := hd 5 (by decide +kernel)
              have hA : GD 3 (DS w L C M Z0 Z0 X Z0) (DS w L C M Z0 Z0 X X) 0 r w5 := hI.at_ 0 (.inl rfl) (.inr ⟨by decide, hri⟩)
              have hA : DS w L C M Z0 Z0 X Z0 w5 := hA
              exact doesZ_call (by decide) rfl (ex_call (vs := #[.agg C.toArray]) rfl (by simp only [List.map_toArray, List.map_cons, List.map_nil, e38]) (by go_simp)) ((HTV.out w5 hA).mono fun e w6 hh => by obtain ⟨he, hl⟩ := hh; exact ⟨_, he, hI.next 0 6 _ rfl (by decide) (.inl rfl) hri (by decide) (show DS w L C M Z0 Z0 X Z0 w6 from hl), rfl⟩)
            · intro a w5 r hF hI hns hri h1 h2 hd
              have e7 : a.eval (.tmp 7) = .pointer (some ⟨(w.heap.size + 3), 0, none⟩) := hF 7 (by decide +kernel)
              obtain ⟨k, hk1, hk2, hA⟩ : ∃ k, 0 ≤ k ∧ k ≤ 1 ∧ GD 3 (DS w L C M Z0 Z0 X Z0) (DS w L C M Z0 Z0 X X) k r w5 := hI.between 0 1 (.inl rfl) (.inr ⟨by decide, h1 8 (by decide) (by decide +kernel)⟩)
              have hA : DS w L C M Z0 Z0 X Z0 w5 := by
                rcases (show k = 0 ∨ k = 1 by omega) with rfl | rfl
                · exact hA
                · exact hA
              have hrr := hA.b3.range
              exact doesZ_ld (by decide) rfl 25 (.tmp 7) rfl (w.heap.size + 3) 0 e7 M hrr _ Tryd.underlying25 rfl (by rw [M32.out]; exact infoK2) hI rfl
            · intro a w5 r hF hI hns hri h1 h2 hd
              have e33 : a.eval (.tmp 33) = .agg L.toArray := hd 0 (by decide +kernel)
              have e35 : a.eval (.tmp 35) = .slice ua pl uc := hd 2 (by decide +kernel)
              have e37 : a.eval (.tmp 37) = .agg (row8 x.salt).toArray := hd 4 (by decide +kernel)
              have e39 : a.eval (.tmp 39) = .int .i64 K := hd 6 (by decide +kernel)
              have e40 : a.eval (.tmp 40) = .agg M.toArray := hd 7 (by decide +kernel)
              have hA : GD 3 (DS w L C M Z0 Z0 X Z0) (DS w L C M Z0 Z0 X X) 1 r w5 := hI.at_ 1 (.inr ⟨by decide, h2 6 (by decide) (by decide +kernel)⟩) (.inr ⟨by decide, hri⟩)
              have hA : DS w L C M Z0 Z0 X Z0 w5 := hA
              exact doesZ_call (by decide) rfl (ex_call (vs := #[.agg L.toArray, .slice ua pl uc, .agg (row8 x.salt).toArray, .int .i64 K, .agg M.toArray]) rfl (by simp only [List.map_toArray, List.map_cons, List.map_nil, e33, e35, e37, e39, e40]) (by go_simp)) ((HRF.out w5 hA).mono fun e w6 hh => by obtain ⟨he, hl⟩ := hh; exact ⟨_, he, hI.next 1 8 _ rfl (by decide) (.inr ⟨by decide, h2 6 (by decide) (by decide +kernel)⟩) hri (by decide) (show DS w L C M Z0 Z0 X Z0 w6 from hl), rfl⟩)
            · intro a w5 r hF hI hns hri h1 h2 hd
              have e41 : a.eval (.tmp 41) = .tuple #[.agg X.toArray, .int .i64 E] := hd 8 (by decide +kernel)
              exact doesZ_read (v := .tuple #[.agg X.toArray, .int .i64 E]) (by decide) rfl (ex_move rfl e41) hI rfl
            · intro a w5 r hF hI hns hri h1 h2 hd
              have e32 : a.eval (.tmp 32) = .tuple #[.agg X.toArray, .int .i64 E] := hd 9 (by decide +kernel)
              exact doesZ_read (v := .agg X.toArray) (by decide) rfl (by unfold execOp; simp only [e32]; go_simp) hI rfl
            · intro a w5 r hF hI hns hri h1 h2 hd
              have e32 : a.eval (.tmp 32) = .tuple #[.agg X.toArray, .int .i64 E] := hd 9 (by decide +kernel)
              exact doesZ_read (v := .int .i64 E) (by decide) rfl (by unfold execOp; simp only [e32]; go_simp) hI rfl
            · intro a w5 r hF hI hns hri h1 h2 hd
              have e13 : a.eval (.tmp 13) = .pointer (some ⟨(w.heap.size + 7), 0, none⟩) := hF 13 (by decide +kernel)
              have e42 : a.eval (.tmp 42) = .agg X.toArray := hd 10 (by decide +kernel)
              have hA : GD 3 (DS w L C M Z0 Z0 X Z0) (DS w L C M Z0 Z0 X X) 2 r w5 := hI.at_ 2 (.inr ⟨by decide, h2 8 (by decide) (by decide +kernel)⟩) (.inr ⟨by decide, hri⟩)
              have hA : DS w L C M Z0 Z0 X Z0 w5 := hA
              exact doesZ_put (by decide) rfl 34 (.tmp 13) (.tmp 42) rfl (w.heap.size + 7) 0 X e13 e42 34 Z0 hA.b7 (by rw [X656.out, hz656]; exact Nat.le_refl _) (by rw [X656.out]; exact infoTr) XONE.out rfl (fun w' o' g' => hI.next 2 12 _ rfl (by decide) (.inr ⟨by decide, h2 8 (by decide) (by decide +kernel)⟩) hri (by decide) (show DS w L C M Z0 Z0 X X w' from hA.set7 (by rw [splice_all _ _ (by rw [X656.out, hz656])] at o'; exact o') g'))
            · intro a w5 r hF hI hns hri h1 h2 hd
              have e43 : a.eval (.tmp 43) = .int .i64 E := hd 11 (by decide +kernel)
              exact doesZ_read (v := .int .i64 E) (by decide) rfl (ex_assign rfl e43) hI rfl
          · intro vs r w9 hI hS hvs
            have hz9 : DS w L C M Z0 Z0 X X w9 := hI.at_ 3 (.inr ⟨by decide, hS 12 (by decide)⟩) (.inl rfl)
            have ee : vs 13 = .int .i64 E := hvs 13 (by decide)
            have HD := Lib.hid hz9
            clear hI hS hvs hz9
            simp only [putOps, Act.put, List.setIfInBounds_toArray, List.set_cons_zero, List.set_cons_succ, ee]
            clear ee
            generalize vs 0 = z0 at *; generalize vs 1 = z1 at *; generalize vs 2 = z2 at *; generalize vs 3 = z3 at *; generalize vs 4 = z4 at *; generalize vs 5 = z5 at *; generalize vs 6 = z6 at *; generalize vs 7 = z7 at *; generalize vs 8 = z8 at *; generalize vs 9 = z9 at *; generalize vs 10 = z10 at *; generalize vs 11 = z11 at *
            go_upto_region 15 with ((fail_if_success (with_reducible show bodyPost _ _ _ _ _ _)); first
              | (refine wpList_load_mid rfl 30 (.tmp 12) rfl (w.heap.size + 6) 0 rfl X _ HD.out.b6.range Tryd.underlying30 rfl (by rw [X656.out]; exact infoTb) ?_)
              | (refine wpList_load_mid rfl 34 (.tmp 13) rfl (w.heap.size + 7) 0 rfl X _ HD.out.b7.range Tryd.underlying34 rfl (by rw [X656.out]; exact infoTr) ?_)
              | (refine wpList_bin rfl (b := .eql) (t := 34) (x := .tmp 88) (y := .tmp 89) rfl (.bool true) rfl rfl (run_eqGuard_agg _ _ _ _ _ _ _ eqTypeTr) (hxx _) ?_))
            refine wp_region_z (by kernel_rfl) [4, 5] (by kernel_rfl) (by kernel_rfl) (Stg [4, 5] (GE (DS w L C M Z0 Z0 X X) (DS w L C M L Z0 X X) (DS w L C M L L X X))) [.pre (.agg L.toArray), .pre (.agg L.toArray), .pre (.int .i64 E), .pre (.bool true), .any, .any, .pre (.int .i64 E), .pre (.bool true)] (fun i hi hq => by
                simp only [List.mem_cons, List.mem_nil_iff, or_false] at hi
                rcases hi with rfl | rfl
                · rfl
                · rfl) (Stg.zero (show DS w L C M Z0 Z0 X X _ from (HD.out.below (Below.refl _ _).drew))) ?_ ?_
            · refine ⟨?_, ?_, ?_, ?_, ?_, ?_, ?_, ?_, trivial⟩
              · intro a w5 r hF hI hns hri h1 h2 hd
                have e4 : a.eval (.tmp 4) = .pointer (some ⟨w.heap.size, 0, none⟩) := hF 4 (by decide +kernel)
                obtain ⟨k, hk1, hk2, hA⟩ : ∃ k, 0 ≤ k ∧ k ≤ 0 ∧ GE (DS w L C M Z0 Z0 X X) (DS w L C M L Z0 X X) (DS w L C M L L X X) k r w5 := hI.between 0 0 (.inl rfl) (.inr ⟨by decide, h1 4 (by decide) (by decide +kernel)⟩)
                obtain rfl : k = 0 := by omega
                have hA : DS w L C M Z0 Z0 X X w5 := hA
                have hrr := hA.b0.range
                exact doesZ_ld (by decide) rfl 30 (.tmp 4) rfl w.heap.size 0 e4 L hrr _ Tryd.underlying30 rfl (by rw [L656.out]; exact infoTb) hI rfl
              · intro a w5 r hF hI hns hri h1 h2 hd
                have e5 : a.eval (.tmp 5) = .pointer (some ⟨(w.heap.size + 1), 0, none⟩) := hF 5 (by decide +kernel)
                obtain ⟨k, hk1, hk2, hA⟩ : ∃ k, 0 ≤ k ∧ k ≤ 1 ∧ GE (DS w L C M Z0 Z0 X X) (DS w L C M L Z0 X X) (DS w L C M L L X X) k r w5 := hI.between 0 1 (.inl rfl) (.inr ⟨by decide, h1 5 (by decide) (by decide +kernel)⟩)
                have hrr : w5.rangeAt (w.heap.size + 1) 0 L := by
                  rcases (show k = 0 ∨ k = 1 by omega) with rfl | rfl
                  · exact (show DS w L C M Z0 Z0 X X w5 from hA).b1.range
                  · exact (show DS w L C M L Z0 X X w5 from hA).b1.range
                exact doesZ_ld (by decide) rfl 34 (.tmp 5) rfl (w.heap.size + 1) 0 e5 L hrr _ Tryd.underlying34 rfl (by rw [L656.out]; exact infoTr) hI rfl
              · intro a w5 r hF hI hns hri h1 h2 hd
                have e15 : a.eval (.tmp 15) = .int .i64 E := hF 15 (by decide +kernel)
                exact doesZ_read (v := .int .i64 E) (by decide) rfl (ex_move rfl e15) hI rfl
              · intro a w5 r hF hI hns hri h1 h2 hd
                have e16 : a.eval (.tmp 16) = .bool true := hF 16 (by decide +kernel)
                exact doesZ_read (v := .bool true) (by decide) rfl (ex_move rfl e16) hI rfl
              · intro a w5 r hF hI hns hri h1 h2 hd
                have e8 : a.eval (.tmp 8) = .pointer (some ⟨(w.heap.size + 4), 0, none⟩) := hF 8 (by decide +kernel)
                have e98 : a.eval (.tmp 98) = .agg L.toArray := hd 0 (by decide +kernel)
                have hA : GE (DS w L C M Z0 Z0 X X) (DS w L C M L Z0 X X) (DS w L C M L L X X) 0 r w5 := hI.at_ 0 (.inl rfl) (.inr ⟨by decide, hri⟩)
                have hA : DS w L C M Z0 Z0 X X w5 := hA
                exact doesZ_put (by decide) rfl 30 (.tmp 8) (.tmp 98) rfl (w.heap.size + 4) 0 L e8 e98 30 Z0 hA.b4 (by rw [L656.out, hz656]; exact Nat.le_refl _) (by rw [L656.out]; exact infoTb) LONE.out rfl (fun w' o' g' => hI.next 0 4 _ rfl (by decide) (.inl rfl) hri (by decide) (show DS w L C M L Z0 X X w' from hA.set4 (by rw [splice_all _ _ (by rw [L656.out, hz656])] at o'; exact o') g'))
              · intro a w5 r hF hI hns hri h1 h2 hd
                have e9 : a.eval (.tmp 9) = .pointer (some ⟨(w.heap.size + 5), 0, none⟩) := hF 9 (by decide +kernel)
                have e99 : a.eval (.tmp 99) = .agg L.toArray := hd 1 (by decide +kernel)
                have hA : GE (DS w L C M Z0 Z0 X X) (DS w L C M L Z0 X X) (DS w L C M L L X X) 1 r w5 := hI.at_ 1 (.inr ⟨by decide, h2 4 (by decide) (by decide +kernel)⟩) (.inr ⟨by decide, hri⟩)
                have hA : DS w L C M L Z0 X X w5 := hA
                exact doesZ_put (by decide) rfl 34 (.tmp 9) (.tmp 99) rfl (w.heap.size + 5) 0 L e9 e99 34 Z0 hA.b5 (by rw [L656.out, hz656]; exact Nat.le_refl _) (by rw [L656.out]; exact infoTr) LONE.out rfl (fun w' o' g' => hI.next 1 5 _ rfl (by decide) (.inr ⟨by decide, h2 4 (by decide) (by decide +kernel)⟩) hri (by decide) (show DS w L C M L L X X w' from hA.set5 (by rw [splice_all _ _ (by rw [L656.out, hz656])] at o'; exact o') g'))
              · intro a w5 r hF hI hns hri h1 h2 hd
                have e100 : a.eval (.tmp 100) = .int .i64 E := hd 2 (by decide +kernel)
                exact doesZ_read (v := .int .i64 E) (by decide) rfl (ex_assign rfl e100) hI rfl
              · intro a w5 r hF hI hns hri h1 h2 hd
                have e101 : a.eval (.tmp 101) = .bool true := hd 3 (by decide +kernel)
                exact doesZ_read (v := .bool true) (by decide) rfl (ex_assign rfl e101) hI rfl
            · intro vs r w9 hI hS hvs
              have hz9 : DS w L C M L L X X w9 := hI.at_ 2 (.inr ⟨by decide, hS 5 (by decide)⟩) (.inl rfl)
              have e1 : vs 6 = .int .i64 E := hvs 6 (by decide)
              have e2 : vs 7 = .bool true := hvs 7 (by decide)
              have HE := Lib.hid hz9
              clear hI hS hvs hz9
              simp only [putOps, Act.put, List.setIfInBounds_toArray, List.set_cons_zero, List.set_cons_succ, e1, e2]
              go_wp2_with fail
              exact bodyPost_ret (results_mid4 rfl _ _ (w.heap.size + 4) (w.heap.size + 5) L L _ _ rfl HE.out.b4.range Tryd.underlying30 rfl (by rw [L656.out]; exact infoTb) rfl HE.out.b5.range Tryd.underlying34 rfl (by rw [L656.out]; exact infoTr)) rfl ⟨Eq.trans (b := Ending.returned (.tuple #[.agg L.toArray, .agg L.toArray, .int .i64 E, .bool true])) rfl rfl, HE.out.bel⟩
end Go.Proofs.YtbepchikngoknaaDoor

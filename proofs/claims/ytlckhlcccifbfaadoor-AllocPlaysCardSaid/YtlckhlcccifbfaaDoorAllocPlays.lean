/- AllocPlays: any at most two hundred calls of Mark, Clear and Take leave used what the document says, and each one, and the list, the numbers and what Has tells behind each one, are as the document says; and the law's closed case holds. No condition. -/
import Derived.Test.YtlckhlcccifbfaaDoorRows
import Derived.Test.YtlckhlcccifbfaaDoorAlSame
import Derived.Test.YtlckhlcccifbfaaDoorActsA
import Derived.Test.YtlckhlcccifbfaaDoorLoadWanted
import Derived.Test.YtlckhlcccifbfaaDoorFactX
import Derived.RegionTactic
import Derived.BigRegion
import Derived.Test.YtlckhlcccifbfaaDoorDoorBits
import Derived.Test.YtlckhlcccifbfaaDoorTie
import Derived.Test.YtlckhlcccifbfaaDoorCards
import Derived.SevenTiedAt
import Derived.WalkKit
import Derived.ProofKit
import Derived.OpenShut
import Derived.SizedLaws
import Derived.Carry
import Derived.Deep.DeepHandedRow
import Derived.Deep.DeepWitnessRowRef
namespace Go.Proofs.YtlckhlcccifbfaaDoor.allocPlays
open Go.ChangeShapes Go.WideShapes Go.ChangeAt Go.RowKit

theorem own : ownKnob Tryd.prog.godebug = none := by kernel_rfl
set_option linter.unusedVariables false in
set_option maxHeartbeats 4000000 in
theorem walk (w : World) (ht : TabD w) (a0 : Int) (w0 : (Lit.int .i64 a0).wf = true) (v1 : Value) (l1 : List AA) (h1 : ActsA w v1 l1) :
    Calls Tryd.prog 3 #[.int .i64 a0, v1] w fun e w' => e = .returned (.bool true) ∧ Below w.heap.size w w' := by
  have HT := Lib.hid ht
  have HNW := Lib.hid (anew_any a0 w)
  have HRW := Lib.hid (fun W => rnew_any a0 W)
  obtain ⟨T, hTm⟩ : ∃ T, T = most a0 := ⟨_, rfl⟩
  have hT : T ≤ 65536 := by rw [hTm]; unfold most; omega
  rw [← hTm] at HNW HRW
  obtain ⟨ao, cap, rfl⟩ := h1.shape
  have HA := Lib.hid h1
  clear ht hTm
  go_enter Tryd.func3, Tryd.ntmps3
  by_cases hlen : 200 < l1.length
  · have hI : (200 : Int) < (l1.length : Int) := by omega
    go_wp2_with (go_at_call 9; refine (aawake_any w HT.out).mono ?_; rintro e1 w3 ⟨rfl, hb⟩; have B3 := Lib.hid hb; clear hb)
    go_ret
    exact ⟨rfl, B3.out⟩
  · have hI : ¬ (200 : Int) < (l1.length : Int) := by omega
    go_upto_region 4 with (first
      | (go_at_call 10; refine HNW.out.mono ?_; rintro e1 w1 ⟨b, g, rfl, qb, qg, s1, b1⟩; have QB := Lib.hid qb; have QG := Lib.hid qg; have S1 := Lib.hid s1; have B1 := Lib.hid b1; clear qb qg s1 b1)
      | (go_at_call 11; refine (HRW.out w1).mono ?_; rintro e2 w2 ⟨rfl, b2⟩; have S2 := Lib.hid (S1.out.below b2); have B2 := Lib.hid (B1.out.on b2); clear b2)
      | ((with_reducible show wpList _ _ _ (Oper.mk _ (.store _ (.tmp 6) _) _ _ _ _ :: _) _ _); refine wpList_store_blk rfl 28 (.tmp 6) (.tmp 16) rfl w2.heap.size 0 (rs T (.slice none 0 0)) rfl rfl 28 (rs 0 (.slice none 0 0)) (Blk.new w2 _ _ _ rfl) (Nat.le_refl _) infoSet (rs_one _ _ _ _) ?_; intro w3 hb hg; rw [splice_all _ _ (by rfl)] at hb; have R3 := Lib.hid hb; have D3 := Lib.hid (below_then (w := w2) ((Below.refl _ _).alloc (Nat.le_refl _) _) hg (Nat.le_refl _)); clear hb hg))
    have lc := R3.out.lt
    obtain ⟨c, hc⟩ : ∃ c, c = w2.heap.size := ⟨_, rfl⟩
    have HC := Lib.hid hc
    have E3 := Lib.hid (B2.out.on D3.out)
    have S3 := Lib.hid (S2.out.below D3.out)
    have HCW := Lib.hid (show w.heap.size ≤ c by rw [hc]; exact B2.out.size)
    have HCB := Lib.hid (show b < c ∧ g < c by rw [hc]; exact ⟨S2.out.lt.1, S2.out.lt.2.1⟩)
    rw [← hc] at R3 ⊢
    clear hc
    have HS3 := Lib.hid (asame_any b g T 0 _ _ w3 (by omega) S3.out (by rw [AL.lst_none]; exact Wd.none_ w3) (HT.out.below E3.out))
    go_wp2_with (first
      | ((with_reducible show wpList _ _ _ (Oper.mk _ (.load _ (.tmp 6)) _ _ _ _ :: _) _ _); refine wpList_load_wanted rfl 28 (.tmp 6) rfl c 0 rfl (rs T (.slice none 0 0)) _ R3.out.range Tryd.underlying28 rfl infoSet ?_)
      | (go_at_call 12; refine HS3.out.mono ?_; rintro e4 w4 ⟨rfl, b4⟩; have R4 := Lib.hid (R3.out.below b4 R3.out.lt); have S4 := Lib.hid (S3.out.below b4); have E4 := Lib.hid (E3.out.on b4); clear b4))
    go_loopw [7, 8] (fun ok x wr => ∃ (i : Nat) (u : Nat → Bool) (v : Value), i ≤ l1.length ∧ ok = .bool true ∧ x = .int .i64 (i : Int) ∧ Sets wr b g T u ∧ Blk wr c 28 (rs T v) ∧ Wd wr v (AL.lst T u) ∧ Below w.heap.size w wr) (fun _ x _ => l1.length - (intOf x).toNat)
    case atStart => exact ⟨0, _, _, Nat.zero_le _, rfl, rfl, S4.out, R4.out, by rw [AL.lst_none]; exact Wd.none_ w4, E4.out⟩
    case round =>
      obtain ⟨i, u, v, hi, hok, hx, ss, rr, vv, bw⟩ := hrel
      subst hok; subst hx
      obtain ⟨av, cv, hsh, _⟩ := vv.shape
      obtain ⟨L, hL⟩ : ∃ L, L = (AL.lst T u).length := ⟨_, rfl⟩
      rw [← hL] at hsh
      subst hsh
      have SS := Lib.hid ss
      have RR := Lib.hid rr
      have VV := Lib.hid vv
      have BW := Lib.hid bw
      clear ss vv bw hL S4 R4 E4 S3 R3 E3 HS3
      by_cases hlt : i < l1.length
      · obtain ⟨x, hx⟩ : ∃ x, l1[i]? = some x := ⟨l1[i], List.getElem?_eq_getElem hlt⟩
        obtain ⟨q, off, rfl, hk, hn, k0, k1⟩ := (HA.out.below BW.out).at_ i x hx
        have hlI : (i : Int) < (l1.length : Int) := by omega
        have r0 : wr.cell? ⟨c, 0, none⟩ = some (.int .i64 (T : Int)) := rr.cell 0 _ rfl
        have r1 : wr.cell? ⟨c, 1, none⟩ = some (.slice av L cv) := rr.cell 1 _ rfl
        have HD := Lib.hid (fun W (hW : Below wr.heap.size wr W) => show Calls Tryd.prog 13 #[.pointer (some ⟨b, 0, none⟩), .agg #[.int .i64 (T : Int), .slice av L cv], .agg #[.int .u8 (x.kind : Int), .int .u32 (x.n : Int)]] W fun e w' => ∃ u' v', e = .returned (.tuple #[.agg #[.int .i64 (T : Int), v'], .bool true]) ∧ Sets w' b g T u' ∧ Wd w' v' (AL.lst T u') ∧ W.grownBy w' (some g) from ado_any b g T u _ x.kind x.n W hn (SS.out.below hW) (VV.out.below hW) (HT.out.below (BW.out.on hW)))
        have HX := Lib.hid hx
        clear hx rr
        go_upto_region 10 with (fail)
        clear HNW HRW hI S1 B1 S2 B2 D3
        go_region_with ((go_at_call 13; refine (HD.out _ ((Below.refl _ _).drew)).mono ?_; rintro e5 w5 ⟨u5, v5, rfl, s5, hv5, g5⟩; obtain ⟨L5, hL5⟩ : ∃ y, y = (AL.lst T u5).length := ⟨_, rfl⟩; obtain ⟨a5, k5, hsh5, _⟩ := hv5.shape; rw [← hL5] at hsh5; subst hsh5; have R5 := Lib.hid (Blk.grown (RR.out.below ((Below.refl _ _).drew) RR.out.lt) g5 (fun e => by have := Option.some.inj e; have := HCB.out; omega)); have x0 := R5.out.cell 0 _ rfl; have x1 := R5.out.cell 1 _ rfl; have y0 := R5.out.free 0; have y1 := R5.out.free 1; have S5 := Lib.hid s5; have V5 := Lib.hid hv5; have G5 := Lib.hid g5; clear s5 hv5 g5 hL5))
        all_goals
          simp only [Act.put, List.getElem_toArray, List.getElem_cons_succ, List.getElem_cons_zero, List.setIfInBounds_toArray, List.set_cons_succ, List.set_cons_zero]
          generalize hW6 : ((w5.setCell ⟨c, 0, none⟩ (.int .i64 (T : Int))).setCell ⟨c, 1, none⟩ (.slice a5 L5 k5)) = W6
          have g6 : w5.grownBy W6 (some c) := by rw [← hW6]; exact only_set (p := ⟨c, 1, none⟩) (only_set (p := ⟨c, 0, none⟩) (World.grownBy.refl w5 (some c)) (.inl rfl) _) (.inl rfl) _
          have R6 := Lib.hid (show Blk W6 c 28 (rs T (.slice a5 L5 k5)) by rw [← hW6]; exact (R5.out.set 0 _).set 1 _)
          have S6 := Lib.hid (S5.out.grown g6 (fun e => by have := Option.some.inj e; have := HCB.out; omega) (fun e => by have := Option.some.inj e; have := HCB.out; omega))
          have V6 := Lib.hid (V5.out.besides g6 R5.out (rs_no32 _ _ _ _))
          have E6 := Lib.hid (below_then (below_then (BW.out.on ((Below.refl _ _).drew)) G5.out QG.out) g6 HCW.out)
          clear hW6 g6 R5 S5 V5 G5 HD k0 k1 r0 r1 x0 x1 y0 y1 SS RR VV BW
          have r0 : W6.cell? ⟨c, 0, none⟩ = some (.int .i64 (T : Int)) := R6.out.cell 0 _ rfl
          have r1 : W6.cell? ⟨c, 1, none⟩ = some (.slice a5 L5 k5) := R6.out.cell 1 _ rfl
          obtain ⟨q', off', hqq, _, _, _, k1⟩ := (HA.out.below E6.out).at_ i x HX.out
          obtain ⟨rfl, rfl⟩ : q = q' ∧ off = off' := by injection hqq with h1; injection h1 with h2 h3; exact ⟨h2, h3⟩
          have HK1 := Lib.hid (fun W (hW : Below W6.heap.size W6 W) => (hW.cell (World.block_lt_of_cell? W6 _ k1)).trans k1)
          have HLT := Lib.hid hlt
          have HSM := Lib.hid (fun W (hW : Below W6.heap.size W6 W) => show Calls Tryd.prog 12 #[.pointer (some ⟨b, 0, none⟩), .agg #[.int .i64 (T : Int), .slice a5 L5 k5], .int .u32 (x.n : Int)] W fun e w' => e = .returned (.bool true) ∧ Below W.heap.size W w' from asame_any b g T x.n u5 _ W hn (S6.out.below hW) (V6.out.below hW) (HT.out.below (E6.out.on hW)))
          clear hqq
          go_wp2_with fail
          refine wp_region_l (by kernel_rfl) 12 (by decide) (by kernel_rfl) (by kernel_rfl) (by kernel_rfl) [.val (.bool true), .val (.bool false), .val (.bool false), .val (.pointer (some ⟨b, 0, none⟩)), .val (.agg (rs T (.slice a5 L5 k5)).toArray), .val (.slice (some ⟨q, off, none⟩) l1.length cap), .val (.int .i64 (i : Int)), .val (.pointer (some ⟨q, off + i * 2, none⟩)), .val (.pointer (some ⟨q, off + i * 2 + 1, none⟩)), .val (.int .u32 (x.n : Int)), .val (.bool true), .val (.bool false)] ?_ ?_
          · refine ⟨?_, ?_, ?_, ?_, ?_, ?_, ?_, ?_, ?_, ?_, ?_, ?_, trivial⟩
            · intro a w' hF hB hd
              have e7 : a.eval (.tmp 7) = .bool true := hF 7 (by decide +kernel)
              exact doesL_val rfl (ex_move rfl e7) rfl
            · intro a w' hF hB hd
              have e41 : a.eval (.tmp 41) = .bool true := hd 0 (by decide +kernel)
              exact doesL_val rfl (v := .bool false) (by unfold execOp; simp only [e41]; go_simp) rfl
            · intro a w' hF hB hd
              have e42 : a.eval (.tmp 42) = .bool false := hd 1 (by decide +kernel)
              exact doesL_val rfl (ex_move rfl e42) rfl
            · intro a w' hF hB hd
              have e43 : a.eval (.tmp 43) = .bool false := hd 2 (by decide +kernel)
              have e5 : a.eval (.tmp 5) = .pointer (some ⟨b, 0, none⟩) := hF 5 (by decide +kernel)
              exact doesL_val (wanted_of rfl (yielded_of rfl e43)) (ex_move rfl e5) rfl
            · intro a w' hF hB hd
              have e43 : a.eval (.tmp 43) = .bool false := hd 2 (by decide +kernel)
              have e6 : a.eval (.tmp 6) = .pointer (some ⟨c, 0, none⟩) := hF 6 (by decide +kernel)
              exact doesL_val (wanted_of rfl (yielded_of rfl e43)) (ex_load_rs 28 (.tmp 6) rfl c 0 e6 (rs T (.slice a5 L5 k5)) _ ((R6.out.below hB R6.out.lt).range) Tryd.underlying28 rfl (infoSet)) rfl
            · intro a w' hF hB hd
              have e43 : a.eval (.tmp 43) = .bool false := hd 2 (by decide +kernel)
              have e1 : a.eval (.tmp 1) = .slice (some ⟨q, off, none⟩) l1.length cap := hF 1 (by decide +kernel)
              exact doesL_val (wanted_of rfl (yielded_of rfl e43)) (ex_move rfl e1) rfl
            · intro a w' hF hB hd
              have e43 : a.eval (.tmp 43) = .bool false := hd 2 (by decide +kernel)
              have e8 : a.eval (.tmp 8) = .int .i64 (i : Int) := hF 8 (by decide +kernel)
              exact doesL_val (wanted_of rfl (yielded_of rfl e43)) (ex_move rfl e8) rfl
            · intro a w' hF hB hd
              have e43 : a.eval (.tmp 43) = .bool false := hd 2 (by decide +kernel)
              have e46 : a.eval (.tmp 46) = .slice (some ⟨q, off, none⟩) l1.length cap := hd 5 (by decide +kernel)
              have e47 : a.eval (.tmp 47) = .int .i64 (i : Int) := hd 6 (by decide +kernel)
              have f46 : a.tmps[46]?.getD undef = .slice (some ⟨q, off, none⟩) l1.length cap := by rw [← Array.getD_eq_getD_getElem?]; exact e46
              have f47 : a.tmps[47]?.getD undef = .int .i64 (i : Int) := by rw [← Array.getD_eq_getD_getElem?]; exact e47
              have hkz : (i : Int) < (l1.length : Int) := by have := HLT.out; omega
              exact doesL_val (wanted_of rfl (yielded_of rfl e43)) (v := .pointer (some ⟨q, off + i * 2, none⟩)) (by unfold execOp; go_simp) rfl
            · intro a w' hF hB hd
              have e43 : a.eval (.tmp 43) = .bool false := hd 2 (by decide +kernel)
              have e48 : a.eval (.tmp 48) = .pointer (some ⟨q, off + i * 2, none⟩) := hd 7 (by decide +kernel)
              exact doesL_val (wanted_of rfl (yielded_of rfl e43)) (ex_fieldAddr rfl e48 (by go_simp)) rfl
            · intro a w' hF hB hd
              have e43 : a.eval (.tmp 43) = .bool false := hd 2 (by decide +kernel)
              have e49 : a.eval (.tmp 49) = .pointer (some ⟨q, off + i * 2 + 1, none⟩) := hd 8 (by decide +kernel)
              have cc := HK1.out w' hB
              exact doesL_val (wanted_of rfl (yielded_of rfl e43)) (v := .int .u32 (x.n : Int)) (by unfold execOp; simp only [e49]; go_simp) rfl
            · intro a w' hF hB hd
              have e43 : a.eval (.tmp 43) = .bool false := hd 2 (by decide +kernel)
              have e44 : a.eval (.tmp 44) = .pointer (some ⟨b, 0, none⟩) := hd 3 (by decide +kernel)
              have e45 : a.eval (.tmp 45) = .agg (rs T (.slice a5 L5 k5)).toArray := hd 4 (by decide +kernel)
              have e50 : a.eval (.tmp 50) = .int .u32 (x.n : Int) := hd 9 (by decide +kernel)
              exact doesL_call (wanted_of rfl (yielded_of rfl e43)) (ex_call (vs := #[.pointer (some ⟨b, 0, none⟩), .agg (rs T (.slice a5 L5 k5)).toArray, .int .u32 (x.n : Int)]) rfl (by simp only [List.map_toArray, List.map_cons, List.map_nil, e44, e45, e50]) (by go_simp)) ((HSM.out w' hB).mono fun e w3 hh => ⟨_, hh.1, rfl, hh.2⟩)
            · intro a w' hF hB hd
              have e43 : a.eval (.tmp 43) = .bool false := hd 2 (by decide +kernel)
              have e51 : a.eval (.tmp 51) = .bool true := hd 10 (by decide +kernel)
              exact doesL_val (wanted_of rfl (yielded_of rfl e43)) (v := .bool false) (by unfold execOp; simp only [e51]; go_simp) rfl
          · intro vs w4 hB hv
            have e9 : vs 2 = .bool false := hv 2 (by decide)
            have e8 : vs 11 = .bool false := hv 11 (by decide)
            simp only [List.take_succ_cons, List.take_zero, List.drop_succ_cons, List.drop_zero, putOps, Act.put, List.setIfInBounds_toArray, List.set_cons_zero, List.set_cons_succ, e9, e8]
            have R7 := Lib.hid (R6.out.below hB R6.out.lt)
            have S7 := Lib.hid (S6.out.below hB)
            have V7 := Lib.hid (V6.out.below hB)
            have E7 := Lib.hid (E6.out.on hB)
            clear hv e9 e8 hB
            go_wp2_with fail
            exact ⟨⟨i + 1, u5, _, by have := HLT.out; omega, rfl, by go_num, S7.out, R7.out, V7.out, E7.out⟩, by have := HLT.out; simp [intOf]; omega⟩
      · obtain rfl : i = l1.length := by omega
        have hlI : ¬ (l1.length : Int) < (l1.length : Int) := by omega
        go_wp2_with (go_at_call 9; refine (aawake_any wr (HT.out.below BW.out)).mono ?_; rintro e1 w9 ⟨rfl, hb⟩; have B9 := Lib.hid (BW.out.on hb); clear hb)
        go_ret
        exact ⟨rfl, B9.out⟩
set_option maxRecDepth 100000 in
theorem reads (os : Os) {H : Type} (enc : TypeId × Value → H) : ∃ places, DataW.whole enc Tryd.prog ((World.doorLaid Tryd.prog 400 os).forCall (fun _ _ => 0) ⟨#[], #[.int .i64 0, .slice none 0 0], []⟩).memory Tryd.f3.params.toList Rows.allocPlaysSpec.vars false (#[.int .i64 0, .slice none 0 0] : Array Value).toList 8 = some ([.lit (.int .i64 0), .nil], [], places) :=
  ⟨[], by kernel_rfl⟩
set_option linter.unusedVariables false in
set_option maxHeartbeats 1000000 in
set_option maxRecDepth 100000 in
theorem lifted (os : Os) (started : os.Started) (H : Type) (enc : TypeId × Value → H) (F : Stop.Interp) :
    ReturnsInHanded {} Tryd.checked os 3 .any ((OpenSpec.ofChange Rows.allocPlaysSpec).preRow enc Tryd.prog Tryd.f3 Rows.allocPlaysRow.domain false laidD) (((OpenSpec.ofChange Rows.allocPlaysSpec).at F).post enc Tryd.prog Tryd.f3 false true false false) := by
  obtain ⟨places, hx⟩ := reads os enc
  refine returnsInHanded_of_row (C := Tryd.checked) (s := OpenSpec.ofChange Rows.allocPlaysSpec) own started (by kernel_rfl) Tryd.func3
    (witness_row_atRef (enc := enc) (C := Tryd.checked) false (World.doorLaid Tryd.prog 400 os) #[.int .i64 0, .slice none 0 0] rfl (by kernel_rfl) (by kernel_rfl) (by kernel_rfl)
      (OpenSpec.preRow_of_cond 8 hx (by kernel_rfl) (fun k hk => by cases hk) (by kernel_rfl) (doorD_met os _))) ?_
  intro W base args ds gs before hval0 hW _ hcond hsz0 hL _ _
  have hsz : (DataW.weightsEach Tryd.prog (Tryd.f3.params.toList ++ Rows.allocPlaysSpec.plain.varTypes Tryd.prog) (ds ++ gs)).all (· ≤ reachBytes) = true := hsz0
  clear hsz0
  have hval : ∀ (j : Nat) t v, Tryd.f3.params[j]? = some t → args[j]? = some v → Value.okWide Tryd.prog W .any base t v := hval0
  have hW' := hW
  obtain ⟨p, q, hA0, hV, rfl, _, _⟩ := hW
  have hA : DataW.TrodAll enc Tryd.prog W 0 (fun _ => true) true Tryd.f3.params.toList args.toList ds p := hA0
  rw [Tryd.params3] at hA hval hsz
  obtain ⟨v0, vs0, d0, ds0, p0, q0, hargs, rfl, rfl, g0, r0⟩ := trodAll_cons hA
  obtain ⟨v1, vs1, d1, ds1, p1, q1, rfl, rfl, rfl, g1, r1⟩ := trodAll_cons r0
  obtain ⟨rfl, rfl, rfl⟩ := trodAll_nil r1
  obtain rfl : args = #[v0, v1] := by cases args; simp_all
  obtain ⟨rfl, rfl⟩ := trodVars_none hV
  obtain ⟨a0, rfl, rfl, rfl, w0⟩ := open_int Tryd.underlying3 (hval 0 3 v0 rfl rfl) g0
  obtain ⟨l1, h1⟩ := open_actsa (hval 1 22 v1 rfl rfl) g1 (fun n hn => by simpa using List.all_eq_true.1 hsz n (DataW.weights_mem_each (j := 1) (t := 22) rfl rfl n hn))
  clear hA0 hval0
  have hlt := hW'.lt
  refine (walk W (tabD_of_laid hL) a0 w0 v1 l1 h1).mono fun e W' ⟨he, hb⟩ => ?_
  subst he
  have hargs : DataW.TrodAll enc Tryd.prog W' 0 (fun b => decide (b < W.heap.size)) true _ _ _ _ := (trodAll_cons_mk (shut_int Tryd.underlying3 w0) (trodAll_cons_mk (Below.trod laidOut (by kernel_rfl) (of_decide_eq_true (by kernel_rfl)) g1 hb (fun x hx => hlt x (by simp [hx]))) trodAll_mk0))
  simp only [List.append_nil] at hW' hargs
  exact ⟨_, rfl, post_law hW' (trodAll_cons_mk (shut_bool Tryd.underlying4 _) trodAll_mk0) hargs rfl hb⟩
theorem over : Rows.allocPlaysRow.holds Tryd.pinned (OpenSpec.ofChange Rows.allocPlaysSpec) :=
  OpenClaim.holds_of_cond 3 Tryd.f3 rfl rfl rfl rfl rfl rfl rfl ⟨rfl, rfl, rfl, rfl, rfl⟩ rfl rfl rfl rfl rfl (by kernel_rfl) Tryd.func3 (by kernel_rfl)
    (of_decide_eq_true (by kernel_rfl)) (by unfold Func.isWrapper; first | (rw [if_pos (by decide +kernel)]; kernel_rfl) | (rw [if_neg (by decide +kernel)]; exact ⟨rfl, rfl⟩))
    (fun os started H enc _ F => by rw [OpenClaim.pre_eq_preRow]; exact lifted os started H enc F)

/-- The given statement. -/
theorem proved : Rows.AllocPlaysCardSaid :=
  Claim7.holds_tied_plain_at .later [] _ _ _ _
    over (fun _ h => by cases h) (by kernel_rfl) (fun _ h => by cases h) allocPlays_row_tie rfl ⟨rfl, rfl⟩ (by kernel_rfl) rfl
    (fun f fn hf hfn => by
      obtain rfl : f = 3 := Option.some.inj ((show Tryd.prog.funcNamed "reliquary/reliquarylaw17.AllocPlays" = some 3 by kernel_rfl).symm.trans hf) |>.symm
      obtain rfl : fn = Tryd.f3 := (Option.some.inj (Tryd.func3.symm.trans hfn)).symm
      exact ⟨by kernel_rfl, fun j t ht => by
        rw [Tryd.params3] at ht
        have hm : t ∈ [3, 22] := by simpa using Array.mem_of_getElem? ht
        have hall : ([3, 22].all fun u => !Tryd.prog.wantsStandIn u) = true := by kernel_rfl
        exact (show Tryd.prog.wantsStandIn t = false by simpa using List.all_eq_true.1 hall t hm)⟩)
    (by kernel_rfl)
end Go.Proofs.YtlckhlcccifbfaaDoor.allocPlays

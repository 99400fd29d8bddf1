/- What the program lays of a geometry: contract. Own work. -/
import Derived.Test.YtflegnlldidmaaaDoorSuM
import Derived.Test.YtflegnlldidmaaaDoorSuB
import Derived.Test.YtflegnlldidmaaaDoorFactsC
import Derived.Test.YtflegnlldidmaaaDoorPutCalls
import Derived.Test.YtflegnlldidmaaaDoorConcat
import Derived.Test.YtflegnlldidmaaaDoorPadP
import Derived.Test.YtflegnlldidmaaaDoorRdConst
namespace Go.Proofs.YtflegnlldidmaaaDoor
open Go.ChangeShapes Go.WideShapes Go.ChangeAt Go.RowKit
open SU
set_option maxHeartbeats 400000 in
theorem suput_no (C P : Int) (h : may C P = false) (w : World) : Calls Tryd.prog 6 #[.agg #[.int .i64 C, .int .i64 P]] w fun e w' => e = .returned (.tuple #[.slice none 0 0, .int .i64 2]) ∧ Below w.heap.size w w' := by
  have X1 := Lib.hid (Blk.new w 23 [.int .i64 C, .int .i64 P] _ rfl)
  have W1 := Lib.hid ((Below.refl w.heap.size w).alloc (Nat.le_refl _) (.cells [Value.int .i64 C, .int .i64 P].toArray 23))
  have HM := Lib.hid (fun W => sumay_any C P W)
  rw [h] at HM
  clear h
  go_enter Tryd.func6, Tryd.ntmps6
  go_wp2_with (first
    | (refine wpList_load_mid rfl 23 (.tmp 1) rfl w.heap.size 0 rfl [.int .i64 C, .int .i64 P] _ X1.out.range Tryd.underlying23 rfl infoGeo ?_)
    | (go_at_call 16; (with_reducible refine (HM.out _).mono ?_); rintro e w2 ⟨rfl, b2⟩; have W2 := Lib.hid (W1.out.on b2); clear b2))
  go_ret2
  exact ⟨rfl, W2.out⟩
set_option maxRecDepth 100000 in
set_option maxHeartbeats 1000000 in
theorem suput_ok (c p : Nat) (h : 1 ≤ c ∧ c ≤ 64 ∧ 1 ≤ p ∧ p ≤ 2) (w : World) : Calls Tryd.prog 6 #[.agg #[.int .i64 (c : Int), .int .i64 (p : Int)]] w fun e w' => ∃ v, e = .returned (.tuple #[v, .int .i64 0]) ∧ Own w' w.heap.size v (laid c p) ∧ Below w.heap.size w w' := by
  have X1 := Lib.hid (Blk.new w 23 [.int .i64 (c : Int), .int .i64 (p : Int)] _ rfl)
  have W1 := Lib.hid ((Below.refl w.heap.size w).alloc (Nat.le_refl _) (.cells [Value.int .i64 (c : Int), .int .i64 (p : Int)].toArray 23))
  have HM := Lib.hid (fun W => sumay_any c p W)
  rw [may_iff.2 (by omega)] at HM
  have ac : IntKind.u16.wrap (c : Int) = (c : Int) := by rw [IntKind.wrap_u16]; omega
  have ap : IntKind.u8.wrap (p : Int) = (p : Int) := by rw [IntKind.wrap_u8]; omega
  have HPT := Lib.hid (fun W => put16_any c (by omega) W)
  have HCC := Lib.hid (fun W v (hv : Rds W v [head9, [1], be c 2, [p]]) => concat_any [head9, [1], be c 2, [p]] (by rw [raw_flat, raw_len]; decide) v W hv)
  have HPD := Lib.hid (fun W v (hv : Rd W v (raw c p)) => (show Calls Tryd.prog 19 #[v, .int .i64 512] W fun e w' => e = .returned (.tuple #[.slice (some ⟨W.heap.size, 0, none⟩) 512 512, .int .i64 0]) ∧ Own w' W.heap.size (.slice (some ⟨W.heap.size, 0, none⟩) 512 512) (laid c p) ∧ Below W.heap.size W w' from pad_ok W v (raw c p) 512 hv (by decide) (by rw [raw_len]; decide)))
  have P256 := Lib.hid (show p < 256 by omega)
  clear h
  go_enter Tryd.func6, Tryd.ntmps6
  go_upto_region 3 with (first
    | (refine wpList_load_mid rfl 23 (.tmp 1) rfl w.heap.size 0 rfl [.int .i64 (c : Int), .int .i64 (p : Int)] _ X1.out.range Tryd.underlying23 rfl infoGeo ?_)
    | (go_at_call 16; (with_reducible refine (HM.out _).mono ?_); rintro e w2 ⟨rfl, b2⟩; have W2 := Lib.hid (W1.out.on b2); have X2 := Lib.hid (X1.out.below b2 X1.out.lt); clear b2))
  refine wp_region_c (by kernel_rfl) 12 (by decide) (by kernel_rfl) (by kernel_rfl) (by kernel_rfl) w2.heap.size rfl [.lit head9, .rd head9, .rd [1], .val (.pointer (some ⟨w.heap.size, 0, none⟩)), .val (.int .i64 (c : Int)), .val (.int .u16 (c : Int)), .rd (be c 2), .val (.pointer (some ⟨w.heap.size, 1, none⟩)), .val (.int .i64 (p : Int)), .val (.int .u8 (p : Int)), .rd [p], .rds [head9, [1], be c 2, [p]]] ?_ ?_
  · refine ⟨?_, ?_, ?_, ?_, ?_, ?_, ?_, ?_, ?_, ?_, ?_, ?_, trivial⟩
    · intro a w' hF hB hd
      refine doesC_wp hB.below.size rfl fun K hK => ?_
      unfold Oper.wp execOp
      go_simp
      exact hK _ _ ⟨_, rfl, hB.below.size, (own_new w' head9 (small_bytes (by decide)) (by decide) rfl (Nat.le_refl _)).rd, by simp⟩ ((Below.refl _ _).alloc (Nat.le_refl _) _)
    · intro a w' hF hB hd
      exact doesC_mark rfl (.tmp 8) rfl head9 (hd 0 (by decide +kernel))
    · intro a w' hF hB hd
      refine doesC_wp hB.below.size rfl fun K hK => ?_
      unfold Oper.wp execOp
      go_simp
      exact hK _ _ (own_new w' [1] (small_bytes (by decide)) (by decide) rfl (Nat.le_refl _)).rd ((Below.refl _ _).alloc (Nat.le_refl _) _)
    · intro a w' hF hB hd
      have e1 : a.eval (.tmp 1) = .pointer (some ⟨w.heap.size, 0, none⟩) := hF 1 (by decide +kernel)
      exact doesC_val rfl (v := .pointer (some ⟨w.heap.size, 0, none⟩)) (by unfold execOp; simp only [e1]; go_simp) rfl
    · intro a w' hF hB hd
      have e11 : a.eval (.tmp 11) = .pointer (some ⟨w.heap.size, 0, none⟩) := hd 3 (by decide +kernel)
      have c0 := (X2.out.below hB.below X2.out.lt).cell 0 _ rfl
      exact doesC_val rfl (v := .int .i64 (c : Int)) (by unfold execOp; simp only [e11]; go_simp) rfl
    · intro a w' hF hB hd
      have e12 : a.eval (.tmp 12) = .int .i64 (c : Int) := hd 4 (by decide +kernel)
      exact doesC_val rfl (ex_convert rfl e12 (by go_simp)) rfl
    · intro a w' hF hB hd
      have e13 : a.eval (.tmp 13) = .int .u16 (c : Int) := hd 5 (by decide +kernel)
      exact doesC_call hB.below.size rfl (ex_call (vs := #[.int .u16 (c : Int)]) rfl (by simp only [List.map_toArray, List.map_cons, List.map_nil, e13]) (by go_simp)) ((HPT.out w').mono fun e w3 hh => by
        obtain ⟨v, rfl, ho, hb⟩ := hh
        exact ⟨v, rfl, ho.rd, hb⟩)
    · intro a w' hF hB hd
      have e1 : a.eval (.tmp 1) = .pointer (some ⟨w.heap.size, 0, none⟩) := hF 1 (by decide +kernel)
      exact doesC_val rfl (v := .pointer (some ⟨w.heap.size, 1, none⟩)) (by unfold execOp; simp only [e1]; go_simp) rfl
    · intro a w' hF hB hd
      have e15 : a.eval (.tmp 15) = .pointer (some ⟨w.heap.size, 1, none⟩) := hd 7 (by decide +kernel)
      have c1 := (X2.out.below hB.below X2.out.lt).cell 1 _ rfl
      exact doesC_val rfl (v := .int .i64 (p : Int)) (by unfold execOp; simp only [e15]; go_simp) rfl
    · intro a w' hF hB hd
      have e16 : a.eval (.tmp 16) = .int .i64 (p : Int) := hd 8 (by decide +kernel)
      exact doesC_val rfl (ex_convert rfl e16 (by go_simp)) rfl
    · intro a w' hF hB hd
      have e17 : a.eval (.tmp 17) = .int .u8 (p : Int) := hd 9 (by decide +kernel)
      have f17 : a.tmps[17]?.getD undef = .int .u8 (p : Int) := by rw [← Array.getD_eq_getD_getElem?]; exact e17
      refine doesC_wp hB.below.size rfl fun K hK => ?_
      unfold Oper.wp execOp
      go_simp
      exact hK _ _ (own_new w' [p] (fun k => by cases k with | zero => exact P256.out | succ k => exact Nat.zero_lt_succ _) (by simp) rfl (Nat.le_refl _)).rd ((Below.refl _ _).alloc (Nat.le_refl _) _)
    · intro a w' hF hB hd
      have e9 : Rd w' (a.eval (.tmp 9)) head9 := hd 1 (by decide +kernel)
      have e10 : Rd w' (a.eval (.tmp 10)) [1] := hd 2 (by decide +kernel)
      have e14 : Rd w' (a.eval (.tmp 14)) (be c 2) := hd 6 (by decide +kernel)
      have e18 : Rd w' (a.eval (.tmp 18)) [p] := hd 10 (by decide +kernel)
      obtain ⟨a9, c9, q9, _⟩ := e9.shape
      obtain ⟨a10, c10, q10, _⟩ := e10.shape
      obtain ⟨a14, c14, q14, _⟩ := e14.shape
      obtain ⟨a18, c18, q18, _⟩ := e18.shape
      rw [q9] at e9
      rw [q10] at e10
      rw [q14] at e14
      rw [q18] at e18
      rw [be_len] at q14 e14
      have f9 : a.tmps[9]?.getD undef = .slice a9 9 c9 := by rw [← Array.getD_eq_getD_getElem?]; exact q9
      have f10 : a.tmps[10]?.getD undef = .slice a10 1 c10 := by rw [← Array.getD_eq_getD_getElem?]; exact q10
      have f14 : a.tmps[14]?.getD undef = .slice a14 2 c14 := by rw [← Array.getD_eq_getD_getElem?]; exact q14
      have f18 : a.tmps[18]?.getD undef = .slice a18 1 c18 := by rw [← Array.getD_eq_getD_getElem?]; exact q18
      have R := Lib.hid (rds_four e9 e10 e14 e18 rfl)
      clear q9 q10 q14 q18 e9 e10 e14 e18 hd
      refine doesC_wp hB.below.size rfl fun K hK => ?_
      unfold Oper.wp execOp
      go_simp
      exact hK _ _ R.out ((Below.refl _ _).alloc (Nat.le_refl _) _)
  · intro vs w3 hB hv
    have e19 : Rds w3 (vs 11) [head9, [1], be c 2, [p]] := hv 11 (by decide)
    have E := Lib.hid e19
    have W3 := Lib.hid (W2.out.trans (hB.below.mono W2.out.size))
    obtain ⟨a19, c19, q19', _⟩ := e19.shape
    have q19 : vs 11 = .slice a19 4 c19 := q19'
    clear hv hB e19 q19'
    rw [q19] at E
    simp only [List.take_succ_cons, List.take_zero, List.drop_succ_cons, List.drop_zero, putOps, Act.put, List.setIfInBounds_toArray, List.set_cons_zero, List.set_cons_succ, q19]
    clear q19
    generalize vs 0 = y0
    generalize vs 1 = y1
    generalize vs 2 = y2
    generalize vs 3 = y3
    generalize vs 4 = y4
    generalize vs 5 = y5
    generalize vs 6 = y6
    generalize vs 7 = y7
    generalize vs 8 = y8
    generalize vs 9 = y9
    generalize vs 10 = y10
    have HC3 := Lib.hid (HCC.out w3 _ E.out)
    go_wp2_with (first
      | (go_at_call 17; (with_reducible refine HC3.out.mono ?_); rintro e w4 ⟨v4, rfl, o4, b4⟩; rw [raw_flat] at o4; have W4 := Lib.hid (W3.out.on b4); have HP4 := Lib.hid (HPD.out w4 v4 o4.rd); obtain ⟨a4, c4, rfl, _⟩ := o4.rd.shape; rw [raw_len] at HP4 ⊢; clear o4 b4)
      | (go_at_call 19; (with_reducible refine HP4.out.mono ?_); rintro e w5 ⟨rfl, o5, b5⟩; have W5 := Lib.hid (W4.out.on b5); have O5 := Lib.hid (o5.lower W4.out.size); clear o5 b5))
    go_ret2
    exact ⟨_, rfl, O5.out, W5.out⟩
theorem suput_any (C P : Int) (w : World) : Calls Tryd.prog 6 #[.agg #[.int .i64 C, .int .i64 P]] w fun e w' => ∃ v, e = .returned (.tuple #[v, .int .i64 (perr C P)]) ∧ Own w' w.heap.size v (put C P) ∧ Below w.heap.size w w' := by
  cases hm : may C P with
  | true =>
    obtain ⟨c, p, rfl, rfl, h⟩ := may_nat hm
    rw [(put_yes hm).1, (put_yes hm).2]
    exact suput_ok c p h w
  | false =>
    rw [(put_no hm).1, (put_no hm).2]
    exact (suput_no C P hm w).mono fun e w' hh => ⟨_, hh.1, (own_nil w').lower hh.2.size, hh.2⟩
end Go.Proofs.YtflegnlldidmaaaDoor

/- Texts of 9 subjects in one file: SuM, SuPut, SuSum, ShaFast, SpSums, SpNew, SpQH, SpTame, SpKnown. Own work. -/
import Derived.Test.YthmkpekeghcifaaGreatDoorMg7
import Derived.Test.YthmkpekeghcifaaGreatDoorMg2
import Derived.Test.YthmkpekeghcifaaGreatDoorMg10
import Derived.Test.YthmkpekeghcifaaGreatDoorMg1
import Derived.Test.YthmkpekeghcifaaGreatDoorMg5
import Derived.Test.YthmkpekeghcifaaGreatDoorMg6
import Derived.Great.BuildSlice
import Derived.Test.YthmkpekeghcifaaGreatDoorMg9
import Derived.Test.YthmkpekeghcifaaGreatDoorMg8
import Derived.Test.YthmkpekeghcifaaGreatDoorMg12
import Derived.Test.YthmkpekeghcifaaGreatDoorMg11
section
/- What is laid of a geometry, on numbers. Own work. -/
namespace Go.Proofs.YthmkpekeghcifaaGreatDoor
open Go.ChangeShapes Go.WideShapes Go.ChangeAt Go.RowKit
namespace SU
def head9 : List Nat := [82, 69, 76, 73, 81, 85, 65, 82, 89]
def raw (c p : Nat) : List Nat := head9 ++ [1] ++ be c 2 ++ [p]
def laid (c p : Nat) : List Nat := padTo (raw c p) 512
def put (C P : Int) : List Nat := if may C P = true then laid C.toNat P.toNat else []
def perr (C P : Int) : Int := if may C P = true then 0 else 2
theorem raw_len (c p : Nat) : (raw c p).length = 13 := by unfold raw; rw [List.length_append, List.length_append, be_len]; rfl
theorem laid_len (c p : Nat) : (laid c p).length = 512 := by unfold laid; rw [padTo_len, raw_len]; decide
theorem raw_flat (c p : Nat) : [head9, [1], be c 2, [p]].flatten = raw c p := by unfold raw; simp
theorem put_yes {c p : Nat} (h : may c p = true) : put c p = laid c p ∧ perr c p = 0 := by unfold put perr; rw [if_pos h, if_pos h, Int.toNat_natCast, Int.toNat_natCast]; exact ⟨rfl, rfl⟩
theorem put_no {C P : Int} (h : may C P = false) : put C P = [] ∧ perr C P = 2 := by unfold put perr; rw [h]; exact ⟨rfl, rfl⟩
theorem may_nat {C P : Int} (h : may C P = true) : ∃ c p : Nat, C = c ∧ P = p ∧ 1 ≤ c ∧ c ≤ 64 ∧ 1 ≤ p ∧ p ≤ 2 := by
  obtain ⟨h1, h2, h3, h4⟩ := may_iff.1 h
  exact ⟨C.toNat, P.toNat, by omega, by omega, by omega, by omega, by omega, by omega⟩
end SU
theorem rds_four {w : World} {x y z u : Value} {l m n p : List Nat} (h : Rd w x l) (k : Rd w y m) (j : Rd w z n) (q : Rd w u p) {b : Nat} (hb : b = w.heap.size) : Rds (w.alloc (.cells #[x, y, z, u] 46)) (.slice (some ⟨b, 0, none⟩) 4 4) [l, m, n, p] := by
  subst hb
  have hB := Blk.new w 46 [x, y, z, u] _ rfl
  refine ⟨by simp, .inr ⟨_, 4, rfl, Nat.le_refl _, fun i l' hj => ?_⟩⟩
  match i, hj with
  | 0, hj => simp at hj; subst hj; exact ⟨x, hB.cell 0 x rfl, h.alloc _⟩
  | 1, hj => simp at hj; subst hj; exact ⟨y, hB.cell 1 y rfl, k.alloc _⟩
  | 2, hj => simp at hj; subst hj; exact ⟨z, hB.cell 2 z rfl, j.alloc _⟩
  | 3, hj => simp at hj; subst hj; exact ⟨u, hB.cell 3 u rfl, q.alloc _⟩
  | i + 4, hj => simp at hj
end Go.Proofs.YthmkpekeghcifaaGreatDoor
end

section
/- What the program lays of a geometry: contract. Own work. -/
namespace Go.Proofs.YthmkpekeghcifaaGreatDoor
open Go.ChangeShapes Go.WideShapes Go.ChangeAt Go.RowKit
open SU
set_option maxHeartbeats 400000 in
theorem suput_no (C P : Int) (h : may C P = false) (w : World) : Calls Tryz.prog 77 #[.agg #[.int .i64 C, .int .i64 P]] w fun e w' => e = .returned (.tuple #[.slice none 0 0, .int .i64 2]) ∧ Below w.heap.size w w' := by
  have X1 := Lib.hid (Blk.new w 33 [.int .i64 C, .int .i64 P] _ rfl)
  have W1 := Lib.hid ((Below.refl w.heap.size w).alloc (Nat.le_refl _) (.cells [Value.int .i64 C, .int .i64 P].toArray 33))
  have HM := Lib.hid (fun W => sumay_any C P W)
  rw [h] at HM
  clear h
  go_enter Tryz.func77, Tryz.ntmps77
  go_wp2_with (first
    | (refine wpList_load_mid rfl 33 (.tmp 1) rfl w.heap.size 0 rfl [.int .i64 C, .int .i64 P] _ X1.out.range Tryz.underlying33 rfl infoGeo ?_)
    | (go_at_call 109; (with_reducible refine (HM.out _).mono ?_); rintro e w2 ⟨rfl, b2⟩; have W2 := Lib.hid (W1.out.on b2); clear b2))
  go_ret2
  exact ⟨rfl, W2.out⟩
set_option maxRecDepth 100000 in
set_option maxHeartbeats 1000000 in
theorem suput_ok (c p : Nat) (h : 1 ≤ c ∧ c ≤ 64 ∧ 1 ≤ p ∧ p ≤ 2) (w : World) : Calls Tryz.prog 77 #[.agg #[.int .i64 (c : Int), .int .i64 (p : Int)]] w fun e w' => ∃ v, e = .returned (.tuple #[v, .int .i64 0]) ∧ Own w' w.heap.size v (laid c p) ∧ Below w.heap.size w w' := by
  have X1 := Lib.hid (Blk.new w 33 [.int .i64 (c : Int), .int .i64 (p : Int)] _ rfl)
  have W1 := Lib.hid ((Below.refl w.heap.size w).alloc (Nat.le_refl _) (.cells [Value.int .i64 (c : Int), .int .i64 (p : Int)].toArray 33))
  have HM := Lib.hid (fun W => sumay_any c p W)
  rw [may_iff.2 (by omega)] at HM
  have ac : IntKind.u16.wrap (c : Int) = (c : Int) := by rw [IntKind.wrap_u16]; omega
  have ap : IntKind.u8.wrap (p : Int) = (p : Int) := by rw [IntKind.wrap_u8]; omega
  have HPT := Lib.hid (fun W => put16_any c (by omega) W)
  have HCC := Lib.hid (fun W v (hv : Rds W v [head9, [1], be c 2, [p]]) => concat_any [head9, [1], be c 2, [p]] (by rw [raw_flat, raw_len]; decide) v W hv)
  have HPD := Lib.hid (fun W v (hv : Rd W v (raw c p)) => (show Calls Tryz.prog 94 #[v, .int .i64 512] W fun e w' => e = .returned (.tuple #[.slice (some ⟨W.heap.size, 0, none⟩) 512 512, .int .i64 0]) ∧ Own w' W.heap.size (.slice (some ⟨W.heap.size, 0, none⟩) 512 512) (laid c p) ∧ Below W.heap.size W w' from pad_ok W v (raw c p) 512 hv (by decide) (by rw [raw_len]; decide)))
  have P256 := Lib.hid (show p < 256 by omega)
  clear h
  go_enter Tryz.func77, Tryz.ntmps77
  go_upto_region 3 with (first
    | (refine wpList_load_mid rfl 33 (.tmp 1) rfl w.heap.size 0 rfl [.int .i64 (c : Int), .int .i64 (p : Int)] _ X1.out.range Tryz.underlying33 rfl infoGeo ?_)
    | (go_at_call 109; (with_reducible refine (HM.out _).mono ?_); rintro e w2 ⟨rfl, b2⟩; have W2 := Lib.hid (W1.out.on b2); have X2 := Lib.hid (X1.out.below b2 X1.out.lt); clear b2))
  refine wp_region_c (by kernel_rfl) 12 (by decide) (by kernel_rfl) (by kernel_rfl) (by kernel_rfl) w2.heap.size rfl [.lit head9, .rd head9, .rd [1], .val (.pointer (some ⟨w.heap.size, 0, none⟩)), .val (.int .i64 (c : Int)), .val (.int .u16 (c : Int)), .rd (be c 2), .val (.pointer (some ⟨w.heap.size, 1, none⟩)), .val (.int .i64 (p : Int)), .val (.int .u8 (p : Int)), .rd [p], .rds [head9, [1], be c 2, [p]]] ?_ ?_
  · refine ⟨?_, ?_, ?_, ?_, ?_, ?_, ?_, ?_, ?_, ?_, ?_, ?_, trivial⟩
    · intro a w' hF hB hd
      refine doesC_wp hB.below.size rfl fun K hK => ?_
      unfold Oper.wp execOp
      go_simp
      exact hK _ _ ⟨_, rfl, hB.below.size, (own_new w' head9 (small_bytes (by decide)) (by decide) rfl (Nat.le_refl _)).rd, by simp⟩ ((Below.refl _ _).alloc (Nat.le_refl _) _)
    · intro a w' hF hB hd
      exact doesC_mark rfl (.tmp 8) rfl head9 (hd 0 (by decide +kernel))
    · intro a w' hF hB hd
      refine doesC_wp hB.below.size rfl fun K hK => ?_
      unfold Oper.wp execOp
      go_simp
      exact hK _ _ (own_new w' [1] (small_bytes (by decide)) (by decide) rfl (Nat.le_refl _)).rd ((Below.refl _ _).alloc (Nat.le_refl _) _)
    · intro a w' hF hB hd
      have e1 : a.eval (.tmp 1) = .pointer (some ⟨w.heap.size, 0, none⟩) := hF 1 (by decide +kernel)
      exact doesC_val rfl (v := .pointer (some ⟨w.heap.size, 0, none⟩)) (by unfold execOp; simp only [e1]; go_simp) rfl
    · intro a w' hF hB hd
      have e11 : a.eval (.tmp 11) = .pointer (some ⟨w.heap.size, 0, none⟩) := hd 3 (by decide +kernel)
      have c0 := (X2.out.below hB.below X2.out.lt).cell 0 _ rfl
      exact doesC_val rfl (v := .int .i64 (c : Int)) (by unfold execOp; simp only [e11]; go_simp) rfl
    · intro a w' hF hB hd
      have e12 : a.eval (.tmp 12) = .int .i64 (c : Int) := hd 4 (by decide +kernel)
      exact doesC_val rfl (ex_convert rfl e12 (by go_simp)) rfl
    · intro a w' hF hB hd
      have e13 : a.eval (.tmp 13) = .int .u16 (c : Int) := hd 5 (by decide +kernel)
      exact doesC_call hB.below.size rfl (ex_call (vs := #[.int .u16 (c : Int)]) rfl (by simp only [List.map_toArray, List.map_cons, List.map_nil, e13]) (by go_simp)) ((HPT.out w').mono fun e w3 hh => by
        obtain ⟨v, rfl, ho, hb⟩ := hh
        exact ⟨v, rfl, ho.rd, hb⟩)
    · intro a w' hF hB hd
      have e1 : a.eval (.tmp 1) = .pointer (some ⟨w.heap.size, 0, none⟩) := hF 1 (by decide +kernel)
      exact doesC_val rfl (v := .pointer (some ⟨w.heap.size, 1, none⟩)) (by unfold execOp; simp only [e1]; go_simp) rfl
    · intro a w' hF hB hd
      have e15 : a.eval (.tmp 15) = .pointer (some ⟨w.heap.size, 1, none⟩) := hd 7 (by decide +kernel)
      have c1 := (X2.out.below hB.below X2.out.lt).cell 1 _ rfl
      exact doesC_val rfl (v := .int .i64 (p : Int)) (by unfold execOp; simp only [e15]; go_simp) rfl
    · intro a w' hF hB hd
      have e16 : a.eval (.tmp 16) = .int .i64 (p : Int) := hd 8 (by decide +kernel)
      exact doesC_val rfl (ex_convert rfl e16 (by go_simp)) rfl
    · intro a w' hF hB hd
      have e17 : a.eval (.tmp 17) = .int .u8 (p : Int) := hd 9 (by decide +kernel)
      have f17 : a.tmps[17]?.getD undef = .int .u8 (p : Int) := by rw [← Array.getD_eq_getD_getElem?]; exact e17
      refine doesC_wp hB.below.size rfl fun K hK => ?_
      unfold Oper.wp execOp
      go_simp
      exact hK _ _ (own_new w' [p] (fun k => by cases k with | zero => exact P256.out | succ k => exact Nat.zero_lt_succ _) (by simp) rfl (Nat.le_refl _)).rd ((Below.refl _ _).alloc (Nat.le_refl _) _)
    · intro a w' hF hB hd
      have e9 : Rd w' (a.eval (.tmp 9)) head9 := hd 1 (by decide +kernel)
      have e10 : Rd w' (a.eval (.tmp 10)) [1] := hd 2 (by decide +kernel)
      have e14 : Rd w' (a.eval (.tmp 14)) (be c 2) := hd 6 (by decide +kernel)
      have e18 : Rd w' (a.eval (.tmp 18)) [p] := hd 10 (by decide +kernel)
      obtain ⟨a9, c9, q9, _⟩ := e9.shape
      obtain ⟨a10, c10, q10, _⟩ := e10.shape
      obtain ⟨a14, c14, q14, _⟩ := e14.shape
      obtain ⟨a18, c18, q18, _⟩ := e18.shape
      rw [q9] at e9
      rw [q10] at e10
      rw [q14] at e14
      rw [q18] at e18
      rw [be_len] at q14 e14
      have f9 : a.tmps[9]?.getD undef = .slice a9 9 c9 := by rw [← Array.getD_eq_getD_getElem?]; exact q9
      have f10 : a.tmps[10]?.getD undef = .slice a10 1 c10 := by rw [← Array.getD_eq_getD_getElem?]; exact q10
      have f14 : a.tmps[14]?.getD undef = .slice a14 2 c14 := by rw [← Array.getD_eq_getD_getElem?]; exact q14
      have f18 : a.tmps[18]?.getD undef = .slice a18 1 c18 := by rw [← Array.getD_eq_getD_getElem?]; exact q18
      have R := Lib.hid (rds_four e9 e10 e14 e18 rfl)
      clear q9 q10 q14 q18 e9 e10 e14 e18 hd
      refine doesC_wp hB.below.size rfl fun K hK => ?_
      unfold Oper.wp execOp
      go_simp
      exact hK _ _ R.out ((Below.refl _ _).alloc (Nat.le_refl _) _)
  · intro vs w3 hB hv
    have e19 : Rds w3 (vs 11) [head9, [1], be c 2, [p]] := hv 11 (by decide)
    have E := Lib.hid e19
    have W3 := Lib.hid (W2.out.trans (hB.below.mono W2.out.size))
    obtain ⟨a19, c19, q19', _⟩ := e19.shape
    have q19 : vs 11 = .slice a19 4 c19 := q19'
    clear hv hB e19 q19'
    rw [q19] at E
    simp only [List.take_succ_cons, List.take_zero, List.drop_succ_cons, List.drop_zero, putOps, Act.put, List.setIfInBounds_toArray, List.set_cons_zero, List.set_cons_succ, q19]
    clear q19
    generalize vs 0 = y0
    generalize vs 1 = y1
    generalize vs 2 = y2
    generalize vs 3 = y3
    generalize vs 4 = y4
    generalize vs 5 = y5
    generalize vs 6 = y6
    generalize vs 7 = y7
    generalize vs 8 = y8
    generalize vs 9 = y9
    generalize vs 10 = y10
    have HC3 := Lib.hid (HCC.out w3 _ E.out)
    go_wp2_with (first
      | (go_at_call 110; (with_reducible refine HC3.out.mono ?_); rintro e w4 ⟨v4, rfl, o4, b4⟩; rw [raw_flat] at o4; have W4 := Lib.hid (W3.out.on b4); have HP4 := Lib.hid (HPD.out w4 v4 o4.rd); obtain ⟨a4, c4, rfl, _⟩ := o4.rd.shape; rw [raw_len] at HP4 ⊢; clear o4 b4)
      | (go_at_call 94; (with_reducible refine HP4.out.mono ?_); rintro e w5 ⟨rfl, o5, b5⟩; have W5 := Lib.hid (W4.out.on b5); have O5 := Lib.hid (o5.lower W4.out.size); clear o5 b5))
    go_ret2
    exact ⟨_, rfl, O5.out, W5.out⟩
theorem suput_any (C P : Int) (w : World) : Calls Tryz.prog 77 #[.agg #[.int .i64 C, .int .i64 P]] w fun e w' => ∃ v, e = .returned (.tuple #[v, .int .i64 (perr C P)]) ∧ Own w' w.heap.size v (put C P) ∧ Below w.heap.size w w' := by
  cases hm : may C P with
  | true =>
    obtain ⟨c, p, rfl, rfl, h⟩ := may_nat hm
    rw [(put_yes hm).1, (put_yes hm).2]
    exact suput_ok c p h w
  | false =>
    rw [(put_no hm).1, (put_no hm).2]
    exact (suput_no C P hm w).mono fun e w' hh => ⟨_, hh.1, (own_nil w').lower hh.2.size, hh.2⟩
end Go.Proofs.YthmkpekeghcifaaGreatDoor
end

section
/- The sums of what is laid of a geometry, the program's and the document's: contracts. Written by gen_susum.py. Own work. -/
namespace Go.Proofs.YthmkpekeghcifaaGreatDoor
open Go.ChangeShapes Go.WideShapes Go.ChangeAt Go.RowKit
open SM SU
/-- The sum of what is laid; the zero sum, if there is none. -/
def SU.sum (C P : Int) : List Nat := if may C P = true then sha (laid C.toNat P.toNat) else List.replicate 32 0
theorem zeroSu (w : World) : (zeroValue 47).run Tryz.prog w = .ok (.agg (row8 (List.replicate 32 0)).toArray) w := by kernel_rfl
theorem builtSu : Tryz.prog.built 47 [] = some (row8 (List.replicate 32 0)).toArray := by kernel_rfl
set_option maxRecDepth 100000 in
set_option maxHeartbeats 1000000 in
theorem susum_any (C P : Int) (w : World) (ht : TabP w) : Calls Tryz.prog 38 #[.agg #[.int .i64 C, .int .i64 P]] w fun e w' => e = .returned (.agg (row8 (sum C P)).toArray) ∧ Below w.heap.size w w' := by
  obtain ⟨D0, hD0⟩ : ∃ D, D = row8 (List.replicate 32 0) := ⟨_, rfl⟩
  have hz : ∀ w, (zeroValue 47).run Tryz.prog w = .ok (.agg D0.toArray) w := by rw [hD0]; exact zeroSu
  have hbu : Tryz.prog.built 47 [] = some D0.toArray := by rw [hD0]; exact builtSu
  have hd0 : D0.length = 32 := by rw [hD0, row8_len, List.length_replicate]
  have HD := Lib.hid hD0
  have W1 := Lib.hid ((Below.refl w.heap.size w).alloc (Nat.le_refl _) (.cells [Value.int .i64 C, .int .i64 P].toArray 33))
  have W2 := Lib.hid (W1.out.alloc W1.out.size (.cells D0.toArray 47))
  have T2 := Lib.hid ((Blk.new w 33 [.int .i64 C, .int .i64 P] _ rfl).alloc (.cells D0.toArray 47))
  have R2 := Lib.hid (Blk.new (w.alloc (.cells [Value.int .i64 C, .int .i64 P].toArray 33)) 47 D0 (w.heap.size + 1) (by simp))
  have HP := Lib.hid (fun W => suput_any C P W)
  have HTP := Lib.hid ht
  clear hD0 ht
  cases hm : may C P with
  | true =>
    obtain ⟨c, p, rfl, rfl, h⟩ := may_nat hm
    obtain ⟨M, hM⟩ : ∃ M, M = sha (laid c p) := ⟨_, rfl⟩
    rw [show sum c p = M by rw [hM]; unfold sum; rw [hm]; rfl]
    have M32 := Lib.hid (show (row8 M).length = 32 by rw [row8_len, hM]; exact (sha_bytes _).1)
    have HPL := Lib.hid (show (laid c p).length ≤ 1152921504606846976 by rw [laid_len]; decide)
    have HM := Lib.hid hM
    rw [(put_yes hm).1, (put_yes hm).2] at HP
    
    
    clear hM hm h
    go_enter Tryz.func38, Tryz.ntmps38
    go_wp2_with (first
      | (refine wpList_load_mid rfl 33 (.tmp 1) rfl w.heap.size 0 rfl [.int .i64 (c : Int), .int .i64 (p : Int)] _ T2.out.range Tryz.underlying33 rfl infoGeo ?_)
      | (go_at_call 77; (with_reducible refine (HP.out _).mono ?_); rintro e w3 ⟨v, rfl, o3, b3⟩; obtain ⟨pa, pc, rfl, _⟩ := o3.rd.shape; rw [laid_len] at o3 ⊢; have W3 := Lib.hid (W2.out.on b3); have R3 := Lib.hid (R2.out.below b3 R2.out.lt); have HO := Lib.hid (of_one_at (w := w3) rfl o3.rd (HTP.out.below W3.out) HPL.out HM.out); clear o3 b3)
      | (go_at_call 54; (with_reducible refine HO.out.mono ?_); rintro e w4 ⟨rfl, b4⟩; have W4 := Lib.hid (W3.out.on b4); have R4 := Lib.hid (R3.out.below b4 R3.out.lt); clear b4)
      | (refine wpList_store_blk rfl 47 (.tmp 2) (.tmp 15) rfl (w.heap.size + 1) 0 (row8 M) rfl rfl 47 D0 R4.out (by rw [M32.out, hd0]; exact Nat.le_refl _) (by rw [M32.out]; exact infoS) (row8_one _) ?_; intro w5 b5 g5; rw [splice_all _ _ (by rw [M32.out, hd0])] at b5; have U5 := Lib.hid b5; have W5 := Lib.hid (W4.out.grown g5 W4.out.size (fun g hg => by have := Option.some.inj hg; omega)); clear b5 g5))
    exact bodyPost_ret (results_mid rfl _ _ (w.heap.size + 1) (row8 M) _ rfl U5.out.range Tryz.underlying47 rfl (by rw [M32.out]; exact infoS)) rfl ⟨rfl, W5.out⟩
  | false =>
    rw [show sum C P = List.replicate 32 0 by unfold sum; rw [hm]; rfl]
    rw [(put_no hm).1, (put_no hm).2] at HP
    clear hm
    rw [← HD.out]
    go_enter Tryz.func38, Tryz.ntmps38
    go_wp2_with ((fail_if_success (with_reducible show bodyPost _ _ _ _ _ _)); first
      | (refine wpList_load_mid rfl 33 (.tmp 1) rfl w.heap.size 0 rfl [.int .i64 C, .int .i64 P] _ T2.out.range Tryz.underlying33 rfl infoGeo ?_)
      | (go_at_call 77; (with_reducible refine (HP.out _).mono ?_); rintro e w3 ⟨v, rfl, o3, b3⟩; obtain ⟨pa, pc, rfl, _⟩ := o3.rd.shape; have W3 := Lib.hid (W2.out.on b3); have R3 := Lib.hid (R2.out.below b3 R2.out.lt); clear o3 b3)
      | (refine wpList_buildTo rfl 47 _ rfl (some 12) rfl D0.toArray (Eq.trans (b := Tryz.prog.built 47 []) (by kernel_rfl) hbu) ?_)
      | (refine wpList_store_blk rfl 47 (.tmp 2) (.tmp 12) rfl (w.heap.size + 1) 0 D0 rfl rfl 47 D0 R3.out (by rw [hd0]; exact Nat.le_refl _) (by rw [hd0]; exact infoS) (by rw [HD.out]; exact row8_one _) ?_; intro w5 b5 g5; rw [splice_all _ _ (by rfl)] at b5; have U5 := Lib.hid b5; have W5 := Lib.hid (W3.out.grown g5 W3.out.size (fun g hg => by have := Option.some.inj hg; omega)); clear b5 g5))
    exact bodyPost_ret (results_mid rfl _ _ (w.heap.size + 1) D0 _ rfl U5.out.range Tryz.underlying47 rfl (by rw [hd0]; exact infoS)) rfl ⟨rfl, W5.out⟩
end Go.Proofs.YthmkpekeghcifaaGreatDoor
end

section
/- The sum on numbers in a form that the kernel reckons quickly: words one by one, each reckoned before it is used. Own work. -/
namespace Go.Proofs.YthmkpekeghcifaaGreatDoor
open SM
namespace FT
/-- A number is reckoned before it is handed on. -/
def seq {α : Type} (n : Nat) (k : Nat → α) : α := Nat.rec (k 0) (fun m _ => k (Nat.succ m)) n
theorem seq_eq {α : Type} (n : Nat) (k : Nat → α) : seq n k = k n := by cases n <;> rfl
def force : List Nat → (List Nat → List Nat) → List Nat
  | [], k => k []
  | x :: l, k => seq x fun y => force l fun m => k (y :: m)
theorem force_eq : ∀ (l : List Nat) (k : List Nat → List Nat), force l k = k l
  | [], _ => rfl
  | x :: l, k => by
    unfold force
    rw [seq_eq, force_eq l]
/-- The words behind a window of sixteen, and the last window. -/
def ws : Nat → List Nat → List Nat
  | n + 1, [x0, x1, x2, x3, x4, x5, x6, x7, x8, x9, x10, x11, x12, x13, x14, x15] => seq ((s1 x14 + x9 + s0 x1 + x0) % 4294967296) fun y => x0 :: ws n [x1, x2, x3, x4, x5, x6, x7, x8, x9, x10, x11, x12, x13, x14, x15, y]
  | _, v => v
def xs : List Nat → List Nat → List Nat → List Nat
  | w :: l, k :: m, [a, b, c, d, e, f, g, h] => seq ((h + S1 e + ch e f g + k + w) % 4294967296) fun t => seq ((t + (S0 a + mj a b c) % 4294967296) % 4294967296) fun a' => seq ((d + t) % 4294967296) fun e' => xs l m [a', a, b, c, e', e, f, g]
  | _, _, x => x
def w16 (b : List Nat) : List Nat := [be4 b 0, be4 b 4, be4 b 8, be4 b 12, be4 b 16, be4 b 20, be4 b 24, be4 b 28, be4 b 32, be4 b 36, be4 b 40, be4 b 44, be4 b 48, be4 b 52, be4 b 56, be4 b 60]
def add8 : List Nat → List Nat → List Nat
  | x :: l, y :: m => ((x + y) % 4294967296) :: add8 l m
  | _, _ => []
def fblk (h b : List Nat) : List Nat := force (w16 b) fun v => force (ws 48 v) fun w => force (add8 h (xs w kk h)) id
def fst : List Nat → List Nat → Nat → List Nat
  | h, _, 0 => h
  | h, t, n + 1 => force (t.take 64) fun b => force (t.drop 64) fun r => force (fblk h b) fun g => fst g r n
def fsha (l : List Nat) : List Nat := force (text l) fun t => out (fst h0 t (t.length / 64))
theorem wTo_len (b : List Nat) : ∀ t, (wTo b t).length = 64
  | 0 => by unfold wTo; rw [List.length_replicate]
  | t + 1 => by unfold wTo; rw [List.length_set]; exact wTo_len b t
theorem wTo_keep (b : List Nat) (t k : Nat) (hk : k < t) : ∀ n, gb (wTo b (t + n)) k = gb (wTo b t) k
  | 0 => rfl
  | n + 1 => by
    rw [← wTo_keep b t k hk n]
    show gb ((wTo b (t + n)).set (t + n) _) k = _
    by_cases h : t + n < (wTo b (t + n)).length
    · rw [gb_set _ _ _ _ h, if_neg (by omega)]
    · rw [List.set_eq_of_length_le (by omega)]
theorem w_at (b : List Nat) {t : Nat} (ht : t < 64) : gb (wTo b 64) t = if t < 16 then be4 b (4 * t) else wn (wTo b t) t := by
  have h := wTo_keep b (t + 1) t (by omega) (63 - t)
  rw [show t + 1 + (63 - t) = 64 by omega] at h
  rw [h]
  show gb ((wTo b t).set t _) t = _
  rw [gb_set _ _ _ _ (by rw [wTo_len]; omega), if_pos rfl]
theorem w_high (b : List Nat) {t : Nat} (ht : t + 16 < 64) : gb (wTo b 64) (t + 16) = (s1 (gb (wTo b 64) (t + 14)) + gb (wTo b 64) (t + 9) + s0 (gb (wTo b 64) (t + 1)) + gb (wTo b 64) t) % 4294967296 := by
  have keep : ∀ k, k < t + 16 → gb (wTo b 64) k = gb (wTo b (t + 16)) k := fun k hk => by
    have h := wTo_keep b (t + 16) k hk (48 - t)
    rw [show t + 16 + (48 - t) = 64 by omega] at h
    exact h
  rw [w_at b ht, if_neg (by omega), keep (t + 14) (by omega), keep (t + 9) (by omega), keep (t + 1) (by omega), keep t (by omega)]
  unfold wn
  rw [show t + 16 - 2 = t + 14 by omega, show t + 16 - 7 = t + 9 by omega, show t + 16 - 15 = t + 1 by omega, show t + 16 - 16 = t by omega]
theorem ws_all (W : Nat → Nat) (hW : ∀ t, t + 16 < 64 → W (t + 16) = (s1 (W (t + 14)) + W (t + 9) + s0 (W (t + 1)) + W t) % 4294967296) : ∀ n t, t + n = 48 → ws n ((List.range 16).map fun i => W (t + i)) = (List.range (n + 16)).map fun i => W (t + i)
  | 0, t, _ => by
    rw [Nat.zero_add]
    unfold ws
    rfl
  | n + 1, t, h => by
    have e : (List.range 16).map (fun i => W (t + i)) = [W (t + 0), W (t + 1), W (t + 2), W (t + 3), W (t + 4), W (t + 5), W (t + 6), W (t + 7), W (t + 8), W (t + 9), W (t + 10), W (t + 11), W (t + 12), W (t + 13), W (t + 14), W (t + 15)] := rfl
    rw [e]
    unfold ws
    rw [seq_eq, Nat.add_zero, ← hW t (by omega)]
    have q := ws_all W hW n (t + 1) (by omega)
    have e2 : (List.range 16).map (fun i => W (t + 1 + i)) = [W (t + 1), W (t + 2), W (t + 3), W (t + 4), W (t + 5), W (t + 6), W (t + 7), W (t + 8), W (t + 9), W (t + 10), W (t + 11), W (t + 12), W (t + 13), W (t + 14), W (t + 15), W (t + 16)] := by
      show [_, _, _, _, _, _, _, _, _, _, _, _, _, _, _, _] = _
      simp only [Nat.add_assoc]
    rw [e2] at q
    rw [q, show List.range (n + 1 + 16) = 0 :: (List.range (n + 16)).map Nat.succ by rw [show n + 1 + 16 = (n + 16) + 1 by omega]; exact List.range_succ_eq_map, List.map_cons, List.map_map, Nat.add_zero]
    refine congrArg (List.cons _) (List.map_congr_left fun i _ => ?_)
    show _ = W (t + (i + 1))
    rw [show t + 1 + i = t + (i + 1) by omega]
theorem list_gb (l : List Nat) (n : Nat) (h : l.length = n) : (List.range n).map (fun i => gb l i) = l := by
  refine List.ext_getElem? fun i => ?_
  rw [List.getElem?_map]
  by_cases hi : i < n
  · rw [List.getElem?_range hi, List.getElem?_eq_getElem (by omega)]
    show some (gb l i) = _
    unfold gb
    rw [List.getD_eq_getElem?_getD, List.getElem?_eq_getElem (by omega)]
    rfl
  · rw [List.getElem?_eq_none (by rw [List.length_range]; omega), List.getElem?_eq_none (by omega)]
    rfl
theorem ws_eq (b : List Nat) : ws 48 (w16 b) = wTo b 64 := by
  have h := ws_all (gb (wTo b 64)) (fun t ht => w_high b ht) 48 0 rfl
  have e : w16 b = (List.range 16).map fun i => gb (wTo b 64) (0 + i) := by
    have q : ∀ i, i < 16 → gb (wTo b 64) (0 + i) = be4 b (4 * i) := fun i hi => by rw [Nat.zero_add, w_at b (by omega), if_pos hi]
    rw [show (List.range 16).map (fun i => gb (wTo b 64) (0 + i)) = (List.range 16).map fun i => be4 b (4 * i) from List.map_congr_left fun i hi => q i (List.mem_range.1 hi)]
    rfl
  rw [e, h]
  simp only [Nat.zero_add]
  exact list_gb _ 64 (wTo_len b 64)
theorem eight {l : List Nat} (h : l.length = 8) : ∃ a b c d e f g i, l = [a, b, c, d, e, f, g, i] := by
  match l, h with
  | [a, b, c, d, e, f, g, i], _ => exact ⟨a, b, c, d, e, f, g, i, rfl⟩
theorem xs_all {h : List Nat} (hh : Words 8 h) (w : List Nat) (hw : w.length = 64) : ∀ n t, t + n = 64 → xs (w.drop t) (kk.drop t) (xTo h w t) = xTo h w 64
  | 0, t, e => by
    obtain rfl : t = 64 := by omega
    rw [List.drop_of_length_le (by omega), List.drop_of_length_le (by decide)]
    rfl
  | n + 1, t, e => by
    have q := xs_all hh w hw n (t + 1) (by omega)
    have hk : kk.length = 64 := by decide
    rw [List.drop_eq_getElem_cons (by omega : t < w.length), List.drop_eq_getElem_cons (by omega : t < kk.length)]
    have gw : w[t] = gb w t := by unfold gb; rw [List.getD_eq_getElem?_getD, List.getElem?_eq_getElem (by omega)]; rfl
    have gk : kk[t] = gb kk t := by unfold gb; rw [List.getD_eq_getElem?_getD, List.getElem?_eq_getElem (by omega)]; rfl
    rw [gw, gk]
    have hx : xTo h w (t + 1) = rnd (xTo h w t) (gb kk t) (gb w t) := rfl
    rw [hx] at q
    obtain ⟨a, b, c, d, e, f, g, i, hl⟩ := eight (xTo_w (w := w) hh t).1
    rw [hl] at q ⊢
    unfold xs
    rw [seq_eq, seq_eq, seq_eq]
    exact q
theorem add8_eq {h x : List Nat} (hh : h.length = 8) (hx : x.length = 8) : add8 h x = aTo h x 8 := by
  obtain ⟨a, b, c, d, e, f, g, i, rfl⟩ := eight hh
  obtain ⟨a', b', c', d', e', f', g', i', rfl⟩ := eight hx
  rfl
theorem fblk_eq {h : List Nat} (hh : Words 8 h) (b : List Nat) : fblk h b = blk h b := by
  unfold fblk blk
  rw [force_eq, force_eq, force_eq, ws_eq]
  have q := xs_all hh (wTo b 64) (wTo_len b 64) 64 0 rfl
  rw [List.drop_zero, List.drop_zero] at q
  rw [show xs (wTo b 64) kk h = xTo h (wTo b 64) 64 from q, add8_eq hh.1 (xTo_w hh 64).1]
  rfl
theorem stTo_w (t : List Nat) : ∀ n, Words 8 (stTo t n)
  | 0 => h0_w
  | n + 1 => blk_w (stTo_w t n)
theorem fst_all (t : List Nat) : ∀ n i, fst (stTo t i) (t.drop (64 * i)) n = stTo t (i + n)
  | 0, i => by unfold fst; rfl
  | n + 1, i => by
    unfold fst
    rw [force_eq, force_eq, force_eq, fblk_eq (stTo_w t i), List.drop_drop, show 64 * i + 64 = 64 * (i + 1) by omega]
    have q := fst_all t n (i + 1)
    rw [show i + (n + 1) = i + 1 + n by omega, ← q]
    rfl
theorem fsha_eq (l : List Nat) : fsha l = sha l := by
  unfold fsha sha
  rw [force_eq]
  have q := fst_all (text l) ((text l).length / 64) 0
  rw [Nat.mul_zero, List.drop_zero, Nat.zero_add] at q
  rw [← q]
  rfl
end FT
end Go.Proofs.YthmkpekeghcifaaGreatDoor
end

section
/- No geometry that may be has the zero sum: reckoned. Own work. -/
namespace Go.Proofs.YthmkpekeghcifaaGreatDoor
open SM
def SU.some (n k p : Nat) : Bool := (List.range n).all fun c => (FT.fsha (SU.laid (c + k) p)).any (· != 0)
theorem SU.some_1_1 : SU.some 8 1 1 = true := by decide +kernel
theorem SU.some_9_1 : SU.some 8 9 1 = true := by decide +kernel
theorem SU.some_17_1 : SU.some 8 17 1 = true := by decide +kernel
theorem SU.some_25_1 : SU.some 8 25 1 = true := by decide +kernel
theorem SU.some_33_1 : SU.some 8 33 1 = true := by decide +kernel
theorem SU.some_41_1 : SU.some 8 41 1 = true := by decide +kernel
theorem SU.some_49_1 : SU.some 8 49 1 = true := by decide +kernel
theorem SU.some_57_1 : SU.some 8 57 1 = true := by decide +kernel
theorem SU.some_1_2 : SU.some 8 1 2 = true := by decide +kernel
theorem SU.some_9_2 : SU.some 8 9 2 = true := by decide +kernel
theorem SU.some_17_2 : SU.some 8 17 2 = true := by decide +kernel
theorem SU.some_25_2 : SU.some 8 25 2 = true := by decide +kernel
theorem SU.some_33_2 : SU.some 8 33 2 = true := by decide +kernel
theorem SU.some_41_2 : SU.some 8 41 2 = true := by decide +kernel
theorem SU.some_49_2 : SU.some 8 49 2 = true := by decide +kernel
theorem SU.some_57_2 : SU.some 8 57 2 = true := by decide +kernel
theorem SU.some_at {n k p c : Nat} (h : SU.some n k p = true) (h1 : k ≤ c) (h2 : c < k + n) : sha (SU.laid c p) ≠ List.replicate 32 0 := fun q => by
  have g := List.all_eq_true.1 h (c - k) (List.mem_range.2 (by omega))
  rw [show c - k + k = c by omega, FT.fsha_eq, q] at g
  revert g
  decide
theorem SU.some_any {c p : Nat} (hc : 1 ≤ c ∧ c ≤ 64) (hp : 1 ≤ p ∧ p ≤ 2) : sha (SU.laid c p) ≠ List.replicate 32 0 := by
  rcases (show p = 1 ∨ p = 2 by omega) with rfl | rfl
  · rcases (show c < 9 ∨ (9 ≤ c ∧ c < 17) ∨ (17 ≤ c ∧ c < 25) ∨ (25 ≤ c ∧ c < 33) ∨ (33 ≤ c ∧ c < 41) ∨ (41 ≤ c ∧ c < 49) ∨ (49 ≤ c ∧ c < 57) ∨ 57 ≤ c by omega) with h | h | h | h | h | h | h | h
    · exact SU.some_at SU.some_1_1 hc.1 h
    · exact SU.some_at SU.some_9_1 h.1 h.2
    · exact SU.some_at SU.some_17_1 h.1 h.2
    · exact SU.some_at SU.some_25_1 h.1 h.2
    · exact SU.some_at SU.some_33_1 h.1 h.2
    · exact SU.some_at SU.some_41_1 h.1 h.2
    · exact SU.some_at SU.some_49_1 h.1 h.2
    · exact SU.some_at SU.some_57_1 h (by omega)
  · rcases (show c < 9 ∨ (9 ≤ c ∧ c < 17) ∨ (17 ≤ c ∧ c < 25) ∨ (25 ≤ c ∧ c < 33) ∨ (33 ≤ c ∧ c < 41) ∨ (41 ≤ c ∧ c < 49) ∨ (49 ≤ c ∧ c < 57) ∨ 57 ≤ c by omega) with h | h | h | h | h | h | h | h
    · exact SU.some_at SU.some_1_2 hc.1 h
    · exact SU.some_at SU.some_9_2 h.1 h.2
    · exact SU.some_at SU.some_17_2 h.1 h.2
    · exact SU.some_at SU.some_25_2 h.1 h.2
    · exact SU.some_at SU.some_33_2 h.1 h.2
    · exact SU.some_at SU.some_41_2 h.1 h.2
    · exact SU.some_at SU.some_49_2 h.1 h.2
    · exact SU.some_at SU.some_57_2 h (by omega)
theorem SU.sum_zero {C P : Int} : SU.sum C P = List.replicate 32 0 ↔ SU.may C P = false := by
  unfold SU.sum
  cases h : SU.may C P with
  | false => exact ⟨fun _ => rfl, fun _ => by rw [if_neg (by decide)]⟩
  | true =>
    rw [if_pos rfl]
    have hm := SU.may_iff.1 h
    exact ⟨fun q => absurd q (SU.some_any (by omega) (by omega)), fun q => by cases q⟩
end Go.Proofs.YthmkpekeghcifaaGreatDoor
end

section
/- A space of the document, made: contract. Written by gen_sp6.py. Work ahead for stage 16. Own work. -/
namespace Go.Proofs.YthmkpekeghcifaaGreatDoor
open Go.ChangeShapes Go.WideShapes Go.ChangeAt Go.RowKit
open RT XM AM SM
/-- The space of a shape and a key. -/
def SP.fresh (cl per : Nat) (K : List Nat) : SP.Sp := ⟨cl, per, klabel K [100, 97, 116, 97, 32, 111, 110, 101], klabel K [100, 97, 116, 97, 32, 116, 119, 111], klabel K [116, 97, 103]⟩
theorem SP.fresh_ok {cl per : Nat} (hc : 1 ≤ cl ∧ cl ≤ 64) (hp : 1 ≤ per ∧ per ≤ 2) (K : List Nat) : SP.Ok (SP.fresh cl per K) := ⟨hc, hp, sha_bytes _, sha_bytes _, sha_bytes _⟩
end Go.Proofs.YthmkpekeghcifaaGreatDoor
end

section
/- The program's space is made; what no space answers: contracts. Written by gen_spq7.py. Own work. -/
namespace Go.Proofs.YthmkpekeghcifaaGreatDoor
open Go.ChangeShapes Go.WideShapes Go.ChangeAt Go.RowKit
open RT XM AM SM
theorem SU.sum_bytes (C P : Int) : Bytes 32 (SU.sum C P) := by
  unfold SU.sum
  split
  · exact sha_bytes _
  · exact bytes_zero 32
/-- No space's cells. -/
def sppz : List Value := .pointer none :: .int .i64 0 :: .int .i64 0 :: .pointer none :: row8 (List.replicate 32 0)
theorem sppz_len : sppz.length = 36 := rfl
theorem built_spp0 (a b c e : Value) : Tryz.prog.built 103 [(0, a), (1, b), (2, c), (3, e)] = Instr.fill (#[(0, 1), (1, 2), (3, 1), (4, 32)][·]?) sppz.toArray [(0, a), (1, b), (2, c), (3, e)] := by kernel_rfl
theorem built_spp (d x cl per : Nat) {T : List Nat} (hT : T.length = 32) : Tryz.prog.built 103 [(0, .pointer (some ⟨d, 0, none⟩)), (1, .agg [Value.int .i64 (cl : Int), .int .i64 (per : Int)].toArray), (2, .pointer (some ⟨x, 0, none⟩)), (3, .agg (row8 T).toArray)] = some (.pointer (some ⟨d, 0, none⟩) :: .int .i64 (cl : Int) :: .int .i64 (per : Int) :: .pointer (some ⟨x, 0, none⟩) :: row8 T).toArray := by
  have hT8 : (row8 T).length = 32 := by rw [row8_len, hT]
  have e1 : splice sppz 0 [Value.pointer (some ⟨d, 0, none⟩)] = .pointer (some ⟨d, 0, none⟩) :: .int .i64 0 :: .int .i64 0 :: .pointer none :: row8 (List.replicate 32 0) := rfl
  have e2 : splice (Value.pointer (some ⟨d, 0, none⟩) :: .int .i64 0 :: .int .i64 0 :: .pointer none :: row8 (List.replicate 32 0)) 1 [Value.int .i64 (cl : Int), .int .i64 (per : Int)] = .pointer (some ⟨d, 0, none⟩) :: .int .i64 (cl : Int) :: .int .i64 (per : Int) :: .pointer none :: row8 (List.replicate 32 0) := rfl
  have e3 : splice (Value.pointer (some ⟨d, 0, none⟩) :: .int .i64 (cl : Int) :: .int .i64 (per : Int) :: .pointer none :: row8 (List.replicate 32 0)) 3 [Value.pointer (some ⟨x, 0, none⟩)] = .pointer (some ⟨d, 0, none⟩) :: .int .i64 (cl : Int) :: .int .i64 (per : Int) :: .pointer (some ⟨x, 0, none⟩) :: row8 (List.replicate 32 0) := rfl
  have e4 : splice (Value.pointer (some ⟨d, 0, none⟩) :: .int .i64 (cl : Int) :: .int .i64 (per : Int) :: .pointer (some ⟨x, 0, none⟩) :: row8 (List.replicate 32 0)) 4 (row8 T) = .pointer (some ⟨d, 0, none⟩) :: .int .i64 (cl : Int) :: .int .i64 (per : Int) :: .pointer (some ⟨x, 0, none⟩) :: row8 T := by
    unfold splice
    rw [hT8]
    show _ :: _ :: _ :: _ :: (row8 T ++ []) = _
    rw [List.append_nil]
  rw [built_spp0, fill_step _ 0 0 1 rfl (.pointer (some ⟨d, 0, none⟩)) [.pointer (some ⟨d, 0, none⟩)] rfl rfl sppz (by rw [sppz_len]; decide), e1,
    fill_step _ 1 1 2 rfl (.agg [Value.int .i64 (cl : Int), .int .i64 (per : Int)].toArray) [.int .i64 (cl : Int), .int .i64 (per : Int)] rfl rfl _ (by exact (by decide : 3 ≤ 36)), e2,
    fill_step _ 2 3 1 rfl (.pointer (some ⟨x, 0, none⟩)) [.pointer (some ⟨x, 0, none⟩)] rfl rfl _ (by exact (by decide : 4 ≤ 36)), e3,
    fill_step _ 3 4 32 rfl (.agg (row8 T).toArray) (row8 T) rfl hT8 _ (by exact (by decide : 36 ≤ 36)), e4, fill_nil]
set_option maxRecDepth 100000 in
set_option maxHeartbeats 1000000 in
theorem spcnew_nil (C P : Int) (KC : List Value) (w : World) : Calls Tryz.prog 12 #[.pointer none, .agg #[.int .i64 C, .int .i64 P], .agg KC.toArray] w fun e w' => e = .returned (.pointer none) ∧ Below w.heap.size w w' := by
  obtain ⟨GC, hGC⟩ : ∃ x, x = [Value.int .i64 (C), .int .i64 (P)] := ⟨_, rfl⟩
  rw [show (#[Value.int .i64 (C), .int .i64 (P)] : Array Value) = GC.toArray by rw [hGC]]
  have GC2 := Lib.hid (show GC.length = 2 by rw [hGC]; rfl)
  obtain ⟨w1, hw1⟩ : ∃ x, x = (w.alloc (.cells GC.toArray 33)).alloc (.cells KC.toArray 23) := ⟨_, rfl⟩
  have W1 := Lib.hid (show Below w.heap.size w w1 by rw [hw1]; exact ((Below.refl w.heap.size w).alloc (Nat.le_refl _) (.cells GC.toArray 33)).alloc (by simp) _)
  have G1 := Lib.hid (show Blk w1 w.heap.size 33 GC by rw [hw1]; exact (Blk.new w 33 GC _ rfl).alloc _)
  have K1 := Lib.hid (show Blk w1 (w.heap.size + 1) 23 KC by rw [hw1]; exact Blk.new _ 23 KC (w.heap.size + 1) (by simp))
  clear hGC
  go_enter Tryz.func12, Tryz.ntmps12
  go_upto_region 1 with fail
  rw [← hw1]
  clear hw1
  go_wp2_with fail
  go_ret
  exact ⟨rfl, W1.out⟩
set_option maxRecDepth 100000 in
set_option maxHeartbeats 1000000 in
theorem spcnew_not (d : Nat) (C P : Int) (h : SU.may C P = false) (KC : List Value) (w : World) (tp : TabP w) : Calls Tryz.prog 12 #[.pointer (some ⟨d, 0, none⟩), .agg #[.int .i64 C, .int .i64 P], .agg KC.toArray] w fun e w' => e = .returned (.pointer none) ∧ Below w.heap.size w w' := by
  obtain ⟨GC, hGC⟩ : ∃ x, x = [Value.int .i64 (C), .int .i64 (P)] := ⟨_, rfl⟩
  rw [show (#[Value.int .i64 (C), .int .i64 (P)] : Array Value) = GC.toArray by rw [hGC]]
  have GC2 := Lib.hid (show GC.length = 2 by rw [hGC]; rfl)
  obtain ⟨w1, hw1⟩ : ∃ x, x = (w.alloc (.cells GC.toArray 33)).alloc (.cells KC.toArray 23) := ⟨_, rfl⟩
  have W1 := Lib.hid (show Below w.heap.size w w1 by rw [hw1]; exact ((Below.refl w.heap.size w).alloc (Nat.le_refl _) (.cells GC.toArray 33)).alloc (by simp) _)
  have G1 := Lib.hid (show Blk w1 w.heap.size 33 GC by rw [hw1]; exact (Blk.new w 33 GC _ rfl).alloc _)
  have K1 := Lib.hid (show Blk w1 (w.heap.size + 1) 23 KC by rw [hw1]; exact Blk.new _ 23 KC (w.heap.size + 1) (by simp))
  have HSU := Lib.hid (fun W (hW : Below w.heap.size w W) => susum_any (C) (P) W (tp.below hW))
  rw [show (#[Value.int .i64 (C), .int .i64 (P)] : Array Value) = GC.toArray by rw [hGC]] at HSU
  obtain ⟨D0, hD0⟩ : ∃ D, D = row8 (List.replicate 32 0) := ⟨_, rfl⟩
  have hbu : Tryz.prog.built 47 [] = some D0.toArray := by rw [hD0]; exact builtSu
  have HEQ := Lib.hid (fun W => run_eql_sum (SU.sum_bytes (C) (P)) (bytes_zero 32) W)
  rw [← hD0, decide_eq_true (SU.sum_zero.2 h)] at HEQ
  obtain ⟨SU0, hSU⟩ : ∃ x, x = row8 (SU.sum (C) (P)) := ⟨_, rfl⟩
  rw [← hSU] at HEQ HSU
  clear hGC hD0 hSU tp h
  go_enter Tryz.func12, Tryz.ntmps12
  go_upto_region 1 with fail
  rw [← hw1]
  clear hw1
  go_wp2_with (first
      | ((with_reducible show wpList _ _ _ (Oper.mk _ (.load _ (.tmp 4)) _ _ _ _ :: _) _ _); refine wpList_load_wanted rfl 33 (.tmp 4) rfl w.heap.size 0 rfl GC _ G1.out.range Tryz.underlying33 rfl (by rw [GC2.out]; exact infoGeoP) ?_)
      | (go_at_call 38; (with_reducible refine (HSU.out _ W1.out).mono ?_); rintro e w2 ⟨rfl, b2⟩; have W2 := Lib.hid (W1.out.on b2); have G2 := Lib.hid (G1.out.below b2 G1.out.lt); have K2 := Lib.hid (K1.out.below b2 K1.out.lt); clear b2)
      | ((with_reducible show wpList _ _ _ (Oper.mk (some 12) (.build _ _) _ _ _ _ :: _) _ _); refine wpList_wanted rfl (.agg D0.toArray) (ex_build0 rfl hbu) ?_)
      | ((with_reducible show wpList _ _ _ (Oper.mk (some 13) (.binOp _ _ _ _ _) _ _ _ _ :: _) _ _); refine wpList_wanted rfl (.bool true) (ex_binOp (x := .tmp 11) (y := .tmp 12) (b := .eql) (t := 47) rfl rfl rfl (run_eqGuard_agg _ _ _ _ _ _ _ eqTypeS) (HEQ.out _)) ?_))
  go_ret
  exact ⟨rfl, W2.out⟩
set_option maxRecDepth 100000 in
set_option maxHeartbeats 4000000 in
theorem spcnew_ok (d cl per : Nat) (hc : 1 ≤ cl ∧ cl ≤ 64) (hp : 1 ≤ per ∧ per ≤ 2) (K : List Nat) (hK : Bytes 32 K) (w : World) (tx : TabX w) (tp : TabP w) : Calls Tryz.prog 12 #[.pointer (some ⟨d, 0, none⟩), .agg #[.int .i64 (cl : Int), .int .i64 (per : Int)], .agg (row8 K).toArray] w fun e w' => ∃ s, e = .returned (.pointer (some ⟨s, 0, none⟩)) ∧ Spa (fun k => w.heap.size ≤ k ∧ k < w'.heap.size) w' s d (SP.fresh cl per K) ∧ Below w.heap.size w w' := by
  have hmay : SU.may (cl : Int) (per : Int) = true := SU.may_iff.2 (by omega)
  have b1 : Bytes 32 (SP.fresh cl per K).one := sha_bytes _
  have b2 : Bytes 32 (SP.fresh cl per K).two := sha_bytes _
  have b3 : Bytes 32 (SP.fresh cl per K).tag := sha_bytes _
  have HL1 := Lib.hid (fun W (hW : Below w.heap.size w W) => (show Calls Tryz.prog 40 #[.agg (row8 K).toArray, .string { data := #[100, 97, 116, 97, 32, 111, 110, 101] }] W fun e w' => e = .returned (.agg (row8 (SP.fresh cl per K).one).toArray) ∧ Below W.heap.size W w' from klabel_any K hK { data := #[100, 97, 116, 97, 32, 111, 110, 101] } (by decide) W (tp.below hW)))
  have HL2 := Lib.hid (fun W (hW : Below w.heap.size w W) => (show Calls Tryz.prog 40 #[.agg (row8 K).toArray, .string { data := #[100, 97, 116, 97, 32, 116, 119, 111] }] W fun e w' => e = .returned (.agg (row8 (SP.fresh cl per K).two).toArray) ∧ Below W.heap.size W w' from klabel_any K hK { data := #[100, 97, 116, 97, 32, 116, 119, 111] } (by decide) W (tp.below hW)))
  have HL3 := Lib.hid (fun W (hW : Below w.heap.size w W) => (show Calls Tryz.prog 40 #[.agg (row8 K).toArray, .string { data := #[116, 97, 103] }] W fun e w' => e = .returned (.agg (row8 (SP.fresh cl per K).tag).toArray) ∧ Below W.heap.size W w' from klabel_any K hK { data := #[116, 97, 103] } (by decide) W (tp.below hW)))
  have HXN := Lib.hid (fun W (hW : Below w.heap.size w W) => xt_newN (SP.fresh cl per K).one (SP.fresh cl per K).two b1 b2 W (tx.below hW))
  have HBU := Lib.hid (fun x => (show Tryz.prog.built 103 [(0, .pointer (some ⟨d, 0, none⟩)), (1, .agg [Value.int .i64 (cl : Int), .int .i64 (per : Int)].toArray), (2, .pointer (some ⟨x, 0, none⟩)), (3, .agg (row8 (SP.fresh cl per K).tag).toArray)] = some (spp d x (SP.fresh cl per K)).toArray from built_spp d x cl per b3.1))
  obtain ⟨GC, hGC⟩ : ∃ x, x = [Value.int .i64 ((cl : Int)), .int .i64 ((per : Int))] := ⟨_, rfl⟩
  rw [show (#[Value.int .i64 ((cl : Int)), .int .i64 ((per : Int))] : Array Value) = GC.toArray by rw [hGC]]
  have GC2 := Lib.hid (show GC.length = 2 by rw [hGC]; rfl)
  rw [← hGC] at HBU
  have HSU := Lib.hid (fun W (hW : Below w.heap.size w W) => susum_any ((cl : Int)) ((per : Int)) W (tp.below hW))
  rw [show (#[Value.int .i64 ((cl : Int)), .int .i64 ((per : Int))] : Array Value) = GC.toArray by rw [hGC]] at HSU
  obtain ⟨D0, hD0⟩ : ∃ D, D = row8 (List.replicate 32 0) := ⟨_, rfl⟩
  have hbu : Tryz.prog.built 47 [] = some D0.toArray := by rw [hD0]; exact builtSu
  have HEQ := Lib.hid (fun W => run_eql_sum (SU.sum_bytes ((cl : Int)) ((per : Int))) (bytes_zero 32) W)
  rw [← hD0, decide_eq_false (fun q => by rw [SU.sum_zero.1 q] at hmay; cases hmay)] at HEQ
  obtain ⟨SU0, hSU⟩ : ∃ x, x = row8 (SU.sum ((cl : Int)) ((per : Int))) := ⟨_, rfl⟩
  rw [← hSU] at HEQ HSU
  have KC32 := Lib.hid (show (row8 K).length = 32 by rw [row8_len]; exact hK.1)
  obtain ⟨KC, hKC⟩ : ∃ x, x = row8 K := ⟨_, rfl⟩
  obtain ⟨L1, h1⟩ : ∃ x, x = row8 (SP.fresh cl per K).one := ⟨_, rfl⟩
  obtain ⟨L2, h2⟩ : ∃ x, x = row8 (SP.fresh cl per K).two := ⟨_, rfl⟩
  obtain ⟨L3, h3⟩ : ∃ x, x = row8 (SP.fresh cl per K).tag := ⟨_, rfl⟩
  rw [← hKC] at HL1 HL2 HL3 KC32 ⊢
  rw [← h1] at HL1 HXN
  rw [← h2] at HL2 HXN
  rw [← h3] at HL3 HBU
  obtain ⟨w1, hw1⟩ : ∃ x, x = (w.alloc (.cells GC.toArray 33)).alloc (.cells KC.toArray 23) := ⟨_, rfl⟩
  have W1 := Lib.hid (show Below w.heap.size w w1 by rw [hw1]; exact ((Below.refl w.heap.size w).alloc (Nat.le_refl _) (.cells GC.toArray 33)).alloc (by simp) _)
  have G1 := Lib.hid (show Blk w1 w.heap.size 33 GC by rw [hw1]; exact (Blk.new w 33 GC _ rfl).alloc _)
  have K1 := Lib.hid (show Blk w1 (w.heap.size + 1) 23 KC by rw [hw1]; exact Blk.new _ 23 KC (w.heap.size + 1) (by simp))
  clear hGC hD0 hSU hKC h1 h2 h3 b1 b2 b3 hmay hc hp hK tx tp
  go_enter Tryz.func12, Tryz.ntmps12
  go_upto_region 1 with fail
  rw [← hw1]
  clear hw1
  go_upto_region 3 with (first
      | ((with_reducible show wpList _ _ _ (Oper.mk _ (.load _ (.tmp 4)) _ _ _ _ :: _) _ _); refine wpList_load_wanted rfl 33 (.tmp 4) rfl w.heap.size 0 rfl GC _ G1.out.range Tryz.underlying33 rfl (by rw [GC2.out]; exact infoGeoP) ?_)
      | (go_at_call 38; (with_reducible refine (HSU.out _ W1.out).mono ?_); rintro e w2 ⟨rfl, b2⟩; have W2 := Lib.hid (W1.out.on b2); have G2 := Lib.hid (G1.out.below b2 G1.out.lt); have K2 := Lib.hid (K1.out.below b2 K1.out.lt); clear b2)
      | ((with_reducible show wpList _ _ _ (Oper.mk (some 12) (.build _ _) _ _ _ _ :: _) _ _); refine wpList_wanted rfl (.agg D0.toArray) (ex_build0 rfl hbu) ?_)
      | ((with_reducible show wpList _ _ _ (Oper.mk (some 13) (.binOp _ _ _ _ _) _ _ _ _ :: _) _ _); refine wpList_wanted rfl (.bool false) (ex_binOp (x := .tmp 11) (y := .tmp 12) (b := .eql) (t := 47) rfl rfl rfl (run_eqGuard_agg _ _ _ _ _ _ _ eqTypeS) (HEQ.out _)) ?_))
  obtain ⟨w5, hw5⟩ : ∃ x, x = w2 := ⟨_, rfl⟩
  rw [← hw5] at W2 G2 K2 ⊢
  clear W1 G1 K1 hw5
  refine wp_region_l (by kernel_rfl) 10 (by decide) (by kernel_rfl) (by kernel_rfl) (by kernel_rfl) [.val (.pointer (some ⟨d, 0, none⟩)), .val (.agg GC.toArray), .val (.agg KC.toArray), .val (.agg L1.toArray), .val (.agg KC.toArray), .val (.agg L2.toArray), ⟨fun v W => ∃ x c e, v = .pointer (some ⟨x, 0, none⟩) ∧ (w.heap.size ≤ x ∧ w.heap.size ≤ c ∧ w.heap.size ≤ e) ∧ Blk W x 133 [.pointer (some ⟨c, 0, none⟩), .pointer (some ⟨e, 0, none⟩)] ∧ Cph W c (SP.fresh cl per K).one ∧ Cph W e (SP.fresh cl per K).two, fun h k => by obtain ⟨x, c, e, h0, h1, h2, h3, h4⟩ := h; exact ⟨x, c, e, h0, h1, h2.below k h2.lt, h3.below k, h4.below k⟩⟩, .val (.agg KC.toArray), .val (.agg L3.toArray), ⟨fun v W => ∃ x c e, v = .agg (spp d x (SP.fresh cl per K)).toArray ∧ (w.heap.size ≤ x ∧ w.heap.size ≤ c ∧ w.heap.size ≤ e) ∧ Blk W x 133 [.pointer (some ⟨c, 0, none⟩), .pointer (some ⟨e, 0, none⟩)] ∧ Cph W c (SP.fresh cl per K).one ∧ Cph W e (SP.fresh cl per K).two, fun h k => by obtain ⟨x, c, e, h0, h1, h2, h3, h4⟩ := h; exact ⟨x, c, e, h0, h1, h2.below k h2.lt, h3.below k, h4.below k⟩⟩] ?_ ?_
  · refine ⟨?_, ?_, ?_, ?_, ?_, ?_, ?_, ?_, ?_, ?_, trivial⟩
    · intro a w' hF hB hd
      have e0 : a.eval (.tmp 0) = .pointer (some ⟨d, 0, none⟩) := hF 0 (by decide +kernel)
      exact doesL_val rfl (ex_move rfl e0) rfl
    · intro a w' hF hB hd
      have e4 : a.eval (.tmp 4) = .pointer (some ⟨w.heap.size, 0, none⟩) := hF 4 (by decide +kernel)
      exact doesL_val rfl (ex_load_part 33 (.tmp 4) rfl w.heap.size 0 e4 GC _ ((G2.out.below hB G2.out.lt).range) Tryz.underlying33 rfl (by rw [GC2.out]; exact infoGeoP)) rfl
    · intro a w' hF hB hd
      have e5 : a.eval (.tmp 5) = .pointer (some ⟨(w.heap.size + 1), 0, none⟩) := hF 5 (by decide +kernel)
      exact doesL_val rfl (ex_load_part 23 (.tmp 5) rfl (w.heap.size + 1) 0 e5 KC _ ((K2.out.below hB K2.out.lt).range) Tryz.underlying23 rfl (by rw [KC32.out]; exact infoKeyP)) rfl
    · intro a w' hF hB hd
      have e17 : a.eval (.tmp 17) = .agg KC.toArray := hd 2 (by decide +kernel)
      exact doesL_call rfl (ex_call (vs := #[.agg KC.toArray, .string { data := #[100, 97, 116, 97, 32, 111, 110, 101] }]) rfl (by simp only [List.map_toArray, List.map_cons, List.map_nil, e17]; rfl) (by go_simp)) ((HL1.out w' (W2.out.on hB)).mono fun e w3 hh => ⟨_, hh.1, rfl, hh.2⟩)
    · intro a w' hF hB hd
      have e5 : a.eval (.tmp 5) = .pointer (some ⟨(w.heap.size + 1), 0, none⟩) := hF 5 (by decide +kernel)
      exact doesL_val rfl (ex_load_part 23 (.tmp 5) rfl (w.heap.size + 1) 0 e5 KC _ ((K2.out.below hB K2.out.lt).range) Tryz.underlying23 rfl (by rw [KC32.out]; exact infoKeyP)) rfl
    · intro a w' hF hB hd
      have e19 : a.eval (.tmp 19) = .agg KC.toArray := hd 4 (by decide +kernel)
      exact doesL_call rfl (ex_call (vs := #[.agg KC.toArray, .string { data := #[100, 97, 116, 97, 32, 116, 119, 111] }]) rfl (by simp only [List.map_toArray, List.map_cons, List.map_nil, e19]; rfl) (by go_simp)) ((HL2.out w' (W2.out.on hB)).mono fun e w3 hh => ⟨_, hh.1, rfl, hh.2⟩)
    · intro a w' hF hB hd
      have e18 : a.eval (.tmp 18) = .agg L1.toArray := hd 3 (by decide +kernel)
      have e20 : a.eval (.tmp 20) = .agg L2.toArray := hd 5 (by decide +kernel)
      exact doesL_call rfl (ex_call (vs := #[.agg L1.toArray, .agg L2.toArray]) rfl (by simp only [List.map_toArray, List.map_cons, List.map_nil, e18, e20]) (by go_simp)) ((HXN.out w' (W2.out.on hB)).mono fun r w3 hh => by obtain ⟨x, c, e, h1, he, h2, h3, h4, hb⟩ := hh; have hs := (W2.out.on hB).size; exact ⟨_, he, ⟨x, c, e, rfl, ⟨by omega, by omega, by omega⟩, h2, h3, h4⟩, hb⟩)
    · intro a w' hF hB hd
      have e5 : a.eval (.tmp 5) = .pointer (some ⟨(w.heap.size + 1), 0, none⟩) := hF 5 (by decide +kernel)
      exact doesL_val rfl (ex_load_part 23 (.tmp 5) rfl (w.heap.size + 1) 0 e5 KC _ ((K2.out.below hB K2.out.lt).range) Tryz.underlying23 rfl (by rw [KC32.out]; exact infoKeyP)) rfl
    · intro a w' hF hB hd
      have e22 : a.eval (.tmp 22) = .agg KC.toArray := hd 7 (by decide +kernel)
      exact doesL_call rfl (ex_call (vs := #[.agg KC.toArray, .string { data := #[116, 97, 103] }]) rfl (by simp only [List.map_toArray, List.map_cons, List.map_nil, e22]; rfl) (by go_simp)) ((HL3.out w' (W2.out.on hB)).mono fun e w3 hh => ⟨_, hh.1, rfl, hh.2⟩)
    · intro a w' hF hB hd
      have e15 : a.eval (.tmp 15) = .pointer (some ⟨d, 0, none⟩) := hd 0 (by decide +kernel)
      have e16 : a.eval (.tmp 16) = .agg GC.toArray := hd 1 (by decide +kernel)
      have e23 : a.eval (.tmp 23) = .agg L3.toArray := hd 8 (by decide +kernel)
      obtain ⟨x, c, e, e21, hx⟩ : ∃ x c e, a.eval (.tmp 21) = .pointer (some ⟨x, 0, none⟩) ∧ (w.heap.size ≤ x ∧ w.heap.size ≤ c ∧ w.heap.size ≤ e) ∧ Blk w' x 133 [.pointer (some ⟨c, 0, none⟩), .pointer (some ⟨e, 0, none⟩)] ∧ Cph w' c (SP.fresh cl per K).one ∧ Cph w' e (SP.fresh cl per K).two := hd 6 (by decide +kernel)
      exact doesL_val rfl (ex_build rfl (by simp only [List.map_toArray, List.map_cons, List.map_nil, e15, e16, e21, e23]; exact HBU.out x)) ⟨x, c, e, rfl, hx⟩
  · intro vs w4 hB hv
    obtain ⟨x, c, e, e24, hx⟩ : ∃ x c e, vs 9 = .agg (spp d x (SP.fresh cl per K)).toArray ∧ (w.heap.size ≤ x ∧ w.heap.size ≤ c ∧ w.heap.size ≤ e) ∧ Blk w4 x 133 [.pointer (some ⟨c, 0, none⟩), .pointer (some ⟨e, 0, none⟩)] ∧ Cph w4 c (SP.fresh cl per K).one ∧ Cph w4 e (SP.fresh cl per K).two := hv 9 (by decide)
    obtain ⟨NS, hNS⟩ : ∃ y, y = spp d x (SP.fresh cl per K) := ⟨_, rfl⟩
    rw [← hNS] at e24
    simp only [List.take_succ_cons, List.take_zero, List.drop_succ_cons, List.drop_zero, putOps, Act.put, List.setIfInBounds_toArray, List.set_cons_zero, List.set_cons_succ, e24]
    have W4 := Lib.hid (W2.out.on hB)
    have HX := Lib.hid hx
    have HNS := Lib.hid hNS
    clear hv e24 hB hx hNS
    generalize vs 0 = z0
    generalize vs 1 = z1
    generalize vs 2 = z2
    generalize vs 3 = z3
    generalize vs 4 = z4
    generalize vs 5 = z5
    generalize vs 6 = z6
    generalize vs 7 = z7
    generalize vs 8 = z8
    go_wp2_with fail
    go_ret
    have ba := (Below.refl w4.heap.size w4).alloc (Nat.le_refl _) (.cells NS.toArray 103)
    refine ⟨w4.heap.size, rfl, ⟨x, c, e, ⟨⟨W4.out.size, by simp⟩, ⟨HX.out.1.1, ?_⟩, ⟨HX.out.1.2.1, ?_⟩, ⟨HX.out.1.2.2, ?_⟩⟩, ?_, HX.out.2.1.below ba HX.out.2.1.lt, HX.out.2.2.1.below ba, HX.out.2.2.2.below ba⟩, W4.out.alloc W4.out.size _⟩
    · have := HX.out.2.1.lt; simp; omega
    · have := HX.out.2.2.1.lt; simp; omega
    · have := HX.out.2.2.2.lt; simp; omega
    · rw [← HNS.out]; exact Blk.new w4 103 NS _ rfl
set_option maxRecDepth 100000 in
set_option maxHeartbeats 1000000 in
theorem spcread_nil (RC : List Value) (f : Value) (w : World) : Calls Tryz.prog 42 #[.pointer none, .agg RC.toArray, f] w fun e w' => e = .returned (.tuple #[.slice none 0 0, .int .i64 1]) ∧ Below w.heap.size w w' := by
  obtain ⟨w1, hw1⟩ : ∃ x, x = w.alloc (.cells RC.toArray 49) := ⟨_, rfl⟩
  have W1 := Lib.hid (show Below w.heap.size w w1 by rw [hw1]; exact (Below.refl w.heap.size w).alloc (Nat.le_refl _) _)
  go_enter Tryz.func42, Tryz.ntmps42
  go_upto_region 1 with fail
  rw [← hw1]
  clear hw1
  go_wp2_with fail
  go_ret2
  exact ⟨rfl, W1.out⟩
set_option maxRecDepth 100000 in
set_option maxHeartbeats 1000000 in
theorem spcput_nil (n : Int) (f g : Value) (w : World) : Calls Tryz.prog 50 #[.pointer none, .int .u32 n, f, g] w fun e w' => e = .returned (.tuple #[.agg (pc ND.zp).toArray, .int .i64 1]) ∧ Below w.heap.size w w' := by
  obtain ⟨RZ, hRZ⟩ : ∃ x, x = pc ND.zp := ⟨_, rfl⟩
  have hz : ∀ w, (zeroValue 49).run Tryz.prog w = .ok (.agg RZ.toArray) w := by rw [hRZ]; exact zeroRfP
  have hbr : Tryz.prog.built 49 [] = some RZ.toArray := by rw [hRZ]; exact builtRfP
  have RZ33 := Lib.hid (show RZ.length = 33 by rw [hRZ]; exact pc_len ND.zp_ok)
  have RZ1 := Lib.hid (show (RZ.toArray.all (·.oneCell')) = true by rw [hRZ]; exact one_pg _)
  obtain ⟨w1, hw1⟩ : ∃ x, x = w.alloc (.cells RZ.toArray 49) := ⟨_, rfl⟩
  have W1 := Lib.hid (show Below w.heap.size w w1 by rw [hw1]; exact (Below.refl w.heap.size w).alloc (Nat.le_refl _) (.cells RZ.toArray 49))
  have R1 := Lib.hid (show Blk w1 w.heap.size 49 RZ by rw [hw1]; exact Blk.new w 49 RZ _ rfl)
  rw [← hRZ]
  clear hRZ
  go_enter Tryz.func50, Tryz.ntmps50
  go_upto_region 1 with fail
  rw [← hw1]
  clear hw1
  go_wp2_with (first
    | ((with_reducible show wpList _ _ _ (Oper.mk (some 16) (.build _ _) _ _ _ _ :: _) _ _); refine wpList_wanted rfl (.agg RZ.toArray) (ex_build0 rfl hbr) ?_)
    | ((with_reducible show wpList _ _ _ (Oper.mk _ (.store _ (.tmp 8) (.tmp 16)) _ _ _ _ :: _) _ _); refine wpList_store_blk rfl 49 (.tmp 8) (.tmp 16) rfl w.heap.size 0 RZ rfl rfl 49 RZ R1.out (by rw [Nat.zero_add]; exact Nat.le_refl _) (by rw [RZ33.out]; exact infoRfQ) (RZ1.out) ?_; intro w2 b' g'; rw [splice_all _ _ (by rfl)] at b'; have U := Lib.hid b'; have W2 := Lib.hid (W1.out.grown g' W1.out.size (fun g hg => by have := Option.some.inj hg; omega)); clear b' g'))
  refine bodyPost_ret (results_mid2 rfl _ _ w.heap.size RZ _ rfl U.out.range Tryz.underlying49 rfl (by rw [RZ33.out]; exact infoRfQ)) rfl ?_
  exact ⟨rfl, W2.out⟩
set_option maxRecDepth 100000 in
set_option maxHeartbeats 1000000 in
theorem spcpage_nil (r : Pg) (hr : Pok r) (w : World) : Calls Tryz.prog 16 #[.pointer none, .agg (pc r).toArray] w fun e w' => e = .returned (.tuple #[.slice none 0 0, .int .i64 1]) ∧ Below w.heap.size w w' := by
  have RC33 := Lib.hid (pc_len hr)
  obtain ⟨RC, hRC⟩ : ∃ x, x = pc r := ⟨_, rfl⟩
  rw [← hRC] at RC33 ⊢
  obtain ⟨w1, hw1⟩ : ∃ x, x = w.alloc (.cells RC.toArray 49) := ⟨_, rfl⟩
  have W1 := Lib.hid (show Below w.heap.size w w1 by rw [hw1]; exact (Below.refl w.heap.size w).alloc (Nat.le_refl _) _)
  have R1 := Lib.hid (show Blk w1 w.heap.size 49 RC by rw [hw1]; exact Blk.new w 49 RC _ rfl)
  have HRD := Lib.hid (fun f => spcread_nil RC f w1)
  clear hRC hr
  go_enter Tryz.func16, Tryz.ntmps16
  go_upto_region 1 with fail
  rw [← hw1]
  clear hw1
  go_wp2_with (first
    | ((with_reducible show wpList _ _ _ (Oper.mk _ (.load _ (.tmp 3)) _ _ _ _ :: _) _ _); refine wpList_load_mid rfl 49 (.tmp 3) rfl w.heap.size 0 rfl RC _ R1.out.range Tryz.underlying49 rfl (by rw [RC33.out]; exact infoRfQ) ?_)
    | (go_at_call 42; (with_reducible refine (HRD.out _).mono ?_); rintro e w2 ⟨rfl, b2⟩; have W2 := Lib.hid (W1.out.on b2); clear b2))
  go_ret2
  exact ⟨rfl, W2.out⟩
set_option maxRecDepth 100000 in
set_option maxHeartbeats 1000000 in
theorem spcnode_nil (r : Pg) (hr : Pok r) (w : World) : Calls Tryz.prog 15 #[.pointer none, .agg (pc r).toArray] w fun e w' => e = .returned (.tuple #[.agg (pcs ND.zn).toArray, .int .i64 1]) ∧ Below w.heap.size w w' := by
  have RC33 := Lib.hid (pc_len hr)
  obtain ⟨RC, hRC⟩ : ∃ x, x = pc r := ⟨_, rfl⟩
  rw [← hRC] at RC33 ⊢
  obtain ⟨Z0, hZ0⟩ : ∃ x, x = pcs ND.zn := ⟨_, rfl⟩
  have hz : ∀ w, (zeroValue 51).run Tryz.prog w = .ok (.agg Z0.toArray) w := by rw [hZ0]; exact zeroNdP
  have hbz : Tryz.prog.built 51 [] = some Z0.toArray := by rw [hZ0]; exact builtNdP
  have Z264 := Lib.hid (show Z0.length = 264 by rw [hZ0]; rfl)
  have Z1 := Lib.hid (show Z0.toArray.all (·.oneCell') = true by rw [hZ0, List.all_toArray, List.all_eq_true]; exact pcs_one' _)
  obtain ⟨w1, hw1⟩ : ∃ x, x = (w.alloc (.cells RC.toArray 49)).alloc (.cells Z0.toArray 51) := ⟨_, rfl⟩
  have W1 := Lib.hid (show Below w.heap.size w w1 by rw [hw1]; exact ((Below.refl w.heap.size w).alloc (Nat.le_refl _) _).alloc (by simp) _)
  have R1 := Lib.hid (show Blk w1 w.heap.size 49 RC by rw [hw1]; exact (Blk.new w 49 RC _ rfl).alloc _)
  have N1 := Lib.hid (show Blk w1 (w.heap.size + 1) 51 Z0 by rw [hw1]; exact Blk.new _ 51 Z0 (w.heap.size + 1) (by simp))
  have HRD := Lib.hid (fun f => spcread_nil RC f w1)
  rw [← hZ0]
  clear hRC hr hZ0
  go_enter Tryz.func15, Tryz.ntmps15
  go_upto_region 1 with fail
  rw [← hw1]
  clear hw1
  go_wp2_with (first
    | ((with_reducible show wpList _ _ _ (Oper.mk _ (.load _ (.tmp 3)) _ _ _ _ :: _) _ _); refine wpList_load_mid rfl 49 (.tmp 3) rfl w.heap.size 0 rfl RC _ R1.out.range Tryz.underlying49 rfl (by rw [RC33.out]; exact infoRfQ) ?_)
    | (go_at_call 42; (with_reducible refine (HRD.out _).mono ?_); rintro e w2 ⟨rfl, b2⟩; have W4 := Lib.hid (W1.out.on b2); have N4 := Lib.hid (N1.out.below b2 N1.out.lt); clear b2)
    | ((with_reducible show wpList _ _ _ (Oper.mk (some 17) (.build _ _) _ _ _ _ :: _) _ _); refine wpList_wanted rfl (.agg Z0.toArray) (ex_build0 rfl hbz) ?_)
    | ((with_reducible show wpList _ _ _ (Oper.mk _ (.store _ (.tmp 4) (.tmp 17)) _ _ _ _ :: _) _ _); refine wpList_store_blk rfl 51 (.tmp 4) (.tmp 17) rfl (w.heap.size + 1) 0 Z0 rfl rfl 51 Z0 N4.out (by have := Z264.out; have := Z264.out; omega) (by rw [Z264.out]; exact infoNdP) Z1.out ?_; intro w5 b' g'; rw [splice_all _ _ (by have := Z264.out; have := Z264.out; omega)] at b'; have F5 := Lib.hid b'; have W5 := Lib.hid (W4.out.grown g' W4.out.size (fun i hi => by have := Option.some.inj hi; omega)); clear b' g'))
  refine bodyPost_ret (results_mid2 rfl _ _ (w.heap.size + 1) Z0 _ rfl F5.out.range Tryz.underlying51 rfl (by rw [Z264.out]; exact infoNdP)) rfl ?_
  exact ⟨rfl, W5.out⟩
set_option maxRecDepth 100000 in
set_option maxHeartbeats 1000000 in
theorem spcdata_nil (r : Pg) (hr : Pok r) (w : World) : Calls Tryz.prog 14 #[.pointer none, .agg (pc r).toArray] w fun e w' => e = .returned (.tuple #[.slice none 0 0, .int .i64 1]) ∧ Below w.heap.size w w' := by
  have HA0 := Lib.hid (show (pc r)[0]? = some (.int .u32 (r.at_ : Int)) from rfl)
  have RC33 := Lib.hid (pc_len hr)
  obtain ⟨at_, hat⟩ : ∃ x, x = r.at_ := ⟨_, rfl⟩
  obtain ⟨RC, hRC⟩ : ∃ x, x = pc r := ⟨_, rfl⟩
  rw [← hRC] at RC33 HA0 ⊢
  rw [← hat] at HA0
  obtain ⟨w1, hw1⟩ : ∃ x, x = w.alloc (.cells RC.toArray 49) := ⟨_, rfl⟩
  have W1 := Lib.hid (show Below w.heap.size w w1 by rw [hw1]; exact (Below.refl w.heap.size w).alloc (Nat.le_refl _) _)
  have R1 := Lib.hid (show Blk w1 w.heap.size 49 RC by rw [hw1]; exact Blk.new w 49 RC _ rfl)
  clear hRC hr hat
  go_enter Tryz.func14, Tryz.ntmps14
  go_upto_region 1 with fail
  rw [← hw1]
  clear hw1
  refine wp_region_l (by kernel_rfl) 11 (by decide) (by kernel_rfl) (by kernel_rfl) (by kernel_rfl) [.val (.pointer none), .val (.agg RC.toArray), .val (.pointer none), .val (.pointer (some ⟨w.heap.size, 0, none⟩)), .val (.int .u32 (at_ : Int)), ⟨fun _ _ => True, fun _ _ => trivial⟩, .val (.tuple #[.slice none 0 0, .int .i64 1]), .val (.tuple #[.slice none 0 0, .int .i64 1]), .val (.slice none 0 0), .val (.int .i64 1), .val (.slice none 0 0)] ?_ ?_
  · refine ⟨?_, ?_, ?_, ?_, ?_, ?_, ?_, ?_, ?_, ?_, ?_, trivial⟩
    · intro a w' hF hB hd
      have e0 : a.eval (.tmp 0) = .pointer none := hF 0 (by decide +kernel)
      exact doesL_val rfl (ex_move rfl e0) rfl
    · intro a w' hF hB hd
      have e3 : a.eval (.tmp 3) = .pointer (some ⟨w.heap.size, 0, none⟩) := hF 3 (by decide +kernel)
      exact doesL_val rfl (ex_load_part 49 (.tmp 3) rfl w.heap.size 0 e3 RC _ ((R1.out.below hB R1.out.lt).range) Tryz.underlying49 rfl (by rw [RC33.out]; exact infoRfQ)) rfl
    · intro a w' hF hB hd
      have e0 : a.eval (.tmp 0) = .pointer none := hF 0 (by decide +kernel)
      exact doesL_val rfl (ex_move rfl e0) rfl
    · intro a w' hF hB hd
      have e3 : a.eval (.tmp 3) = .pointer (some ⟨w.heap.size, 0, none⟩) := hF 3 (by decide +kernel)
      exact doesL_val rfl (ex_fieldAddr rfl e3 (by go_simp)) rfl
    · intro a w' hF hB hd
      have e12 : a.eval (.tmp 12) = .pointer (some ⟨w.heap.size, 0, none⟩) := hd 3 (by decide +kernel)
      have cc := (R1.out.below hB R1.out.lt).cell 0 _ HA0.out
      exact doesL_val rfl (v := .int .u32 (at_ : Int)) (by unfold execOp; simp only [e12]; go_simp) rfl
    · intro a w' hF hB hd
      have e11 : a.eval (.tmp 11) = .pointer none := hd 2 (by decide +kernel)
      have e13 : a.eval (.tmp 13) = .int .u32 (at_ : Int) := hd 4 (by decide +kernel)
      exact doesL_call rfl (ex_call (vs := #[.pointer none, .int .u32 (at_ : Int)]) rfl (by simp only [List.map_toArray, List.map_cons, List.map_nil, e11, e13]) (by go_simp)) ((spleaf_any none at_ w').mono fun e w3 hh => by obtain ⟨b0, b1, he, _, _, _, _, hb⟩ := hh; exact ⟨_, he, trivial, hb⟩)
    · intro a w' hF hB hd
      have e9 : a.eval (.tmp 9) = .pointer none := hd 0 (by decide +kernel)
      have e10 : a.eval (.tmp 10) = .agg RC.toArray := hd 1 (by decide +kernel)
      exact doesL_call rfl (ex_call (vs := #[.pointer none, .agg RC.toArray, a.eval (.tmp 14)]) rfl (by simp only [List.map_toArray, List.map_cons, List.map_nil, e9, e10]) (by go_simp)) ((spcread_nil RC _ w').mono fun e w3 hh => ⟨_, hh.1, rfl, hh.2⟩)
    · intro a w' hF hB hd
      have e15 : a.eval (.tmp 15) = .tuple #[.slice none 0 0, .int .i64 1] := hd 6 (by decide +kernel)
      exact doesL_val rfl (ex_move rfl e15) rfl
    · intro a w' hF hB hd
      have e8 : a.eval (.tmp 8) = .tuple #[.slice none 0 0, .int .i64 1] := hd 7 (by decide +kernel)
      exact doesL_val rfl (v := .slice none 0 0) (by unfold execOp; simp only [e8]; rfl) rfl
    · intro a w' hF hB hd
      have e8 : a.eval (.tmp 8) = .tuple #[.slice none 0 0, .int .i64 1] := hd 7 (by decide +kernel)
      exact doesL_val rfl (v := .int .i64 1) (by unfold execOp; simp only [e8]; rfl) rfl
    · intro a w' hF hB hd
      have e16 : a.eval (.tmp 16) = .slice none 0 0 := hd 8 (by decide +kernel)
      exact doesL_val rfl (ex_assign rfl e16) rfl
  · intro vs w4 hB hv
    have e17 : vs 9 = .int .i64 1 := hv 9 (by decide)
    have e6 : vs 10 = .slice none 0 0 := hv 10 (by decide)
    simp only [List.take_succ_cons, List.take_zero, List.drop_succ_cons, List.drop_zero, putOps, Act.put, List.setIfInBounds_toArray, List.set_cons_zero, List.set_cons_succ, e17, e6]
    have W4 := Lib.hid (W1.out.on hB)
    clear hv e17 e6 hB
    generalize vs 0 = z0
    generalize vs 1 = z1
    generalize vs 2 = z2
    generalize vs 3 = z3
    generalize vs 4 = z4
    generalize vs 5 = z5
    generalize vs 6 = z6
    generalize vs 7 = z7
    generalize vs 8 = z8
    go_wp2_with fail
    go_ret2
    exact ⟨rfl, W4.out⟩
set_option maxRecDepth 100000 in
set_option maxHeartbeats 1000000 in
theorem spcputpage_nil (n : Int) (b : List Nat) (v : Value) (w : World) (hv : Rd w v b) : Calls Tryz.prog 19 #[.pointer none, .int .u32 n, v] w fun e w' => e = .returned (.tuple #[.agg (pc ND.zp).toArray, .int .i64 1]) ∧ Below w.heap.size w w' := by
  obtain ⟨ba, bc, rfl, _⟩ := hv.shape
  obtain ⟨C, hC⟩ : ∃ x, x = pc ND.zp := ⟨_, rfl⟩
  have hz : ∀ w, (zeroValue 49).run Tryz.prog w = .ok (.agg C.toArray) w := by rw [hC]; exact zeroRfP
  have C33 := Lib.hid (show C.length = 33 by rw [hC]; exact pc_len ND.zp_ok)
  have C1 := Lib.hid (show (C.toArray.all (·.oneCell')) = true by rw [hC]; exact one_pg _)
  have HPU := Lib.hid (fun W f g => spcput_nil n f g W)
  rw [← hC] at HPU ⊢
  obtain ⟨w1, hw1⟩ : ∃ x, x = w.alloc (.cells C.toArray 49) := ⟨_, rfl⟩
  have W1 := Lib.hid (show Below w.heap.size w w1 by rw [hw1]; exact (Below.refl w.heap.size w).alloc (Nat.le_refl _) (.cells C.toArray 49))
  have R1 := Lib.hid (show Blk w1 w.heap.size 49 C by rw [hw1]; exact Blk.new w 49 C _ rfl)
  obtain ⟨bl, hbl⟩ : ∃ x, x = b.length := ⟨_, rfl⟩
  have HPD := Lib.hid (sppadded_any none ba bl bc w1)
  rw [← hbl]
  clear hC hv hbl
  go_enter Tryz.func19, Tryz.ntmps19
  go_upto_region 1 with fail
  rw [← hw1]
  clear hw1
  go_wp2_with (first
    | (go_at_call 51; (with_reducible refine HPD.out.mono ?_); rintro e w3 ⟨b0, b1, rfl, _, _, _, _, b3⟩; have W3 := Lib.hid (W1.out.on b3); have R3 := Lib.hid (R1.out.below b3 R1.out.lt); clear b3)
    | (go_at_call 50; (with_reducible refine (HPU.out _ _ _).mono ?_); rintro e w4 ⟨rfl, b4⟩; have W4 := Lib.hid (W3.out.on b4); have R4 := Lib.hid (R3.out.below b4 R3.out.lt); clear b4)
    | ((with_reducible show wpList _ _ _ (Oper.mk _ (.store _ (.tmp 6) (.tmp 14)) _ _ _ _ :: _) _ _); refine wpList_store_blk rfl 49 (.tmp 6) (.tmp 14) rfl w.heap.size 0 C rfl rfl 49 C R4.out (by have := C33.out; have := C33.out; omega) (by rw [C33.out]; exact infoRfQ) C1.out ?_; intro w5 b' g'; rw [splice_all _ _ (by rfl)] at b'; have U := Lib.hid b'; have GRU := Lib.hid g'; clear b' g'))
  refine bodyPost_ret (results_mid2 rfl _ _ w.heap.size C _ rfl U.out.range Tryz.underlying49 rfl (by rw [C33.out]; exact infoRfQ)) rfl ?_
  exact ⟨rfl, W4.out.grown GRU.out W4.out.size (fun g hg => by have := Option.some.inj hg; omega)⟩
set_option maxRecDepth 100000 in
set_option maxHeartbeats 1000000 in
theorem spcputnode_nil (n : Int) (x : List Pg) (hx : ND.Nok x) (w : World) : Calls Tryz.prog 18 #[.pointer none, .int .u32 n, .agg (pcs x).toArray] w fun e w' => e = .returned (.tuple #[.agg (pc ND.zp).toArray, .int .i64 1]) ∧ Below w.heap.size w w' := by
  obtain ⟨C, hC⟩ : ∃ x, x = pc ND.zp := ⟨_, rfl⟩
  have hz : ∀ w, (zeroValue 49).run Tryz.prog w = .ok (.agg C.toArray) w := by rw [hC]; exact zeroRfP
  have C33 := Lib.hid (show C.length = 33 by rw [hC]; exact pc_len ND.zp_ok)
  have C1 := Lib.hid (show (C.toArray.all (·.oneCell')) = true by rw [hC]; exact one_pg _)
  have HPU := Lib.hid (fun W f g => spcput_nil n f g W)
  rw [← hC] at HPU ⊢
  have X264 := Lib.hid (ND.pcs_len8 hx)
  have HNP := Lib.hid (fun W => npput_any x hx W)
  have HOL := Lib.hid (ND.ones_len8 hx)
  obtain ⟨w1, hw1⟩ : ∃ y, y = (w.alloc (.cells (pcs x).toArray 51)).alloc (.cells C.toArray 49) := ⟨_, rfl⟩
  have W1 := Lib.hid (show Below w.heap.size w w1 by rw [hw1]; exact ((Below.refl w.heap.size w).alloc (Nat.le_refl _) (.cells (pcs x).toArray 51)).alloc (by simp) _)
  have X1 := Lib.hid (show Blk w1 w.heap.size 51 (pcs x) by rw [hw1]; exact (Blk.new w 51 (pcs x) _ rfl).alloc _)
  have R1 := Lib.hid (show Blk w1 (w.heap.size + 1) 49 C by rw [hw1]; exact Blk.new _ 49 C (w.heap.size + 1) (by simp))
  have HPD := Lib.hid (fun W ba bl bc => sppadded_any none ba bl bc W)
  obtain ⟨ON, hON⟩ : ∃ y, y = ones x := ⟨_, rfl⟩
  rw [← hON] at HNP HOL
  obtain ⟨XC, hXC⟩ : ∃ y, y = pcs x := ⟨_, rfl⟩
  rw [← hXC] at X264 X1 HNP hw1 ⊢
  clear hC hON hXC hx
  go_enter Tryz.func18, Tryz.ntmps18
  go_upto_region 1 with fail
  rw [← hw1]
  clear hw1
  go_wp2_with (first
    | ((with_reducible show wpList _ _ _ (Oper.mk _ (.load _ (.tmp 5)) _ _ _ _ :: _) _ _); refine wpList_load_mid rfl 51 (.tmp 5) rfl w.heap.size 0 rfl XC _ X1.out.range Tryz.underlying51 rfl (by rw [X264.out]; exact infoNdP) ?_)
    | (go_at_call 52; (with_reducible refine (HNP.out _).mono ?_); rintro e w2 ⟨v, rfl, o2, b2⟩; obtain ⟨va, vc, rfl, _⟩ := o2.rd.shape; have W2 := Lib.hid (W1.out.on b2); have R2 := Lib.hid (R1.out.below b2 R1.out.lt); clear o2 b2)
    | (go_at_call 51; (with_reducible refine (HPD.out _ _ _ _).mono ?_); rintro e w3 ⟨b0, b1, rfl, _, _, _, _, b3⟩; have W3 := Lib.hid (W2.out.on b3); have R3 := Lib.hid (R2.out.below b3 R2.out.lt); clear b3)
    | (go_at_call 50; (with_reducible refine (HPU.out _ _ _).mono ?_); rintro e w4 ⟨rfl, b4⟩; have W4 := Lib.hid (W3.out.on b4); have R4 := Lib.hid (R3.out.below b4 R3.out.lt); clear b4)
    | ((with_reducible show wpList _ _ _ (Oper.mk _ (.store _ (.tmp 6) (.tmp 15)) _ _ _ _ :: _) _ _); refine wpList_store_blk rfl 49 (.tmp 6) (.tmp 15) rfl (w.heap.size + 1) 0 C rfl rfl 49 C R4.out (by have := C33.out; have := C33.out; omega) (by rw [C33.out]; exact infoRfQ) C1.out ?_; intro w5 b' g'; rw [splice_all _ _ (by rfl)] at b'; have U := Lib.hid b'; have GRU := Lib.hid g'; clear b' g'))
  refine bodyPost_ret (results_mid2 rfl _ _ (w.heap.size + 1) C _ rfl U.out.range Tryz.underlying49 rfl (by rw [C33.out]; exact infoRfQ)) rfl ?_
  exact ⟨rfl, W4.out.grown GRU.out W4.out.size (fun g hg => by have := Option.some.inj hg; omega)⟩
def PdN (w w1 : World) (C : List Value) : Nat → Told → World → Prop
  | 0, _, W => Below w1.heap.size w1 W
  | 1, _, W => Below w1.heap.size w1 W
  | 2, _, W => Below w1.heap.size w1 W
  | _, _, W => Below w.heap.size w W ∧ Blk W (w.heap.size + 1 + 1 + 1) 49 C
set_option maxRecDepth 100000 in
set_option maxHeartbeats 4000000 in
theorem spcputdata_nil (n : Nat) (b : List Nat) (v : Value) (w : World) (hv : Rd w v b) : Calls Tryz.prog 17 #[.pointer none, .int .u32 (n : Int), v] w fun e w' => e = .returned (.tuple #[.agg (pc ND.zp).toArray, .int .i64 1]) ∧ Below w.heap.size w w' := by
  obtain ⟨ba, bc, rfl, _⟩ := hv.shape
  obtain ⟨C, hC⟩ : ∃ x, x = pc ND.zp := ⟨_, rfl⟩
  have hz : ∀ w, (zeroValue 49).run Tryz.prog w = .ok (.agg C.toArray) w := by rw [hC]; exact zeroRfP
  have C33 := Lib.hid (show C.length = 33 by rw [hC]; exact pc_len ND.zp_ok)
  have C1 := Lib.hid (show (C.toArray.all (·.oneCell')) = true by rw [hC]; exact one_pg _)
  have HPU := Lib.hid (fun W f g => spcput_nil (n : Int) f g W)
  rw [← hC] at HPU ⊢
  obtain ⟨bl, hbl⟩ : ∃ x, x = b.length := ⟨_, rfl⟩
  rw [← hbl]
  obtain ⟨w1, hw1⟩ : ∃ x, x = (((w.alloc (.cells #[.pointer none] 28)).alloc (.cells #[.int .u32 (n : Int)] 45)).alloc (.cells #[.slice ba bl bc] 46)).alloc (.cells C.toArray 49) := ⟨_, rfl⟩
  have W1 := Lib.hid (show Below w.heap.size w w1 by rw [hw1]; exact ((((Below.refl w.heap.size w).alloc (Nat.le_refl _) _).alloc (by simp) _).alloc (by simp; omega) _).alloc (by simp; omega) _)
  have P0 := Lib.hid (show Blk w1 w.heap.size 28 [.pointer none] by rw [hw1]; exact (((Blk.new w 28 [.pointer none] _ rfl).alloc _).alloc _).alloc _)
  have P1 := Lib.hid (show Blk w1 (w.heap.size + 1) 45 [.int .u32 (n : Int)] by rw [hw1]; exact ((Blk.new _ 45 [.int .u32 (n : Int)] (w.heap.size + 1) (by simp)).alloc _).alloc _)
  have R1 := Lib.hid (show Blk w1 (w.heap.size + 1 + 1 + 1) 49 C by rw [hw1]; exact Blk.new _ 49 C (w.heap.size + 1 + 1 + 1) (by simp))
  obtain ⟨m, hm⟩ : ∃ m : Nat, m = (n + 1) % 4294967296 := ⟨_, rfl⟩
  have HWN := Lib.hid (show IntKind.u32.wrap ((n : Int) + 1) = (m : Int) by rw [IntKind.wrap_u32]; omega)
  have hmf := fun (fn : Fn) (first cap : Array Value) (w : World) => run_makeFunc fn first cap w
  clear hC hv hbl hm
  go_enter Tryz.func17, Tryz.ntmps17
  go_upto_region 1 with fail
  rw [← hw1]
  clear hw1
  go_upto_region 2 with fail
  refine wp_region_z (by kernel_rfl) [6, 7, 10] (by kernel_rfl) (by kernel_rfl) (Stg [6, 7, 10] ((PdN w w1 C))) [.pre (.pointer none), .pre (.int .u32 (n : Int)), .pre (.func (.func 48) #[] #[.pointer (some ⟨w.heap.size, 0, none⟩), .pointer (some ⟨(w.heap.size + 1), 0, none⟩), .pointer (some ⟨(w.heap.size + 1 + 1), 0, none⟩)]), .pre (.pointer none), .pre (.int .u32 (n : Int)), .pre (.int .u32 (m : Int)), .any, .pre (.tuple #[.agg C.toArray, .int .i64 1]), .pre (.agg C.toArray), .pre (.int .i64 1), .any, .pre (.int .i64 1)] (fun i hi hq => by
        simp only [List.mem_cons, List.mem_nil_iff, or_false] at hi
        rcases hi with rfl | rfl | rfl
        · rfl
        · exact absurd hq (by decide +kernel)
        · rfl) (Stg.zero (Below.refl _ _).drew) ?_ ?_
  · refine ⟨?_, ?_, ?_, ?_, ?_, ?_, ?_, ?_, ?_, ?_, ?_, ?_, trivial⟩
    · intro a w5 r hF hI hns hri h1 h2 hd
      have e3 : a.eval (.tmp 3) = .pointer (some ⟨w.heap.size, 0, none⟩) := hF 3 (by decide +kernel)
      obtain ⟨k, hk1, hk2, hA⟩ : ∃ k, 0 ≤ k ∧ k ≤ 1 ∧ (PdN w w1 C) k r w5 := hI.between 0 1 (.inl rfl) (.inr ⟨by decide, h1 7 (by decide) (by decide +kernel)⟩)
      have hB : w5.cell? ⟨w.heap.size, 0, none⟩ = some (.pointer none) := by
        rcases (show k = 0 ∨ k = 1 by omega) with rfl | rfl
        · exact (P0.out.below hA P0.out.lt).cell 0 _ rfl
        · exact (P0.out.below hA P0.out.lt).cell 0 _ rfl
      exact doesZ_read (v := .pointer none) (by decide) rfl (by unfold execOp; simp only [e3]; go_simp) hI rfl
    · intro a w5 r hF hI hns hri h1 h2 hd
      have e4 : a.eval (.tmp 4) = .pointer (some ⟨w.heap.size + 1, 0, none⟩) := hF 4 (by decide +kernel)
      obtain ⟨k, hk1, hk2, hA⟩ : ∃ k, 0 ≤ k ∧ k ≤ 1 ∧ (PdN w w1 C) k r w5 := hI.between 0 1 (.inl rfl) (.inr ⟨by decide, h1 7 (by decide) (by decide +kernel)⟩)
      have hB : w5.cell? ⟨w.heap.size + 1, 0, none⟩ = some (.int .u32 (n : Int)) := by
        rcases (show k = 0 ∨ k = 1 by omega) with rfl | rfl
        · exact (P1.out.below hA P1.out.lt).cell 0 _ rfl
        · exact (P1.out.below hA P1.out.lt).cell 0 _ rfl
      exact doesZ_read (v := .int .u32 (n : Int)) (by decide) rfl (by unfold execOp; simp only [e4]; go_simp) hI rfl
    · intro a w5 r hF hI hns hri h1 h2 hd
      have e8 : a.eval (.tmp 8) = .func (.func 48) #[] #[.pointer (some ⟨w.heap.size, 0, none⟩), .pointer (some ⟨(w.heap.size + 1), 0, none⟩), .pointer (some ⟨(w.heap.size + 1 + 1), 0, none⟩)] := hF 8 (by decide +kernel)
      exact doesZ_read (v := .func (.func 48) #[] #[.pointer (some ⟨w.heap.size, 0, none⟩), .pointer (some ⟨(w.heap.size + 1), 0, none⟩), .pointer (some ⟨(w.heap.size + 1 + 1), 0, none⟩)]) (by decide) rfl (ex_move rfl e8) hI rfl
    · intro a w5 r hF hI hns hri h1 h2 hd
      have e3 : a.eval (.tmp 3) = .pointer (some ⟨w.heap.size, 0, none⟩) := hF 3 (by decide +kernel)
      have hA0 : (PdN w w1 C) 0 r w5 := hI.at_ 0 (.inl rfl) (.inr ⟨by decide, h1 6 (by decide) (by decide +kernel)⟩)
      have hB : w5.cell? ⟨w.heap.size, 0, none⟩ = some (.pointer none) := by exact (P0.out.below hA0 P0.out.lt).cell 0 _ rfl
      exact doesZ_read (v := .pointer none) (by decide) rfl (by unfold execOp; simp only [e3]; go_simp) hI rfl
    · intro a w5 r hF hI hns hri h1 h2 hd
      have e4 : a.eval (.tmp 4) = .pointer (some ⟨w.heap.size + 1, 0, none⟩) := hF 4 (by decide +kernel)
      have hA0 : (PdN w w1 C) 0 r w5 := hI.at_ 0 (.inl rfl) (.inr ⟨by decide, h1 6 (by decide) (by decide +kernel)⟩)
      have hB : w5.cell? ⟨w.heap.size + 1, 0, none⟩ = some (.int .u32 (n : Int)) := by exact (P1.out.below hA0 P1.out.lt).cell 0 _ rfl
      exact doesZ_read (v := .int .u32 (n : Int)) (by decide) rfl (by unfold execOp; simp only [e4]; go_simp) hI rfl
    · intro a w5 r hF hI hns hri h1 h2 hd
      have e14 : a.eval (.tmp 14) = .int .u32 (n : Int) := hd 4 (by decide +kernel)
      have hwn := HWN.out
      exact doesZ_read (v := .int .u32 (m : Int)) (by decide) rfl (ex_binOp rfl e14 rfl (by go_simp) (by go_simp)) hI rfl
    · intro a w5 r hF hI hns hri h1 h2 hd
      have e13 : a.eval (.tmp 13) = .pointer none := hd 3 (by decide +kernel)
      have e15 : a.eval (.tmp 15) = .int .u32 (m : Int) := hd 5 (by decide +kernel)
      have hA0 : (PdN w w1 C) 0 r w5 := hI.at_ 0 (.inl rfl) (.inr ⟨by decide, hri⟩)
      exact doesZ_call (by decide) rfl (ex_call (vs := #[.pointer none, .int .u32 (m : Int)]) rfl (by simp only [List.map_toArray, List.map_cons, List.map_nil, e13, e15]) (by go_simp)) ((spleaf_any none m w5).mono fun e w6 hh => by obtain ⟨b0, b1, he, l0, l1, g0, g1, hb⟩ := hh; exact ⟨_, he, hI.next 0 6 _ rfl (by decide) (.inl rfl) hri (by decide) (hA0.on hb), trivial⟩)
    · intro a w5 r hF hI hns hri h1 h2 hd
      have e10 : a.eval (.tmp 10) = .pointer none := hd 0 (by decide +kernel)
      have e11 : a.eval (.tmp 11) = .int .u32 (n : Int) := hd 1 (by decide +kernel)
      have e12 : a.eval (.tmp 12) = .func (.func 48) #[] #[.pointer (some ⟨w.heap.size, 0, none⟩), .pointer (some ⟨(w.heap.size + 1), 0, none⟩), .pointer (some ⟨(w.heap.size + 1 + 1), 0, none⟩)] := hd 2 (by decide +kernel)
      have hA0 : (PdN w w1 C) 1 r w5 := hI.at_ 1 (.inr ⟨by decide, h2 6 (by decide) (by decide +kernel)⟩) (.inr ⟨by decide, hri⟩)
      exact doesZ_call (by decide) rfl (ex_call (vs := #[.pointer none, .int .u32 (n : Int), .func (.func 48) #[] #[.pointer (some ⟨w.heap.size, 0, none⟩), .pointer (some ⟨(w.heap.size + 1), 0, none⟩), .pointer (some ⟨(w.heap.size + 1 + 1), 0, none⟩)], a.eval (.tmp 16)]) rfl (by simp only [List.map_toArray, List.map_cons, List.map_nil, e10, e11, e12]) (by go_simp)) ((HPU.out w5 _ _).mono fun e w6 hh => ⟨_, hh.1, hI.next 1 7 _ rfl (by decide) (.inr ⟨by decide, h2 6 (by decide) (by decide +kernel)⟩) hri (by decide) (hA0.on hh.2), rfl⟩)
    · intro a w5 r hF hI hns hri h1 h2 hd
      have e17 : a.eval (.tmp 17) = .tuple #[.agg C.toArray, .int .i64 1] := hd 7 (by decide +kernel)
      exact doesZ_read (v := .agg C.toArray) (by decide) rfl (by unfold execOp; simp only [e17]; rfl) hI rfl
    · intro a w5 r hF hI hns hri h1 h2 hd
      have e17 : a.eval (.tmp 17) = .tuple #[.agg C.toArray, .int .i64 1] := hd 7 (by decide +kernel)
      exact doesZ_read (v := .int .i64 1) (by decide) rfl (by unfold execOp; simp only [e17]; rfl) hI rfl
    · intro a w5 r hF hI hns hri h1 h2 hd
      have e6 : a.eval (.tmp 6) = .pointer (some ⟨(w.heap.size + 1 + 1 + 1), 0, none⟩) := hF 6 (by decide +kernel)
      have e18 : a.eval (.tmp 18) = .agg C.toArray := hd 8 (by decide +kernel)
      have hA0 : (PdN w w1 C) 2 r w5 := hI.at_ 2 (.inr ⟨by decide, h2 7 (by decide) (by decide +kernel)⟩) (.inr ⟨by decide, hri⟩)
      exact doesZ_put (by decide) rfl 49 (.tmp 6) (.tmp 18) rfl (w.heap.size + 1 + 1 + 1) 0 C e6 e18 49 C (R1.out.below hA0 R1.out.lt) (by rw [Nat.zero_add]; exact Nat.le_refl _) (by rw [C33.out]; exact infoRfQ) C1.out rfl (fun w' b' g' => by rw [splice_all _ _ rfl] at b'; exact hI.next 2 10 _ rfl (by decide) (.inr ⟨by decide, h2 7 (by decide) (by decide +kernel)⟩) hri (by decide) ⟨(W1.out.on hA0).grown g' (W1.out.on hA0).size (fun g hg => by have := Option.some.inj hg; omega), b'⟩)
    · intro a w5 r hF hI hns hri h1 h2 hd
      have e19 : a.eval (.tmp 19) = .int .i64 1 := hd 9 (by decide +kernel)
      exact doesZ_read (v := .int .i64 1) (by decide) rfl (ex_assign rfl e19) hI rfl
  · intro vs r w5 hI hS hvs
    have hA : (PdN w w1 C) 3 r w5 := hI.at_ 3 (.inr ⟨by decide, hS 10 (by decide)⟩) (.inl rfl)
    have e7 : vs 11 = .int .i64 1 := hvs 11 (by decide)
    have W5 := Lib.hid hA.1
    have U := Lib.hid hA.2
    simp only [putOps, Act.put, List.setIfInBounds_toArray, List.set_cons_zero, List.set_cons_succ, e7]
    clear hI hS hvs hA e7 HPU
    generalize vs 0 = z0
    generalize vs 1 = z1
    generalize vs 2 = z2
    generalize vs 3 = z3
    generalize vs 4 = z4
    generalize vs 5 = z5
    generalize vs 6 = z6
    generalize vs 7 = z7
    generalize vs 8 = z8
    generalize vs 9 = z9
    go_wp2_with fail
    refine bodyPost_ret (results_mid2 rfl _ _ (w.heap.size + 1 + 1 + 1) C _ rfl U.out.range Tryz.underlying49 rfl (by rw [C33.out]; exact infoRfQ)) rfl ?_
    exact ⟨rfl, W5.out⟩
end Go.Proofs.YthmkpekeghcifaaGreatDoor
end

section
/- A device upon which few clusters were laid is small enough. Own work. -/
namespace Go.Proofs.YthmkpekeghcifaaGreatDoor
open RT XM AM DM
namespace SP
/-- Behind n calls. -/
structure Few (S : DS) (n : Nat) : Prop where
  ok : DM.Ok S
  steps : S.steps ≤ n
  loose : S.loose.length ≤ 4 * n
  after : S.after ≤ 9223372036854775807
theorem Few.tame {S : DS} {n : Nat} (h : Few S n) (hn : n ≤ 1000) : Tame S := ⟨h.ok, by have := h.steps; omega, by have := h.loose; omega, h.after⟩
theorem Few.more {S : DS} {n m : Nat} (h : Few S n) (hn : n ≤ m) : Few S m := ⟨h.ok, by have := h.steps; omega, by have := h.loose; omega, h.after⟩
theorem Few.beg : Few SP.beg 0 := ⟨SP.beg_ok, by rw [SP.beg_eq]; exact Nat.zero_le _, by rw [SP.beg_eq]; exact Nat.zero_le _, by rw [SP.beg_eq]; show 0 ≤ _; omega⟩
theorem step_after (d x : DS) (n : Nat) (h1 : d.after ≤ n) (h2 : x.after ≤ n) : (DM.step d x).1.after ≤ n := by
  unfold DM.step
  split
  · exact h2
  · split
    · show x.after - 1 ≤ n; omega
    · show (if d.done then x else d).after ≤ n
      split
      · exact h2
      · exact h1
theorem Few.write {S : DS} {n : Nat} (h : Few S n) (a : Int) {b : List Nat} (hb : ∀ k, gb b k < 256) (hl : b.length ≤ 1024) : Few (DM.write S a b).1 (n + 1) := by
  refine ⟨h.ok.write a b hb, ?_, ?_, ?_⟩
  · have := DM.write_steps S a b; have := h.steps; omega
  · have := DM.write_loose S a b; have := h.loose; omega
  · unfold DM.write
    split
    · exact h.after
    · split
      · exact h.after
      · split
        · exact h.after
        · exact step_after _ _ _ h.after h.after
theorem Few.lay {S : DS} {m : Nat} (h : Few S m) (p : Sp) (n : Nat) {b : List Nat} (hb : ∀ k, gb b k < 256) (hl : b.length ≤ 1024) : Few (SP.lay p S n b).1 (m + 1) := h.write _ hb hl
theorem Few.put {S : DS} {m : Nat} (h : Few S m) (p : Sp) (n : Nat) {b : List Nat} (hb : ∀ k, gb b k < 256) (hl : b.length ≤ 1024) (sum : List Nat) : Few (SP.put p S n b sum).1 (m + 1) := by
  unfold SP.put
  split
  · exact h.more (Nat.le_succ _)
  · split
    · exact h.lay p n hb hl
    · exact h.lay p n hb hl
theorem sealed_byte {p : Sp} (hp : Ok p) (n : Nat) (b : List Nat) : ∀ k, gb (sealed p n b) k < 256 := by
  unfold sealed xseal
  exact sealTo_byte (keys_bytes hp.one) (keys_bytes hp.two) _ _ _
theorem sealed_len3 {s : Sp} (hs : Ok s) (n : Nat) {b : List Nat} (hb : b.length = size s) : (sealed s n b).length = size s := by
  unfold sealed xseal
  rw [sealTo_len (keys_bytes hs.one) (keys_bytes hs.two), hb]
  unfold size
  omega
theorem size_le {p : Sp} (hp : Ok p) : size p ≤ 1024 := by unfold size; have := hp.per; omega
theorem padTo_byte' {l : List Nat} (n : Nat) (h : ∀ k, gb l k < 256) (k : Nat) : gb (padTo l n) k < 256 := gb_app l _ h (bytes_zero _).2 k
theorem ones_byte3 : ∀ (ps : List Pg), (∀ p ∈ ps, Pok p) → ∀ k, gb (ones ps) k < 256 := by
  intro ps
  induction ps with
  | nil => intro _ k; show gb [] k < 256; rw [gb_nil]; omega
  | cons a r ih =>
    intro h k
    show gb (one a ++ ones r) k < 256
    exact gb_app _ _ (fun j => gb_app _ _ (be_byte _ _) (h a (by simp)).2.2 j) (ih (fun p hp => h p (by simp [hp]))) k
end SP
end Go.Proofs.YthmkpekeghcifaaGreatDoor
end

section
/- What a space's awake case comes to, on numbers. Work ahead for stage 16. Own work. -/
namespace Go.Proofs.YthmkpekeghcifaaGreatDoor
open RT XM AM SM
namespace SP
/-- The key of the awake case, and its space. -/
def aK : List Nat := 1 :: List.replicate 31 0
theorem aK_ok : Bytes 32 aK := ⟨by decide, fun k => by
  unfold gb aK
  rw [List.getD_eq_getElem?_getD]
  cases k with
  | zero => decide
  | succ k =>
    rw [List.getElem?_cons_succ, List.getElem?_replicate]
    split <;> decide⟩
def aS : Sp := fresh 8 1 aK
theorem aS_ok : Ok aS := fresh_ok (by decide) (by decide) aK
def aB : List Nat := List.replicate 512 0
theorem aB_len : aB.length = size aS := by unfold aB size aS fresh; rw [List.length_replicate]; rfl
theorem aB_byte (k : Nat) : gb aB k < 256 := (bytes_zero 512).2 k
def aC : List Nat := sealed aS 0 aB
theorem aC_len : aC.length = size aS := by
  unfold aC sealed xseal
  rw [sealTo_len (keys_bytes aS_ok.one) (keys_bytes aS_ok.two), aB_len]
  unfold size aS fresh
  omega
set_option maxRecDepth 100000 in
/-- No cluster of noughts has a sum of noughts. -/
theorem aS_apart : leaf aS 2 aB ≠ List.replicate 32 0 := by decide +kernel
theorem aS_put : putData aS beg 0 aB = ((lay aS beg 0 aC).1, ⟨1, leaf aS 1 aC⟩, 0) := by
  unfold putData
  rw [if_neg (by rw [aB_len]; omega)]
  exact put_room (beg_room rfl (by decide)) aC_len _
theorem aS_back : data aS (lay aS beg 0 aC).1 ⟨1, leaf aS 1 aC⟩ = (aB, 0) :=
  data_back aS_ok aB_byte aB_len (raw_lay aS_ok (beg_room rfl (by decide)) aC_len _)
theorem aS_none : data aS (lay aS beg 0 aC).1 ⟨2, List.replicate 32 0⟩ = ([], 40) := by
  have e : raw aS (lay aS beg 0 aC).1 ⟨2, List.replicate 32 0⟩ = (aB, 0) := by
    rw [raw_other (n := 0) (m := 1) (beg_room rfl (by decide)) (beg_room rfl (by decide)) (by decide) aC_len, raw_room (n := 1) (beg_room rfl (by decide)), beg_seen]
    unfold DM.part aB size aS fresh
    rw [List.drop_replicate, List.take_replicate]
    rfl
  unfold data
  rw [e, if_neg (by simp)]
  show (if leaf aS 2 aB ≠ List.replicate 32 0 then (([], 40) : List Nat × Int) else _) = _
  rw [if_pos aS_apart]
end SP
end Go.Proofs.YthmkpekeghcifaaGreatDoor
end

/- What the laws over sectors share: a known sector. Own work. -/
import Derived.Test.YtmidbmihadhgdaaDoorXtsProg
import Derived.Test.YtmidbmihadhgdaaDoorMakeG
import Derived.BigRegion
import Derived.Deep.DeepCutAuto
namespace Go.Proofs.YtmidbmihadhgdaaDoor
open Go.ChangeShapes Go.WideShapes Go.ChangeAt Go.RowKit
open AM FM XM
set_option maxRecDepth 100000 in
set_option maxHeartbeats 4000000 in
theorem xawake_any (w : World) (hx : TabX w) (hu : TabU w) : Calls Tryd.prog 9 #[] w fun e w' => e = .returned (.bool true) ∧ Below w.heap.size w w' := by
  have hK : Bytes 32 (List.replicate 32 0) := bytes_zero 32
  have HNW := Lib.hid (show Calls Tryd.prog 10 #[.agg #[.int .u8 0, .int .u8 0, .int .u8 0, .int .u8 0, .int .u8 0, .int .u8 0, .int .u8 0, .int .u8 0, .int .u8 0, .int .u8 0, .int .u8 0, .int .u8 0, .int .u8 0, .int .u8 0, .int .u8 0, .int .u8 0, .int .u8 0, .int .u8 0, .int .u8 0, .int .u8 0, .int .u8 0, .int .u8 0, .int .u8 0, .int .u8 0, .int .u8 0, .int .u8 0, .int .u8 0, .int .u8 0, .int .u8 0, .int .u8 0, .int .u8 0, .int .u8 0], .agg #[.int .u8 0, .int .u8 0, .int .u8 0, .int .u8 0, .int .u8 0, .int .u8 0, .int .u8 0, .int .u8 0, .int .u8 0, .int .u8 0, .int .u8 0, .int .u8 0, .int .u8 0, .int .u8 0, .int .u8 0, .int .u8 0, .int .u8 0, .int .u8 0, .int .u8 0, .int .u8 0, .int .u8 0, .int .u8 0, .int .u8 0, .int .u8 0, .int .u8 0, .int .u8 0, .int .u8 0, .int .u8 0, .int .u8 0, .int .u8 0, .int .u8 0, .int .u8 0]] w fun e w' => ∃ x, w.heap.size ≤ x ∧ e = .returned (.pointer (some ⟨x, 0, none⟩)) ∧ Xt w' x (List.replicate 32 0) (List.replicate 32 0) ∧ Below w.heap.size w w' from xt_new (List.replicate 32 0) (List.replicate 32 0) hK hK w hx)
  obtain ⟨XS, hXS⟩ : ∃ X, X = xseal (keys (List.replicate 32 0)) (keys (List.replicate 32 0)) 0 (List.replicate 512 0) := ⟨_, rfl⟩
  have hne : XS ≠ List.replicate 512 0 := by rw [hXS]; exact noughts_apart
  have hb : ∀ k, gb XS k < 256 := by rw [hXS]; exact sealTo_byte (keys_bytes hK) (keys_bytes hK) 0 _ _
  have hl : XS.length = 512 := by
    rw [hXS]; unfold xseal
    rw [sealTo_len (keys_bytes hK) (keys_bytes hK), List.length_replicate]
  have hop : xopen (keys (List.replicate 32 0)) (keys (List.replicate 32 0)) 0 XS = List.replicate 512 0 := by
    rw [hXS]; exact xopen_xseal (keys_bytes hK) (keys_bytes hK) 0 (bytes_zero 512).2 (by rw [List.length_replicate])
  have HNE := Lib.hid (show ¬ bstr XS = bstr (List.replicate 512 0) from fun h => hne ((bstr_iff hb (bytes_zero 512).2).1 h))
  have HXS := Lib.hid hXS
  have HL := Lib.hid hl
  have HOP := Lib.hid hop
  have HX := Lib.hid hx
  have HU := Lib.hid hu
  have xe : xerr 512 = 0 := by decide
  have XE := Lib.hid xe
  have HMK := Lib.hid (fun (W : World) (hW : w.heap.size ≤ W.heap.size) => run_make_bytes W w.heap.size hW 512 (by omega))
  clear hx hu hXS hne hb hl hop hK xe
  obtain ⟨i0, hi, hz0, hz1, hz2⟩ := info_parts infoB
  have HI := Lib.hid hi
  have HZ0 := Lib.hid hz0
  have HZ1 := Lib.hid hz1
  have HB2 := Lib.hid (show i0.bytes * 512 ≤ 281474976710656 by rw [hz2]; omega)
  have HB3 := Lib.hid (show 512 ≤ maxLen by unfold maxLen; omega)
  clear hi hz0 hz1 hz2
  go_enter Tryd.func9, Tryd.ntmps9
  go_upto_region 4 with (first
    | (go_at_call 10; (with_reducible refine HNW.out.mono ?_); rintro e w1 ⟨x, hxw, rfl, x1, b1⟩; have X1 := Lib.hid x1; have B1 := Lib.hid b1; clear hxw x1 b1)
    | (refine wpList_make_full _ rfl (.const (.int .i64 512)) (.const (.int .i64 512)) 26 rfl w1.heap.size 5 i0 (.int .u8 0) 1 Tryd.underlying26 HI.out HZ0.out HZ1.out .i64 .i64 _ _ 512 rfl rfl rfl rfl HB2.out HB3.out (Nat.le_refl _) ?_; intro w2 hown hg; have r2 : Rd w2 (.slice (some ⟨w1.heap.size, 0, none⟩) 512 512) (List.replicate 512 0) := (show Own w2 w1.heap.size (.slice (some ⟨w1.heap.size, 0, none⟩) 512 512) (List.replicate 512 0) from ⟨by rw [List.length_replicate, noughts8, ← toList_madeCells_one]; rw [Nat.mul_one] at hown; exact hown, (bytes_zero 512).2, by rw [List.length_replicate]; omega⟩).rd; have G2 := Lib.hid (below_of_grown hg); have B2 := Lib.hid (B1.out.on G2.out); have X2 := Lib.hid (X1.out.below G2.out); have s2 := xt_seal x (List.replicate 32 0) (List.replicate 32 0) 0 (by decide) _ _ w2 r2 X2.out (HX.out.below B2.out); rw [List.length_replicate, XE.out, if_pos rfl, ← HXS.out] at s2; have S2 := Lib.hid (show Calls Tryd.prog 11 #[.pointer (some ⟨x, 0, none⟩), .int .u64 0, .slice (some ⟨w1.heap.size, 0, none⟩) 512 512] w2 fun e w' => ∃ y, e = .returned (.tuple #[y, .int .i64 0]) ∧ Rd w' y XS ∧ Below w2.heap.size w2 w' from s2); clear s2 r2 hown hg)
    | (go_at_call 11; (with_reducible refine S2.out.mono ?_); rintro e w3 ⟨y, rfl, r3, b3⟩; obtain ⟨ay, cy, rfl, _⟩ := r3.shape; have B3 := Lib.hid (B2.out.on b3); have X3 := Lib.hid (X2.out.below b3); have s3 := xt_open x (List.replicate 32 0) (List.replicate 32 0) 0 (by decide) _ _ w3 r3 X3.out (HX.out.below B3.out) (HU.out.below B3.out); rw [HL.out, XE.out, if_pos rfl, HOP.out] at s3; rw [HL.out] at r3 ⊢; have R3 := Lib.hid r3; have S3 := Lib.hid (show Calls Tryd.prog 14 #[.pointer (some ⟨x, 0, none⟩), .int .u64 0, .slice ay 512 cy] w3 fun e w' => ∃ y, e = .returned (.tuple #[y, .int .i64 0]) ∧ Rd w' y (List.replicate 512 0) ∧ Below w3.heap.size w3 w' from s3); clear s3 r3 b3)
    | (go_at_call 14; (with_reducible refine S3.out.mono ?_); rintro e w4 ⟨z, rfl, r4, b4⟩; obtain ⟨az, cz, rfl, _⟩ := r4.shape; rw [List.length_replicate] at r4 ⊢; have RZ := Lib.hid r4; have RY := Lib.hid (R3.out.below b4); have B4 := Lib.hid (B3.out.on b4); clear r4 b4))
  refine wp_region_g (by kernel_rfl) 34 (by decide) (by kernel_rfl) (by kernel_rfl) (by kernel_rfl) (w4.heap.size) (Nat.le_refl _) [.val (.pointer (some ⟨x, 0, none⟩)), .val (.bool true), .val (.bool true), .val (.slice ay 512 cy), .val (.int .i64 512), .val (.bool true), .val (.bool true), .val (.bool true), .val (.slice ay 512 cy), .val (.string (bstr XS)), .val (.slice az 512 cz), .val (.string (bstr (List.replicate 512 0))), .val (.bool true), .val (.bool true), .val (.bool true), .val (.slice az 512 cz), .val (.string (bstr (List.replicate 512 0))), .own (List.replicate 512 0), .val (.string (bstr (List.replicate 512 0))), .val (.bool true), .val (.bool true), .val (.bool true), .val (.int .i64 0), .val (.bool true), .val (.bool true), .val (.bool true), .val (.int .i64 0), .val (.bool true), .val (.bool true), .val (.bool true), .val (.bool true), .val (.bool true), .val (.bool true), .val (.bool true)] (fun _ => 34) ?_ ?_
  · refine ⟨?_, ?_, ?_, ?_, ?_, ?_, ?_, ?_, ?_, ?_, ?_, ?_, ?_, ?_, ?_, ?_, ?_, ?_, ?_, ?_, ?_, ?_, ?_, ?_, ?_, ?_, ?_, ?_, ?_, ?_, ?_, ?_, ?_, ?_, trivial⟩
    · intro a w' hF hB hd
      have e1 : a.eval (.tmp 1) = .pointer (some ⟨x, 0, none⟩) := hF 1 (by decide +kernel)
      exact doesG_val rfl (ex_move rfl e1) rfl rfl
    · intro a w' hF hB hd
      have e21 : a.eval (.tmp 21) = .pointer (some ⟨x, 0, none⟩) := hd 0 (by decide +kernel) (.inr (by decide))
      exact doesG_val rfl (ex_binOp rfl e21 rfl (by go_simp) (by go_simp)) rfl rfl
    · intro a w' hF hB hd
      have e22 : a.eval (.tmp 22) = .bool true := hd 1 (by decide +kernel) (.inr (by decide))
      exact doesG_val rfl (ex_move rfl e22) rfl rfl
    · intro a w' hF hB hd
      have e23 : a.eval (.tmp 23) = .bool true := hd 2 (by decide +kernel) (.inr (by decide))
      have e2 : a.eval (.tmp 2) = .slice ay 512 cy := hF 2 (by decide +kernel)
      exact doesG_val (wanted_of rfl (yielded_of rfl e23)) (ex_move rfl e2) rfl rfl
    · intro a w' hF hB hd
      have e23 : a.eval (.tmp 23) = .bool true := hd 2 (by decide +kernel) (.inr (by decide))
      have e24 : a.eval (.tmp 24) = .slice ay 512 cy := hd 3 (by decide +kernel) (.inr (by decide))
      have f24 : a.tmps[24]?.getD undef = .slice ay 512 cy := by rw [← Array.getD_eq_getD_getElem?]; exact e24
      exact doesG_val (wanted_of rfl (yielded_of rfl e23)) (v := .int .i64 512) (by unfold execOp; go_simp) rfl rfl
    · intro a w' hF hB hd
      have e23 : a.eval (.tmp 23) = .bool true := hd 2 (by decide +kernel) (.inr (by decide))
      have e25 : a.eval (.tmp 25) = .int .i64 512 := hd 4 (by decide +kernel) (.inr (by decide))
      exact doesG_val (wanted_of rfl (yielded_of rfl e23)) (ex_binOp rfl e25 rfl (by go_simp) (by go_simp)) rfl rfl
    · intro a w' hF hB hd
      have e23 : a.eval (.tmp 23) = .bool true := hd 2 (by decide +kernel) (.inr (by decide))
      have e26 : a.eval (.tmp 26) = .bool true := hd 5 (by decide +kernel) (.inr (by decide))
      exact doesG_val rfl (ex_pick rfl e23 (by simp [e26])) rfl rfl
    · intro a w' hF hB hd
      have e27 : a.eval (.tmp 27) = .bool true := hd 6 (by decide +kernel) (.inr (by decide))
      exact doesG_val rfl (ex_move rfl e27) rfl rfl
    · intro a w' hF hB hd
      have e28 : a.eval (.tmp 28) = .bool true := hd 7 (by decide +kernel) (.inr (by decide))
      have e2 : a.eval (.tmp 2) = .slice ay 512 cy := hF 2 (by decide +kernel)
      exact doesG_val (wanted_of rfl (yielded_of rfl e28)) (ex_move rfl e2) rfl rfl
    · intro a w' hF hB hd
      have e28 : a.eval (.tmp 28) = .bool true := hd 7 (by decide +kernel) (.inr (by decide))
      have e29 : a.eval (.tmp 29) = .slice ay 512 cy := hd 8 (by decide +kernel) (.inr (by decide))
      exact doesG_val (wanted_of rfl (yielded_of rfl e28)) (ex_convert rfl e29 ((RY.out.below hB).str)) rfl rfl
    · intro a w' hF hB hd
      have e28 : a.eval (.tmp 28) = .bool true := hd 7 (by decide +kernel) (.inr (by decide))
      have e4 : a.eval (.tmp 4) = .slice az 512 cz := hF 4 (by decide +kernel)
      exact doesG_val (wanted_of rfl (yielded_of rfl e28)) (ex_move rfl e4) rfl rfl
    · intro a w' hF hB hd
      have e28 : a.eval (.tmp 28) = .bool true := hd 7 (by decide +kernel) (.inr (by decide))
      have e31 : a.eval (.tmp 31) = .slice az 512 cz := hd 10 (by decide +kernel) (.inr (by decide))
      exact doesG_val (wanted_of rfl (yielded_of rfl e28)) (ex_convert rfl e31 ((RZ.out.below hB).str)) rfl rfl
    · intro a w' hF hB hd
      have e28 : a.eval (.tmp 28) = .bool true := hd 7 (by decide +kernel) (.inr (by decide))
      have e30 : a.eval (.tmp 30) = .string (bstr XS) := hd 9 (by decide +kernel) (.inr (by decide))
      have e32 : a.eval (.tmp 32) = .string (bstr (List.replicate 512 0)) := hd 11 (by decide +kernel) (.inr (by decide))
      exact doesG_val (wanted_of rfl (yielded_of rfl e28)) (ex_binOp rfl e30 e32 (by go_simp) (by rw [run_neq_str, decide_eq_false HNE.out]; rfl)) rfl rfl
    · intro a w' hF hB hd
      have e28 : a.eval (.tmp 28) = .bool true := hd 7 (by decide +kernel) (.inr (by decide))
      have e33 : a.eval (.tmp 33) = .bool true := hd 12 (by decide +kernel) (.inr (by decide))
      exact doesG_val rfl (ex_pick rfl e28 (by simp [e33])) rfl rfl
    · intro a w' hF hB hd
      have e34 : a.eval (.tmp 34) = .bool true := hd 13 (by decide +kernel) (.inr (by decide))
      exact doesG_val rfl (ex_move rfl e34) rfl rfl
    · intro a w' hF hB hd
      have e35 : a.eval (.tmp 35) = .bool true := hd 14 (by decide +kernel) (.inr (by decide))
      have e4 : a.eval (.tmp 4) = .slice az 512 cz := hF 4 (by decide +kernel)
      exact doesG_val (wanted_of rfl (yielded_of rfl e35)) (ex_move rfl e4) rfl rfl
    · intro a w' hF hB hd
      have e35 : a.eval (.tmp 35) = .bool true := hd 14 (by decide +kernel) (.inr (by decide))
      have e36 : a.eval (.tmp 36) = .slice az 512 cz := hd 15 (by decide +kernel) (.inr (by decide))
      exact doesG_val (wanted_of rfl (yielded_of rfl e35)) (ex_convert rfl e36 ((RZ.out.below hB).str)) rfl rfl
    · intro a w' hF hB hd
      have e35 : a.eval (.tmp 35) = .bool true := hd 14 (by decide +kernel) (.inr (by decide))
      exact doesG_make (wanted_of rfl (yielded_of rfl e35)) 512 (by omega) rfl hB.size (fun _ _ h => h)
    · intro a w' hF hB hd
      have e35 : a.eval (.tmp 35) = .bool true := hd 14 (by decide +kernel) (.inr (by decide))
      have e38 : Own w' w4.heap.size (a.eval (.tmp 38)) (List.replicate 512 0) := hd 17 (by decide +kernel) (.inr (by decide))
      exact doesG_val (wanted_of rfl (yielded_of rfl e35)) (ex_convert rfl rfl e38.rd.str) rfl rfl
    · intro a w' hF hB hd
      have e35 : a.eval (.tmp 35) = .bool true := hd 14 (by decide +kernel) (.inr (by decide))
      have e37 : a.eval (.tmp 37) = .string (bstr (List.replicate 512 0)) := hd 16 (by decide +kernel) (.inr (by decide))
      have e39 : a.eval (.tmp 39) = .string (bstr (List.replicate 512 0)) := hd 18 (by decide +kernel) (.inr (by decide))
      exact doesG_val (wanted_of rfl (yielded_of rfl e35)) (ex_binOp rfl e37 e39 (by go_simp) (by rw [run_eql_str, decide_eq_true rfl])) rfl rfl
    · intro a w' hF hB hd
      have e35 : a.eval (.tmp 35) = .bool true := hd 14 (by decide +kernel) (.inr (by decide))
      have e40 : a.eval (.tmp 40) = .bool true := hd 19 (by decide +kernel) (.inr (by decide))
      exact doesG_val rfl (ex_pick rfl e35 (by simp [e40])) rfl rfl
    · intro a w' hF hB hd
      have e41 : a.eval (.tmp 41) = .bool true := hd 20 (by decide +kernel) (.inr (by decide))
      exact doesG_val rfl (ex_move rfl e41) rfl rfl
    · intro a w' hF hB hd
      have e42 : a.eval (.tmp 42) = .bool true := hd 21 (by decide +kernel) (.inr (by decide))
      have e3 : a.eval (.tmp 3) = .int .i64 0 := hF 3 (by decide +kernel)
      exact doesG_val (wanted_of rfl (yielded_of rfl e42)) (ex_move rfl e3) rfl rfl
    · intro a w' hF hB hd
      have e42 : a.eval (.tmp 42) = .bool true := hd 21 (by decide +kernel) (.inr (by decide))
      have e43 : a.eval (.tmp 43) = .int .i64 0 := hd 22 (by decide +kernel) (.inr (by decide))
      exact doesG_val (wanted_of rfl (yielded_of rfl e42)) (ex_binOp rfl e43 rfl (by go_simp) (by go_simp)) rfl rfl
    · intro a w' hF hB hd
      have e42 : a.eval (.tmp 42) = .bool true := hd 21 (by decide +kernel) (.inr (by decide))
      have e44 : a.eval (.tmp 44) = .bool true := hd 23 (by decide +kernel) (.inr (by decide))
      exact doesG_val rfl (ex_pick rfl e42 (by simp [e44])) rfl rfl
    · intro a w' hF hB hd
      have e45 : a.eval (.tmp 45) = .bool true := hd 24 (by decide +kernel) (.inr (by decide))
      exact doesG_val rfl (ex_move rfl e45) rfl rfl
    · intro a w' hF hB hd
      have e46 : a.eval (.tmp 46) = .bool true := hd 25 (by decide +kernel) (.inr (by decide))
      have e5 : a.eval (.tmp 5) = .int .i64 0 := hF 5 (by decide +kernel)
      exact doesG_val (wanted_of rfl (yielded_of rfl e46)) (ex_move rfl e5) rfl rfl
    · intro a w' hF hB hd
      have e46 : a.eval (.tmp 46) = .bool true := hd 25 (by decide +kernel) (.inr (by decide))
      have e47 : a.eval (.tmp 47) = .int .i64 0 := hd 26 (by decide +kernel) (.inr (by decide))
      exact doesG_val (wanted_of rfl (yielded_of rfl e46)) (ex_binOp rfl e47 rfl (by go_simp) (by go_simp)) rfl rfl
    · intro a w' hF hB hd
      have e46 : a.eval (.tmp 46) = .bool true := hd 25 (by decide +kernel) (.inr (by decide))
      have e48 : a.eval (.tmp 48) = .bool true := hd 27 (by decide +kernel) (.inr (by decide))
      exact doesG_val rfl (ex_pick rfl e46 (by simp [e48])) rfl rfl
    · intro a w' hF hB hd
      have e49 : a.eval (.tmp 49) = .bool true := hd 28 (by decide +kernel) (.inr (by decide))
      exact doesG_val rfl (ex_move rfl e49) rfl rfl
    · intro a w' hF hB hd
      have e50 : a.eval (.tmp 50) = .bool true := hd 29 (by decide +kernel) (.inr (by decide))
      exact doesG_val rfl (ex_pick rfl e50 (rfl)) rfl rfl
    · intro a w' hF hB hd
      have e51 : a.eval (.tmp 51) = .bool true := hd 30 (by decide +kernel) (.inr (by decide))
      exact doesG_val rfl (ex_move rfl e51) rfl rfl
    · intro a w' hF hB hd
      have e52 : a.eval (.tmp 52) = .bool true := hd 31 (by decide +kernel) (.inr (by decide))
      exact doesG_val rfl (ex_pick rfl e52 (rfl)) rfl rfl
    · intro a w' hF hB hd
      have e53 : a.eval (.tmp 53) = .bool true := hd 32 (by decide +kernel) (.inr (by decide))
      exact doesG_val rfl (ex_assign rfl e53) rfl rfl
  · intro vs w5 hb hv hap
    have e2 : vs 33 = .bool true := hv 33 (by decide) (by decide)
    simp only [List.take_succ_cons, List.take_zero, List.drop_succ_cons, List.drop_zero, putOps, Act.put, List.setIfInBounds_toArray, List.set_cons_zero, List.set_cons_succ, e2]
    have HB := Lib.hid (B4.out.on hb)
    clear hv hap e2 hb
    go_wp2_with fail
    go_ret
    exact ⟨rfl, HB.out⟩
end Go.Proofs.YtmidbmihadhgdaaDoor

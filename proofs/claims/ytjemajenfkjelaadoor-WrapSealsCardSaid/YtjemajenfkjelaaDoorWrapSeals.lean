/- WrapSeals: any key is sealed by any other one as the document says; and the law's closed case holds. No condition but that the listed tables (the program's two, the document's two) hold their constants when the call begins. -/
import Derived.Test.YtjemajenfkjelaaDoorRows
import Derived.Test.YtjemajenfkjelaaDoorWrapLaws
import Derived.Test.YtjemajenfkjelaaDoorWrapR
import Derived.Test.YtjemajenfkjelaaDoorDoorWrap
import Derived.Test.YtjemajenfkjelaaDoorTie
import Derived.Test.YtjemajenfkjelaaDoorCards
import Derived.SevenTiedAt
import Derived.Test.YtjemajenfkjelaaDoorMem
import Derived.WalkKit
import Derived.ProofKit
import Derived.OpenShut
import Derived.SizedLaws
import Derived.Carry
import Derived.Deep.DeepHandedRow
import Derived.Deep.DeepWitnessRowRef
namespace Go.Proofs.YtjemajenfkjelaaDoor.wrapSeals
open Go.ChangeShapes Go.WideShapes Go.ChangeAt Go.RowKit
open SM AM WM
theorem own : ownKnob Tryd.prog.godebug = none := by kernel_rfl
theorem cells23 : Tryd.prog.cellsOf 23 = 32 := by kernel_rfl
theorem cells5 : Tryd.prog.cellsOf 5 = 1 := by kernel_rfl
set_option linter.unusedVariables false in
set_option maxHeartbeats 4000000 in
set_option maxRecDepth 100000 in
theorem walk (w : World) (ht : TabX w ∧ Tab w ∧ TabA w ∧ TabP w) (l0 : List Nat) (h0 : Bytes 32 l0) (l1 : List Nat) (h1 : Bytes 32 l1) :
    Calls Tryd.prog 3 #[.agg (row8 l0).toArray, .agg (row8 l1).toArray] w fun e w' => e = .returned (.bool true) ∧ Below w.heap.size w w' := by
  obtain ⟨TX, TK, TA, TP⟩ := ht
  obtain ⟨Z, hZ⟩ : ∃ Z, Z = wseal l0 l1 := ⟨_, rfl⟩
  have bZ : Bytes 32 Z := by rw [hZ]; exact wseal_bytes l0 h1
  obtain ⟨V, hV⟩ : ∃ V, V = wcheck l0 Z := ⟨_, rfl⟩
  have bV : Bytes 32 V := by rw [hV]; exact wcheck_bytes l0 Z
  obtain ⟨U, hU⟩ : ∃ U, U = wcheck l0 l1 := ⟨_, rfl⟩
  have bU : Bytes 32 U := by rw [hU]; exact wcheck_bytes l0 l1
  have hzz := fun w => run_eql_keyW bZ bZ w
  have hvv := fun w => run_eql_sum bV bV w
  have huu := fun w => run_eql_sum bU bU w
  simp only [decide_true] at hzz hvv huu
  obtain ⟨D0, hD0⟩ : ∃ D0, D0 = row8 (List.replicate 32 0) := ⟨_, rfl⟩
  have hz : ∀ w, (zeroValue 23).run Tryd.prog w = .ok (.agg D0.toArray) w := by rw [hD0]; exact zeroKeyW
  have hz2 : ∀ w, (zeroValue 24).run Tryd.prog w = .ok (.agg D0.toArray) w := by rw [hD0]; exact zeroSumW
  have hd0 : D0.length = 32 := by rw [hD0, row8_len, List.length_replicate]
  have Z32 := Lib.hid (show (row8 Z).length = 32 by rw [row8_len]; exact bZ.1)
  have V32 := Lib.hid (show (row8 V).length = 32 by rw [row8_len]; exact bV.1)
  have U32 := Lib.hid (show (row8 U).length = 32 by rw [row8_len]; exact bU.1)
  have l032 := Lib.hid (show (row8 l0).length = 32 by rw [row8_len]; exact h0.1)
  have l132 := Lib.hid (show (row8 l1).length = 32 by rw [row8_len]; exact h1.1)
  have HS := Lib.hid (fun W (hW : Below w.heap.size w W) => pseal_any l0 l1 h0 h1 W (TX.below hW) (TP.below hW))
  have HR := Lib.hid (fun W (hW : Below w.heap.size w W) => rwseal_any l0 l1 h0 h1 W (TA.below hW) (TK.below hW))
  rw [← hZ, ← hV] at HS HR
  have HC := Lib.hid (fun W (hW : Below w.heap.size w W) => pcheck_any l0 l1 h0 h1 W (TP.below hW))
  have HD := Lib.hid (fun W (hW : Below w.heap.size w W) => rwcheck_any l0 l1 h0 h1 W (TK.below hW))
  rw [← hU] at HC HD
  have HAW := Lib.hid (fun W (hW : Below w.heap.size w W) => wawake_any W (TX.below hW) (TP.below hW))
  have v1 := (Below.refl w.heap.size w).alloc (Nat.le_refl _) (.cells (row8 l0).toArray 23)
  have v2 := v1.alloc v1.size (.cells (row8 l1).toArray 23)
  obtain ⟨w0, hw0⟩ : ∃ W, W = ((w.alloc (.cells (row8 l0).toArray 23)).alloc (.cells (row8 l1).toArray 23)) := ⟨_, rfl⟩
  have x0 := (Blk.new w 23 (row8 l0) (w.heap.size) rfl).alloc (.cells (row8 l1).toArray 23)
  have x1 := Blk.new (w.alloc (.cells (row8 l0).toArray 23)) 23 (row8 l1) (w.heap.size + 1) (by simp)
  rw [← hw0] at v2 x0 x1
  have X00 := Lib.hid x0
  have X10 := Lib.hid x1
  have W0 := Lib.hid v2
  have HW0 := Lib.hid hw0
  clear hw0 v1 v2 x0 x1
  have HS0 := Lib.hid (HS.out w0 W0.out)
  clear hZ bZ hV bV hU bU hD0 TX TK TA TP
  go_enter Tryd.func3, Tryd.ntmps3
  go_upto_region 1 with (fail)
  rw [← HW0.out]
  go_upto_region 3 with (first
    | (refine wpList_load_mid rfl 23 (.tmp 2) rfl w.heap.size 0 rfl (row8 l0) _ X00.out.range Tryd.underlying23 rfl (by rw [l032.out]; exact infoKeyL) ?_)
    | (refine wpList_load_mid rfl 23 (.tmp 3) rfl (w.heap.size + 1) 0 rfl (row8 l1) _ X10.out.range Tryd.underlying23 rfl (by rw [l132.out]; exact infoKeyL) ?_)
    | (go_at_call 8; (with_reducible refine HS0.out.mono ?_); rintro e w1 ⟨rfl, b⟩; have W1 := Lib.hid (W0.out.on b); have X01 := Lib.hid (X00.out.below b X00.out.lt); have X11 := Lib.hid (X10.out.below b X10.out.lt);  clear b)
    | (refine wpList_store_blk rfl 23 (.tmp 5) (.tmp 13) rfl w1.heap.size 0 (row8 Z) rfl rfl 23 D0 ((Blk.new w1 23 D0 _ rfl).alloc (.cells D0.toArray 24)) (by rw [Z32.out, hd0]; exact Nat.le_refl _) (by rw [Z32.out]; exact infoKeyL) (row8_one _) ?_; intro w2 b g; rw [splice_all _ _ (by rw [Z32.out, hd0])] at b; have P2 := Lib.hid (two_a g); have Y2 := Lib.hid (two_blk g); have S2 := Lib.hid b; clear b g)
    | (refine wpList_store_blk rfl 24 (.tmp 6) (.tmp 14) rfl (w1.heap.size + 1) 0 (row8 V) rfl rfl 24 D0 Y2.out (by rw [V32.out, hd0]; exact Nat.le_refl _) (by rw [V32.out]; exact infoS) (row8_one _) ?_; intro w3 b g; rw [splice_all _ _ (by rw [V32.out, hd0])] at b; have hbw : Below w1.heap.size w1 w3 := P2.out.grown g P2.out.size (fun k hk => by have e : w1.heap.size + 1 = k := Option.some.inj hk; omega); have S3 := Lib.hid (S2.out.grown g (fun q => by have e : w1.heap.size = w1.heap.size + 1 := Option.some.inj q; omega)); have C3 := Lib.hid b; have W3 := Lib.hid (W1.out.on hbw); have X03 := Lib.hid (X01.out.below hbw X01.out.lt); have X13 := Lib.hid (X11.out.below hbw X11.out.lt); have HR3 := Lib.hid (HR.out w3 W3.out); clear b g hbw)
    | (refine wpList_load_mid rfl 23 (.tmp 2) rfl w.heap.size 0 rfl (row8 l0) _ X03.out.range Tryd.underlying23 rfl (by rw [l032.out]; exact infoKeyL) ?_)
    | (refine wpList_load_mid rfl 23 (.tmp 3) rfl (w.heap.size + 1) 0 rfl (row8 l1) _ X13.out.range Tryd.underlying23 rfl (by rw [l132.out]; exact infoKeyL) ?_)
    | (go_at_call 9; (with_reducible refine HR3.out.mono ?_); rintro e w4 ⟨rfl, b⟩; have W4 := Lib.hid (W3.out.on b); have X04 := Lib.hid (X03.out.below b X03.out.lt); have X14 := Lib.hid (X13.out.below b X13.out.lt); have S4 := Lib.hid (S3.out.below b S3.out.lt); have C4 := Lib.hid (C3.out.below b C3.out.lt);  clear b)
    | (refine wpList_store_blk rfl 23 (.tmp 7) (.tmp 19) rfl w4.heap.size 0 (row8 Z) rfl rfl 23 D0 ((Blk.new w4 23 D0 _ rfl).alloc (.cells D0.toArray 24)) (by rw [Z32.out, hd0]; exact Nat.le_refl _) (by rw [Z32.out]; exact infoKeyL) (row8_one _) ?_; intro w5 b g; rw [splice_all _ _ (by rw [Z32.out, hd0])] at b; have P5 := Lib.hid (two_a g); have Y5 := Lib.hid (two_blk g); have T5 := Lib.hid b; clear b g)
    | (refine wpList_store_blk rfl 24 (.tmp 8) (.tmp 20) rfl (w4.heap.size + 1) 0 (row8 V) rfl rfl 24 D0 Y5.out (by rw [V32.out, hd0]; exact Nat.le_refl _) (by rw [V32.out]; exact infoS) (row8_one _) ?_; intro w6 b g; rw [splice_all _ _ (by rw [V32.out, hd0])] at b; have hbw : Below w4.heap.size w4 w6 := P5.out.grown g P5.out.size (fun k hk => by have e : w4.heap.size + 1 = k := Option.some.inj hk; omega); have T6 := Lib.hid (T5.out.grown g (fun q => by have e : w4.heap.size = w4.heap.size + 1 := Option.some.inj q; omega)); have D6 := Lib.hid b; have W6 := Lib.hid (W4.out.on hbw); have X06 := Lib.hid (X04.out.below hbw X04.out.lt); have X16 := Lib.hid (X14.out.below hbw X14.out.lt); have S6 := Lib.hid (S4.out.below hbw S4.out.lt); have C6 := Lib.hid (C4.out.below hbw C4.out.lt);  clear b g hbw))
  clear X00 X10 W0 X03 X13 W3 HS0 HR3 HS HR W1 W4 P2 Y2 S2 P5 Y5 T5 S3 C3
  refine wp_region_g (by kernel_rfl) 21 (by decide) (by kernel_rfl) (by kernel_rfl) (by kernel_rfl) (w6.heap.size) (Nat.le_refl _) [.val (.agg (row8 Z).toArray), .val (.agg (row8 Z).toArray), .val (.bool true), .val (.bool true), .val (.agg (row8 V).toArray), .val (.agg (row8 V).toArray), .val (.bool true), .val (.bool true), .val (.bool true), .val (.agg (row8 l0).toArray), .val (.agg (row8 l1).toArray), .val (.agg (row8 U).toArray), .val (.agg (row8 l0).toArray), .val (.agg (row8 l1).toArray), .val (.agg (row8 U).toArray), .val (.bool true), .val (.bool true), .val (.bool true), .val (.bool true), .val (.bool true), .val (.bool true)] (fun _ => 21) ?_ ?_
  · refine ⟨?_, ?_, ?_, ?_, ?_, ?_, ?_, ?_, ?_, ?_, ?_, ?_, ?_, ?_, ?_, ?_, ?_, ?_, ?_, ?_, ?_, trivial⟩
    · intro a w' hF hB hd
      have e5 : a.eval (.tmp 5) = .pointer (some ⟨w1.heap.size, 0, none⟩) := hF 5 (by decide +kernel)
      exact doesG_wp rfl rfl fun K' hK' => wp_load_mid 23 (.tmp 5) rfl w1.heap.size 0 e5 (row8 Z) _ (S6.out.below hB S6.out.lt).range Tryd.underlying23 rfl (by rw [Z32.out]; exact infoKeyL) (hK' _ _ rfl (Below.refl _ _))
    · intro a w' hF hB hd
      have e7 : a.eval (.tmp 7) = .pointer (some ⟨w4.heap.size, 0, none⟩) := hF 7 (by decide +kernel)
      exact doesG_wp rfl rfl fun K' hK' => wp_load_mid 23 (.tmp 7) rfl w4.heap.size 0 e7 (row8 Z) _ (T6.out.below hB T6.out.lt).range Tryd.underlying23 rfl (by rw [Z32.out]; exact infoKeyL) (hK' _ _ rfl (Below.refl _ _))
    · intro a w' hF hB hd
      have e21 : a.eval (.tmp 21) = .agg (row8 Z).toArray := hd 0 (by decide +kernel) (.inr (by decide))
      have e22 : a.eval (.tmp 22) = .agg (row8 Z).toArray := hd 1 (by decide +kernel) (.inr (by decide))
      exact doesG_val rfl (ex_binOp rfl e21 e22 (run_eqGuard_agg (P := Tryd.prog) (w := w') .eql 23 _ _ _ _ eqTypeKW) (hzz w')) rfl rfl
    · intro a w' hF hB hd
      have e23 : a.eval (.tmp 23) = .bool true := hd 2 (by decide +kernel) (.inr (by decide))
      exact doesG_val rfl (ex_move rfl e23) rfl rfl
    · intro a w' hF hB hd
      have e24 : a.eval (.tmp 24) = .bool true := hd 3 (by decide +kernel) (.inr (by decide))
      have e6 : a.eval (.tmp 6) = .pointer (some ⟨w1.heap.size + 1, 0, none⟩) := hF 6 (by decide +kernel)
      exact doesG_wp (wanted_of rfl (yielded_of rfl e24)) rfl fun K' hK' => wp_load_mid 24 (.tmp 6) rfl (w1.heap.size + 1) 0 e6 (row8 V) _ (C6.out.below hB C6.out.lt).range Tryd.underlying24 rfl (by rw [V32.out]; exact infoS) (hK' _ _ rfl (Below.refl _ _))
    · intro a w' hF hB hd
      have e24 : a.eval (.tmp 24) = .bool true := hd 3 (by decide +kernel) (.inr (by decide))
      have e8 : a.eval (.tmp 8) = .pointer (some ⟨w4.heap.size + 1, 0, none⟩) := hF 8 (by decide +kernel)
      exact doesG_wp (wanted_of rfl (yielded_of rfl e24)) rfl fun K' hK' => wp_load_mid 24 (.tmp 8) rfl (w4.heap.size + 1) 0 e8 (row8 V) _ (D6.out.below hB D6.out.lt).range Tryd.underlying24 rfl (by rw [V32.out]; exact infoS) (hK' _ _ rfl (Below.refl _ _))
    · intro a w' hF hB hd
      have e24 : a.eval (.tmp 24) = .bool true := hd 3 (by decide +kernel) (.inr (by decide))
      have e25 : a.eval (.tmp 25) = .agg (row8 V).toArray := hd 4 (by decide +kernel) (.inr (by decide))
      have e26 : a.eval (.tmp 26) = .agg (row8 V).toArray := hd 5 (by decide +kernel) (.inr (by decide))
      exact doesG_val (wanted_of rfl (yielded_of rfl e24)) (ex_binOp rfl e25 e26 (run_eqGuard_agg (P := Tryd.prog) (w := w') .eql 24 _ _ _ _ eqTypeSW) (hvv w')) rfl rfl
    · intro a w' hF hB hd
      have e24 : a.eval (.tmp 24) = .bool true := hd 3 (by decide +kernel) (.inr (by decide))
      have e27 : a.eval (.tmp 27) = .bool true := hd 6 (by decide +kernel) (.inr (by decide))
      exact doesG_val rfl (ex_pick rfl e24 (by simp [e27])) rfl rfl
    · intro a w' hF hB hd
      have e28 : a.eval (.tmp 28) = .bool true := hd 7 (by decide +kernel) (.inr (by decide))
      exact doesG_val rfl (ex_move rfl e28) rfl rfl
    · intro a w' hF hB hd
      have e29 : a.eval (.tmp 29) = .bool true := hd 8 (by decide +kernel) (.inr (by decide))
      have e2 : a.eval (.tmp 2) = .pointer (some ⟨w.heap.size, 0, none⟩) := hF 2 (by decide +kernel)
      exact doesG_wp (wanted_of rfl (yielded_of rfl e29)) rfl fun K' hK' => wp_load_mid 23 (.tmp 2) rfl w.heap.size 0 e2 (row8 l0) _ (X06.out.below hB X06.out.lt).range Tryd.underlying23 rfl (by rw [l032.out]; exact infoKeyL) (hK' _ _ rfl (Below.refl _ _))
    · intro a w' hF hB hd
      have e29 : a.eval (.tmp 29) = .bool true := hd 8 (by decide +kernel) (.inr (by decide))
      have e3 : a.eval (.tmp 3) = .pointer (some ⟨w.heap.size + 1, 0, none⟩) := hF 3 (by decide +kernel)
      exact doesG_wp (wanted_of rfl (yielded_of rfl e29)) rfl fun K' hK' => wp_load_mid 23 (.tmp 3) rfl (w.heap.size + 1) 0 e3 (row8 l1) _ (X16.out.below hB X16.out.lt).range Tryd.underlying23 rfl (by rw [l132.out]; exact infoKeyL) (hK' _ _ rfl (Below.refl _ _))
    · intro a w' hF hB hd
      have e29 : a.eval (.tmp 29) = .bool true := hd 8 (by decide +kernel) (.inr (by decide))
      have e30 : a.eval (.tmp 30) = .agg (row8 l0).toArray := hd 9 (by decide +kernel) (.inr (by decide))
      have e31 : a.eval (.tmp 31) = .agg (row8 l1).toArray := hd 10 (by decide +kernel) (.inr (by decide))
      exact doesG_call (wanted_of rfl (yielded_of rfl e29)) (ex_call (vs := #[.agg (row8 l0).toArray, .agg (row8 l1).toArray]) rfl (by simp only [List.map_toArray, List.map_cons, List.map_nil, e30, e31]) (by go_simp)) rfl ((HC.out w' (W6.out.on hB)).mono fun e w2 hh => ⟨_, hh.1, rfl, hh.2⟩)
    · intro a w' hF hB hd
      have e29 : a.eval (.tmp 29) = .bool true := hd 8 (by decide +kernel) (.inr (by decide))
      have e2 : a.eval (.tmp 2) = .pointer (some ⟨w.heap.size, 0, none⟩) := hF 2 (by decide +kernel)
      exact doesG_wp (wanted_of rfl (yielded_of rfl e29)) rfl fun K' hK' => wp_load_mid 23 (.tmp 2) rfl w.heap.size 0 e2 (row8 l0) _ (X06.out.below hB X06.out.lt).range Tryd.underlying23 rfl (by rw [l032.out]; exact infoKeyL) (hK' _ _ rfl (Below.refl _ _))
    · intro a w' hF hB hd
      have e29 : a.eval (.tmp 29) = .bool true := hd 8 (by decide +kernel) (.inr (by decide))
      have e3 : a.eval (.tmp 3) = .pointer (some ⟨w.heap.size + 1, 0, none⟩) := hF 3 (by decide +kernel)
      exact doesG_wp (wanted_of rfl (yielded_of rfl e29)) rfl fun K' hK' => wp_load_mid 23 (.tmp 3) rfl (w.heap.size + 1) 0 e3 (row8 l1) _ (X16.out.below hB X16.out.lt).range Tryd.underlying23 rfl (by rw [l132.out]; exact infoKeyL) (hK' _ _ rfl (Below.refl _ _))
    · intro a w' hF hB hd
      have e29 : a.eval (.tmp 29) = .bool true := hd 8 (by decide +kernel) (.inr (by decide))
      have e33 : a.eval (.tmp 33) = .agg (row8 l0).toArray := hd 12 (by decide +kernel) (.inr (by decide))
      have e34 : a.eval (.tmp 34) = .agg (row8 l1).toArray := hd 13 (by decide +kernel) (.inr (by decide))
      exact doesG_call (wanted_of rfl (yielded_of rfl e29)) (ex_call (vs := #[.agg (row8 l0).toArray, .agg (row8 l1).toArray]) rfl (by simp only [List.map_toArray, List.map_cons, List.map_nil, e33, e34]) (by go_simp)) rfl ((HD.out w' (W6.out.on hB)).mono fun e w2 hh => ⟨_, hh.1, rfl, hh.2⟩)
    · intro a w' hF hB hd
      have e29 : a.eval (.tmp 29) = .bool true := hd 8 (by decide +kernel) (.inr (by decide))
      have e32 : a.eval (.tmp 32) = .agg (row8 U).toArray := hd 11 (by decide +kernel) (.inr (by decide))
      have e35 : a.eval (.tmp 35) = .agg (row8 U).toArray := hd 14 (by decide +kernel) (.inr (by decide))
      exact doesG_val (wanted_of rfl (yielded_of rfl e29)) (ex_binOp rfl e32 e35 (run_eqGuard_agg (P := Tryd.prog) (w := w') .eql 24 _ _ _ _ eqTypeSW) (huu w')) rfl rfl
    · intro a w' hF hB hd
      have e29 : a.eval (.tmp 29) = .bool true := hd 8 (by decide +kernel) (.inr (by decide))
      have e36 : a.eval (.tmp 36) = .bool true := hd 15 (by decide +kernel) (.inr (by decide))
      exact doesG_val rfl (ex_pick rfl e29 (by simp [e36])) rfl rfl
    · intro a w' hF hB hd
      have e37 : a.eval (.tmp 37) = .bool true := hd 16 (by decide +kernel) (.inr (by decide))
      exact doesG_val rfl (ex_move rfl e37) rfl rfl
    · intro a w' hF hB hd
      have e38 : a.eval (.tmp 38) = .bool true := hd 17 (by decide +kernel) (.inr (by decide))
      exact doesG_call (wanted_of rfl (yielded_of rfl e38)) (ex_call (vs := #[]) rfl (by simp) (by go_simp)) rfl ((HAW.out w' (W6.out.on hB)).mono fun e w2 hh => ⟨_, hh.1, rfl, hh.2⟩)
    · intro a w' hF hB hd
      have e38 : a.eval (.tmp 38) = .bool true := hd 17 (by decide +kernel) (.inr (by decide))
      have e39 : a.eval (.tmp 39) = .bool true := hd 18 (by decide +kernel) (.inr (by decide))
      exact doesG_val rfl (ex_pick rfl e38 (by simp [e39])) rfl rfl
    · intro a w' hF hB hd
      have e40 : a.eval (.tmp 40) = .bool true := hd 19 (by decide +kernel) (.inr (by decide))
      exact doesG_val rfl (ex_assign rfl e40) rfl rfl
  · intro vs wz hb hv hap
    have e2 : vs 20 = .bool true := hv 20 (by decide) (by decide)
    simp only [List.take_succ_cons, List.take_zero, List.drop_succ_cons, List.drop_zero, putOps, Act.put, List.setIfInBounds_toArray, List.set_cons_zero, List.set_cons_succ, e2]
    have HB := Lib.hid (W6.out.on hb)
    clear hv hap e2 hb
    go_wp2_with fail
    go_ret
    exact ⟨rfl, HB.out⟩
set_option maxRecDepth 100000 in
theorem reads (os : Os) {H : Type} (enc : TypeId × Value → H) : ∃ places, DataW.whole enc Tryd.prog ((World.doorLaid Tryd.prog 400 os).forCall (fun _ _ => 0) ⟨#[], #[.agg (row8 (List.replicate 32 0)).toArray, .agg (row8 (List.replicate 32 0)).toArray], []⟩).memory Tryd.f3.params.toList Rows.wrapSealsSpec.vars false (#[.agg (row8 (List.replicate 32 0)).toArray, .agg (row8 (List.replicate 32 0)).toArray] : Array Value).toList 8 = some ([lit8 (List.replicate 32 0), lit8 (List.replicate 32 0)], [], places) :=
  ⟨[], by kernel_rfl⟩
set_option linter.unusedVariables false in
set_option maxHeartbeats 1000000 in
set_option maxRecDepth 100000 in
theorem lifted (os : Os) (started : os.Started) (H : Type) (enc : TypeId × Value → H) (F : Stop.Interp) :
    ReturnsInHanded {} Tryd.checked os 3 .any ((OpenSpec.ofChange Rows.wrapSealsSpec).preRow enc Tryd.prog Tryd.f3 Rows.wrapSealsRow.domain false laidXKAPs) (((OpenSpec.ofChange Rows.wrapSealsSpec).at F).post enc Tryd.prog Tryd.f3 false true false false) := by
  obtain ⟨places, hx⟩ := reads os enc
  refine returnsInHanded_of_row (C := Tryd.checked) (s := OpenSpec.ofChange Rows.wrapSealsSpec) own started (by kernel_rfl) Tryd.func3
    (witness_row_atRef (enc := enc) (C := Tryd.checked) false (World.doorLaid Tryd.prog 400 os) #[.agg (row8 (List.replicate 32 0)).toArray, .agg (row8 (List.replicate 32 0)).toArray] rfl (by kernel_rfl) (by kernel_rfl) (by kernel_rfl)
      (OpenSpec.preRow_of_cond 8 hx (by kernel_rfl) (fun k hk => by cases hk) (by kernel_rfl) (doorXKAPs_met os _))) ?_
  intro W base args ds gs before hval0 hW _ hcond hsz0 hL _ _
  have hsz : (DataW.weightsEach Tryd.prog (Tryd.f3.params.toList ++ Rows.wrapSealsSpec.plain.varTypes Tryd.prog) (ds ++ gs)).all (· ≤ reachBytes) = true := hsz0
  clear hsz0
  have hval : ∀ (j : Nat) t v, Tryd.f3.params[j]? = some t → args[j]? = some v → Value.okWide Tryd.prog W .any base t v := hval0
  have hW' := hW
  obtain ⟨p, q, hA0, hV, rfl, _, _⟩ := hW
  have hA : DataW.TrodAll enc Tryd.prog W 0 (fun _ => true) true Tryd.f3.params.toList args.toList ds p := hA0
  rw [Tryd.params3] at hA hval hsz
  obtain ⟨v0, vs0, d0, ds0, p0, q0, hargs, rfl, rfl, g0, r0⟩ := trodAll_cons hA
  obtain ⟨v1, vs1, d1, ds1, p1, q1, rfl, rfl, rfl, g1, r1⟩ := trodAll_cons r0
  obtain ⟨rfl, rfl, rfl⟩ := trodAll_nil r1
  obtain rfl : args = #[v0, v1] := by cases args; simp_all
  obtain ⟨rfl, rfl⟩ := trodVars_none hV
  obtain ⟨l0, h0, rfl, rfl, rfl⟩ := open_row Tryd.underlying23 Tryd.underlying5 cells5 (hval 0 23 v0 rfl rfl) cells23 g0
  obtain ⟨l1, h1, rfl, rfl, rfl⟩ := open_row Tryd.underlying23 Tryd.underlying5 cells5 (hval 1 23 v1 rfl rfl) cells23 g1
  clear hA0 hval0
  have hlt := hW'.lt
  refine (walk W (tabsXKAPs_of_laid hL) l0 h0 l1 h1).mono fun e W' ⟨he, hb⟩ => ?_
  subst he
  have hargs : DataW.TrodAll enc Tryd.prog W' 0 (fun b => decide (b < W.heap.size)) true _ _ _ _ := (trodAll_cons_mk (shut_row Tryd.underlying23 Tryd.underlying5 cells5 cells23 h0) (trodAll_cons_mk (shut_row Tryd.underlying23 Tryd.underlying5 cells5 cells23 h1) trodAll_mk0))
  simp only [List.append_nil] at hW' hargs
  exact ⟨_, rfl, post_law hW' (trodAll_cons_mk (shut_bool Tryd.underlying4 _) trodAll_mk0) hargs rfl hb⟩

theorem over : Rows.wrapSealsRow.holds Tryd.pinned (OpenSpec.ofChange Rows.wrapSealsSpec) :=
  OpenClaim.holds_of_cond 3 Tryd.f3 rfl rfl rfl rfl rfl rfl rfl ⟨rfl, rfl, rfl, rfl, rfl⟩ rfl rfl rfl rfl rfl (by kernel_rfl) Tryd.func3 (by kernel_rfl)
    (of_decide_eq_true (by kernel_rfl)) (by unfold Func.isWrapper; first | (rw [if_pos (by decide +kernel)]; kernel_rfl) | (rw [if_neg (by decide +kernel)]; exact ⟨rfl, rfl⟩))
    (fun os started H enc _ F => by rw [OpenClaim.pre_eq_preRow]; exact lifted os started H enc F)

/-- The given statement. -/
theorem proved : Rows.WrapSealsCardSaid :=
  Claim7.holds_tied_plain_at .later [] _ _ _ _
    over (fun _ h => by cases h) (by kernel_rfl) (fun _ h => by cases h) wrapSeals_row_tie rfl ⟨rfl, rfl⟩ (by kernel_rfl) rfl
    (fun f fn hf hfn => by
      obtain rfl : f = 3 := Option.some.inj ((show Tryd.prog.funcNamed "reliquary/reliquarylaw08.WrapSeals" = some 3 by kernel_rfl).symm.trans hf) |>.symm
      obtain rfl : fn = Tryd.f3 := (Option.some.inj (Tryd.func3.symm.trans hfn)).symm
      exact ⟨by kernel_rfl, fun j t ht => by
        rw [Tryd.params3] at ht
        have hm : t ∈ [23, 23] := by simpa using Array.mem_of_getElem? ht
        have hall : ([23, 23].all fun u => !Tryd.prog.wantsStandIn u) = true := by kernel_rfl
        exact (show Tryd.prog.wantsStandIn t = false by simpa using List.all_eq_true.1 hall t hm)⟩)
    (by kernel_rfl)
end Go.Proofs.YtjemajenfkjelaaDoor.wrapSeals

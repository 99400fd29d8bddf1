/- WrapBack: what is sealed is opened to what it was; by one key no two others are sealed alike; and the law's closed case holds. No condition but that the program's two tables hold their constants when the call begins. -/
import Derived.Test.YtjemajenfkjelaaDoorRows
import Derived.Test.YtjemajenfkjelaaDoorWrapLaws
import Derived.Test.YtjemajenfkjelaaDoorMem
import Derived.Test.YtjemajenfkjelaaDoorDoorWrap
import Derived.Test.YtjemajenfkjelaaDoorTie
import Derived.Test.YtjemajenfkjelaaDoorCards
import Derived.SevenTiedAt
import Derived.WalkKit
import Derived.ProofKit
import Derived.OpenShut
import Derived.SizedLaws
import Derived.Carry
import Derived.Deep.DeepHandedRow
import Derived.Deep.DeepWitnessRowRef
namespace Go.Proofs.YtjemajenfkjelaaDoor.wrapBack
open Go.ChangeShapes Go.WideShapes Go.ChangeAt Go.RowKit
open SM AM WM
theorem own : ownKnob Tryd.prog.godebug = none := by kernel_rfl
theorem cells23 : Tryd.prog.cellsOf 23 = 32 := by kernel_rfl
theorem cells5 : Tryd.prog.cellsOf 5 = 1 := by kernel_rfl
set_option linter.unusedVariables false in
set_option maxHeartbeats 4000000 in
set_option maxRecDepth 100000 in
theorem walk (w : World) (ht : TabX w ∧ TabP w) (l0 : List Nat) (h0 : Bytes 32 l0) (l1 : List Nat) (h1 : Bytes 32 l1) (l2 : List Nat) (h2 : Bytes 32 l2) :
    Calls Tryd.prog 5 #[.agg (row8 l0).toArray, .agg (row8 l1).toArray, .agg (row8 l2).toArray] w fun e w' => e = .returned (.bool true) ∧ Below w.heap.size w w' := by
  obtain ⟨TX, TP⟩ := ht
  obtain ⟨Z, hZ⟩ : ∃ Z, Z = wseal l0 l1 := ⟨_, rfl⟩
  have bZ : Bytes 32 Z := by rw [hZ]; exact wseal_bytes l0 h1
  obtain ⟨V, hV⟩ : ∃ V, V = wcheck l0 Z := ⟨_, rfl⟩
  have bV : Bytes 32 V := by rw [hV]; exact wcheck_bytes l0 Z
  obtain ⟨Y, hY⟩ : ∃ Y, Y = wseal l0 l2 := ⟨_, rfl⟩
  have bY : Bytes 32 Y := by rw [hY]; exact wseal_bytes l0 h2
  obtain ⟨U, hU⟩ : ∃ U, U = wcheck l0 Y := ⟨_, rfl⟩
  have bU : Bytes 32 U := by rw [hU]; exact wcheck_bytes l0 Y
  have ho : wopen l0 Z V = l1 := by unfold wopen; rw [if_pos hV.symm, hZ]; exact wseal_back l0 h1
  have hr : werr l0 Z V = 0 := by unfold werr; rw [if_pos hV.symm]
  have hpq : decide (Z = Y) = decide (l1 = l2) := decide_eq_decide.2 (by rw [hZ, hY]; exact wseal_inj l0 h1 h2)
  have HPQ := Lib.hid hpq
  have haa := fun w => run_eql_keyW h1 h1 w
  have hzy := fun w => run_eql_keyW bZ bY w
  have hab := fun w => run_eql_keyW h1 h2 w
  simp only [decide_true] at haa
  obtain ⟨D0, hD0⟩ : ∃ D0, D0 = row8 (List.replicate 32 0) := ⟨_, rfl⟩
  have hz : ∀ w, (zeroValue 23).run Tryd.prog w = .ok (.agg D0.toArray) w := by rw [hD0]; exact zeroKeyW
  have hz2 : ∀ w, (zeroValue 24).run Tryd.prog w = .ok (.agg D0.toArray) w := by rw [hD0]; exact zeroSumW
  have hd0 : D0.length = 32 := by rw [hD0, row8_len, List.length_replicate]
  have Z32 := Lib.hid (show (row8 Z).length = 32 by rw [row8_len]; exact bZ.1)
  have V32 := Lib.hid (show (row8 V).length = 32 by rw [row8_len]; exact bV.1)
  have Y32 := Lib.hid (show (row8 Y).length = 32 by rw [row8_len]; exact bY.1)
  have U32 := Lib.hid (show (row8 U).length = 32 by rw [row8_len]; exact bU.1)
  have l032 := Lib.hid (show (row8 l0).length = 32 by rw [row8_len]; exact h0.1)
  have l132 := Lib.hid (show (row8 l1).length = 32 by rw [row8_len]; exact h1.1)
  have l232 := Lib.hid (show (row8 l2).length = 32 by rw [row8_len]; exact h2.1)
  have HS := Lib.hid (fun W (hW : Below w.heap.size w W) => pseal_any l0 l1 h0 h1 W (TX.below hW) (TP.below hW))
  rw [← hZ, ← hV] at HS
  have HSB := Lib.hid (fun W (hW : Below w.heap.size w W) => pseal_any l0 l2 h0 h2 W (TX.below hW) (TP.below hW))
  rw [← hY, ← hU] at HSB
  have HO := Lib.hid (fun W (hW : Below w.heap.size w W) => popen_any l0 Z V h0 bZ bV W (TX.below hW) (TP.below hW))
  rw [ho, hr] at HO
  have HAW := Lib.hid (fun W (hW : Below w.heap.size w W) => wawake_any W (TX.below hW) (TP.below hW))
  have v1 := (Below.refl w.heap.size w).alloc (Nat.le_refl _) (.cells (row8 l0).toArray 23)
  have v2 := v1.alloc v1.size (.cells (row8 l1).toArray 23)
  have v3 := v2.alloc v2.size (.cells (row8 l2).toArray 23)
  obtain ⟨w0, hw0⟩ : ∃ W, W = (((w.alloc (.cells (row8 l0).toArray 23)).alloc (.cells (row8 l1).toArray 23)).alloc (.cells (row8 l2).toArray 23)) := ⟨_, rfl⟩
  have x0 := ((Blk.new w 23 (row8 l0) (w.heap.size) rfl).alloc (.cells (row8 l1).toArray 23)).alloc (.cells (row8 l2).toArray 23)
  have x1 := (Blk.new (w.alloc (.cells (row8 l0).toArray 23)) 23 (row8 l1) (w.heap.size + 1) (by simp)).alloc (.cells (row8 l2).toArray 23)
  have x2 := Blk.new ((w.alloc (.cells (row8 l0).toArray 23)).alloc (.cells (row8 l1).toArray 23)) 23 (row8 l2) (w.heap.size + 1 + 1) (by simp)
  rw [← hw0] at v3 x0 x1 x2
  have X00 := Lib.hid x0
  have X10 := Lib.hid x1
  have X20 := Lib.hid x2
  have W0 := Lib.hid v3
  have HW0 := Lib.hid hw0
  clear hw0 v1 v2 v3 x0 x1 x2
  have HS0 := Lib.hid (HS.out w0 W0.out)
  clear hZ bZ hV bV hY bY hU bU ho hr hpq hD0 TX TP
  go_enter Tryd.func5, Tryd.ntmps5
  go_upto_region 1 with (fail)
  rw [← HW0.out]
  go_upto_region 4 with (first
    | (refine wpList_load_mid rfl 23 (.tmp 3) rfl w.heap.size 0 rfl (row8 l0) _ X00.out.range Tryd.underlying23 rfl (by rw [l032.out]; exact infoKeyL) ?_)
    | (refine wpList_load_mid rfl 23 (.tmp 4) rfl (w.heap.size + 1) 0 rfl (row8 l1) _ X10.out.range Tryd.underlying23 rfl (by rw [l132.out]; exact infoKeyL) ?_)
    | (go_at_call 8; (with_reducible refine HS0.out.mono ?_); rintro e w1 ⟨rfl, b⟩; have W1 := Lib.hid (W0.out.on b); have X01 := Lib.hid (X00.out.below b X00.out.lt); have X11 := Lib.hid (X10.out.below b X10.out.lt); have X21 := Lib.hid (X20.out.below b X20.out.lt);  clear b)
    | (refine wpList_store_blk rfl 23 (.tmp 7) (.tmp 17) rfl w1.heap.size 0 (row8 Z) rfl rfl 23 D0 ((Blk.new w1 23 D0 _ rfl).alloc (.cells D0.toArray 24)) (by rw [Z32.out, hd0]; exact Nat.le_refl _) (by rw [Z32.out]; exact infoKeyL) (row8_one _) ?_; intro w2 b g; rw [splice_all _ _ (by rw [Z32.out, hd0])] at b; have P2 := Lib.hid (two_a g); have Y2 := Lib.hid (two_blk g); have S2 := Lib.hid b; clear b g)
    | (refine wpList_store_blk rfl 24 (.tmp 8) (.tmp 18) rfl (w1.heap.size + 1) 0 (row8 V) rfl rfl 24 D0 Y2.out (by rw [V32.out, hd0]; exact Nat.le_refl _) (by rw [V32.out]; exact infoS) (row8_one _) ?_; intro w3 b g; rw [splice_all _ _ (by rw [V32.out, hd0])] at b; have hbw : Below w1.heap.size w1 w3 := P2.out.grown g P2.out.size (fun k hk => by have e : w1.heap.size + 1 = k := Option.some.inj hk; omega); have S3 := Lib.hid (S2.out.grown g (fun q => by have e : w1.heap.size = w1.heap.size + 1 := Option.some.inj q; omega)); have C3 := Lib.hid b; have W3 := Lib.hid (W1.out.on hbw); have X03 := Lib.hid (X01.out.below hbw X01.out.lt); have X13 := Lib.hid (X11.out.below hbw X11.out.lt); have X23 := Lib.hid (X21.out.below hbw X21.out.lt); have HB3 := Lib.hid (HSB.out w3 W3.out); clear b g hbw)
    | (refine wpList_load_mid rfl 23 (.tmp 3) rfl w.heap.size 0 rfl (row8 l0) _ X03.out.range Tryd.underlying23 rfl (by rw [l032.out]; exact infoKeyL) ?_)
    | (refine wpList_load_mid rfl 23 (.tmp 5) rfl (w.heap.size + 1 + 1) 0 rfl (row8 l2) _ X23.out.range Tryd.underlying23 rfl (by rw [l232.out]; exact infoKeyL) ?_)
    | (go_at_call 8; (with_reducible refine HB3.out.mono ?_); rintro e w4 ⟨rfl, b⟩; have W4 := Lib.hid (W3.out.on b); have X04 := Lib.hid (X03.out.below b X03.out.lt); have X14 := Lib.hid (X13.out.below b X13.out.lt); have X24 := Lib.hid (X23.out.below b X23.out.lt); have S4 := Lib.hid (S3.out.below b S3.out.lt); have C4 := Lib.hid (C3.out.below b C3.out.lt);  clear b)
    | (refine wpList_store_blk rfl 23 (.tmp 9) (.tmp 23) rfl w4.heap.size 0 (row8 Y) rfl rfl 23 D0 ((Blk.new w4 23 D0 _ rfl).alloc (.cells D0.toArray 24)) (by rw [Y32.out, hd0]; exact Nat.le_refl _) (by rw [Y32.out]; exact infoKeyL) (row8_one _) ?_; intro w5 b g; rw [splice_all _ _ (by rw [Y32.out, hd0])] at b; have P5 := Lib.hid (two_a g); have Y5 := Lib.hid (two_blk g); have T5 := Lib.hid b; clear b g)
    | (refine wpList_store_blk rfl 24 (.tmp 10) (.tmp 24) rfl (w4.heap.size + 1) 0 (row8 U) rfl rfl 24 D0 Y5.out (by rw [U32.out, hd0]; exact Nat.le_refl _) (by rw [U32.out]; exact infoS) (row8_one _) ?_; intro w6 b g; rw [splice_all _ _ (by rw [U32.out, hd0])] at b; have hbw : Below w4.heap.size w4 w6 := P5.out.grown g P5.out.size (fun k hk => by have e : w4.heap.size + 1 = k := Option.some.inj hk; omega); have T6 := Lib.hid (T5.out.grown g (fun q => by have e : w4.heap.size = w4.heap.size + 1 := Option.some.inj q; omega)); have D6 := Lib.hid b; have W6 := Lib.hid (W4.out.on hbw); have X06 := Lib.hid (X04.out.below hbw X04.out.lt); have X16 := Lib.hid (X14.out.below hbw X14.out.lt); have X26 := Lib.hid (X24.out.below hbw X24.out.lt); have S6 := Lib.hid (S4.out.below hbw S4.out.lt); have C6 := Lib.hid (C4.out.below hbw C4.out.lt); have HO6 := Lib.hid (HO.out w6 W6.out); clear b g hbw)
    | (refine wpList_load_mid rfl 23 (.tmp 3) rfl w.heap.size 0 rfl (row8 l0) _ X06.out.range Tryd.underlying23 rfl (by rw [l032.out]; exact infoKeyL) ?_)
    | (refine wpList_load_mid rfl 23 (.tmp 7) rfl w1.heap.size 0 rfl (row8 Z) _ S6.out.range Tryd.underlying23 rfl (by rw [Z32.out]; exact infoKeyL) ?_)
    | (refine wpList_load_mid rfl 24 (.tmp 8) rfl (w1.heap.size + 1) 0 rfl (row8 V) _ C6.out.range Tryd.underlying24 rfl (by rw [V32.out]; exact infoS) ?_)
    | (go_at_call 13; (with_reducible refine HO6.out.mono ?_); rintro e w7 ⟨rfl, b⟩; have W7 := Lib.hid (W6.out.on b); have X07 := Lib.hid (X06.out.below b X06.out.lt); have X17 := Lib.hid (X16.out.below b X16.out.lt); have X27 := Lib.hid (X26.out.below b X26.out.lt); have S7 := Lib.hid (S6.out.below b S6.out.lt); have C7 := Lib.hid (C6.out.below b C6.out.lt); have T7 := Lib.hid (T6.out.below b T6.out.lt); have D7 := Lib.hid (D6.out.below b D6.out.lt);  clear b)
    | (refine wpList_store_blk rfl 23 (.tmp 11) (.tmp 30) rfl w7.heap.size 0 (row8 l1) rfl rfl 23 D0 (Blk.new w7 23 D0 _ rfl) (by rw [l132.out, hd0]; exact Nat.le_refl _) (by rw [l132.out]; exact infoKeyL) (row8_one _) ?_; intro w8 b g; rw [splice_all _ _ (by rw [l132.out, hd0])] at b; have hbw : Below w7.heap.size w7 w8 := alloc_turn (Below.refl _ _) g; have M8 := Lib.hid b; have W8 := Lib.hid (W7.out.on hbw); have X08 := Lib.hid (X07.out.below hbw X07.out.lt); have X18 := Lib.hid (X17.out.below hbw X17.out.lt); have X28 := Lib.hid (X27.out.below hbw X27.out.lt); have S8 := Lib.hid (S7.out.below hbw S7.out.lt); have C8 := Lib.hid (C7.out.below hbw C7.out.lt); have T8 := Lib.hid (T7.out.below hbw T7.out.lt); have D8 := Lib.hid (D7.out.below hbw D7.out.lt);  clear b g hbw))
  clear HS HSB HO HS0 HB3 HO6 W0 W1 W3 W4 W6 W7
  refine wp_region_g (by kernel_rfl) 20 (by decide) (by kernel_rfl) (by kernel_rfl) (by kernel_rfl) (w8.heap.size) (Nat.le_refl _) [.val (.agg (row8 l1).toArray), .val (.agg (row8 l1).toArray), .val (.bool true), .val (.bool true), .val (.int .i64 0), .val (.bool true), .val (.bool true), .val (.bool true), .val (.agg (row8 Z).toArray), .val (.agg (row8 Y).toArray), .val (.bool (decide (Z = Y))), .val (.agg (row8 l1).toArray), .val (.agg (row8 l2).toArray), .val (.bool (decide (l1 = l2))), .val (.bool true), .val (.bool true), .val (.bool true), .val (.bool true), .val (.bool true), .val (.bool true)] (fun _ => 20) ?_ ?_
  · refine ⟨?_, ?_, ?_, ?_, ?_, ?_, ?_, ?_, ?_, ?_, ?_, ?_, ?_, ?_, ?_, ?_, ?_, ?_, ?_, ?_, trivial⟩
    · intro a w' hF hB hd
      have e11 : a.eval (.tmp 11) = .pointer (some ⟨w7.heap.size, 0, none⟩) := hF 11 (by decide +kernel)
      exact doesG_wp rfl rfl fun K' hK' => wp_load_mid 23 (.tmp 11) rfl w7.heap.size 0 e11 (row8 l1) _ (M8.out.below hB M8.out.lt).range Tryd.underlying23 rfl (by rw [l132.out]; exact infoKeyL) (hK' _ _ rfl (Below.refl _ _))
    · intro a w' hF hB hd
      have e4 : a.eval (.tmp 4) = .pointer (some ⟨w.heap.size + 1, 0, none⟩) := hF 4 (by decide +kernel)
      exact doesG_wp rfl rfl fun K' hK' => wp_load_mid 23 (.tmp 4) rfl (w.heap.size + 1) 0 e4 (row8 l1) _ (X18.out.below hB X18.out.lt).range Tryd.underlying23 rfl (by rw [l132.out]; exact infoKeyL) (hK' _ _ rfl (Below.refl _ _))
    · intro a w' hF hB hd
      have e32 : a.eval (.tmp 32) = .agg (row8 l1).toArray := hd 0 (by decide +kernel) (.inr (by decide))
      have e33 : a.eval (.tmp 33) = .agg (row8 l1).toArray := hd 1 (by decide +kernel) (.inr (by decide))
      exact doesG_val rfl (ex_binOp rfl e32 e33 (run_eqGuard_agg (P := Tryd.prog) (w := w') .eql 23 _ _ _ _ eqTypeKW) (haa w')) rfl rfl
    · intro a w' hF hB hd
      have e34 : a.eval (.tmp 34) = .bool true := hd 2 (by decide +kernel) (.inr (by decide))
      exact doesG_val rfl (ex_move rfl e34) rfl rfl
    · intro a w' hF hB hd
      have e35 : a.eval (.tmp 35) = .bool true := hd 3 (by decide +kernel) (.inr (by decide))
      have e12 : a.eval (.tmp 12) = .int .i64 0 := hF 12 (by decide +kernel)
      exact doesG_val (wanted_of rfl (yielded_of rfl e35)) (ex_move rfl e12) rfl rfl
    · intro a w' hF hB hd
      have e35 : a.eval (.tmp 35) = .bool true := hd 3 (by decide +kernel) (.inr (by decide))
      have e36 : a.eval (.tmp 36) = .int .i64 0 := hd 4 (by decide +kernel) (.inr (by decide))
      exact doesG_val (wanted_of rfl (yielded_of rfl e35)) (ex_binOp rfl e36 rfl (by go_simp) (by go_simp)) rfl rfl
    · intro a w' hF hB hd
      have e35 : a.eval (.tmp 35) = .bool true := hd 3 (by decide +kernel) (.inr (by decide))
      have e37 : a.eval (.tmp 37) = .bool true := hd 5 (by decide +kernel) (.inr (by decide))
      exact doesG_val rfl (ex_pick rfl e35 (by simp [e37])) rfl rfl
    · intro a w' hF hB hd
      have e38 : a.eval (.tmp 38) = .bool true := hd 6 (by decide +kernel) (.inr (by decide))
      exact doesG_val rfl (ex_move rfl e38) rfl rfl
    · intro a w' hF hB hd
      have e39 : a.eval (.tmp 39) = .bool true := hd 7 (by decide +kernel) (.inr (by decide))
      have e7 : a.eval (.tmp 7) = .pointer (some ⟨w1.heap.size, 0, none⟩) := hF 7 (by decide +kernel)
      exact doesG_wp (wanted_of rfl (yielded_of rfl e39)) rfl fun K' hK' => wp_load_mid 23 (.tmp 7) rfl w1.heap.size 0 e7 (row8 Z) _ (S8.out.below hB S8.out.lt).range Tryd.underlying23 rfl (by rw [Z32.out]; exact infoKeyL) (hK' _ _ rfl (Below.refl _ _))
    · intro a w' hF hB hd
      have e39 : a.eval (.tmp 39) = .bool true := hd 7 (by decide +kernel) (.inr (by decide))
      have e9 : a.eval (.tmp 9) = .pointer (some ⟨w4.heap.size, 0, none⟩) := hF 9 (by decide +kernel)
      exact doesG_wp (wanted_of rfl (yielded_of rfl e39)) rfl fun K' hK' => wp_load_mid 23 (.tmp 9) rfl w4.heap.size 0 e9 (row8 Y) _ (T8.out.below hB T8.out.lt).range Tryd.underlying23 rfl (by rw [Y32.out]; exact infoKeyL) (hK' _ _ rfl (Below.refl _ _))
    · intro a w' hF hB hd
      have e39 : a.eval (.tmp 39) = .bool true := hd 7 (by decide +kernel) (.inr (by decide))
      have e40 : a.eval (.tmp 40) = .agg (row8 Z).toArray := hd 8 (by decide +kernel) (.inr (by decide))
      have e41 : a.eval (.tmp 41) = .agg (row8 Y).toArray := hd 9 (by decide +kernel) (.inr (by decide))
      exact doesG_val (wanted_of rfl (yielded_of rfl e39)) (ex_binOp rfl e40 e41 (run_eqGuard_agg (P := Tryd.prog) (w := w') .eql 23 _ _ _ _ eqTypeKW) (hzy w')) rfl rfl
    · intro a w' hF hB hd
      have e39 : a.eval (.tmp 39) = .bool true := hd 7 (by decide +kernel) (.inr (by decide))
      have e4 : a.eval (.tmp 4) = .pointer (some ⟨w.heap.size + 1, 0, none⟩) := hF 4 (by decide +kernel)
      exact doesG_wp (wanted_of rfl (yielded_of rfl e39)) rfl fun K' hK' => wp_load_mid 23 (.tmp 4) rfl (w.heap.size + 1) 0 e4 (row8 l1) _ (X18.out.below hB X18.out.lt).range Tryd.underlying23 rfl (by rw [l132.out]; exact infoKeyL) (hK' _ _ rfl (Below.refl _ _))
    · intro a w' hF hB hd
      have e39 : a.eval (.tmp 39) = .bool true := hd 7 (by decide +kernel) (.inr (by decide))
      have e5 : a.eval (.tmp 5) = .pointer (some ⟨w.heap.size + 1 + 1, 0, none⟩) := hF 5 (by decide +kernel)
      exact doesG_wp (wanted_of rfl (yielded_of rfl e39)) rfl fun K' hK' => wp_load_mid 23 (.tmp 5) rfl (w.heap.size + 1 + 1) 0 e5 (row8 l2) _ (X28.out.below hB X28.out.lt).range Tryd.underlying23 rfl (by rw [l232.out]; exact infoKeyL) (hK' _ _ rfl (Below.refl _ _))
    · intro a w' hF hB hd
      have e39 : a.eval (.tmp 39) = .bool true := hd 7 (by decide +kernel) (.inr (by decide))
      have e43 : a.eval (.tmp 43) = .agg (row8 l1).toArray := hd 11 (by decide +kernel) (.inr (by decide))
      have e44 : a.eval (.tmp 44) = .agg (row8 l2).toArray := hd 12 (by decide +kernel) (.inr (by decide))
      exact doesG_val (wanted_of rfl (yielded_of rfl e39)) (ex_binOp rfl e43 e44 (run_eqGuard_agg (P := Tryd.prog) (w := w') .eql 23 _ _ _ _ eqTypeKW) (hab w')) rfl rfl
    · intro a w' hF hB hd
      have e39 : a.eval (.tmp 39) = .bool true := hd 7 (by decide +kernel) (.inr (by decide))
      have e42 : a.eval (.tmp 42) = .bool (decide (Z = Y)) := hd 10 (by decide +kernel) (.inr (by decide))
      have e45 : a.eval (.tmp 45) = .bool (decide (l1 = l2)) := hd 13 (by decide +kernel) (.inr (by decide))
      exact doesG_val (wanted_of rfl (yielded_of rfl e39)) (ex_binOp rfl e42 e45 (by go_simp) (by rw [HPQ.out, run_eql_bool, decide_eq_true rfl])) rfl rfl
    · intro a w' hF hB hd
      have e39 : a.eval (.tmp 39) = .bool true := hd 7 (by decide +kernel) (.inr (by decide))
      have e46 : a.eval (.tmp 46) = .bool true := hd 14 (by decide +kernel) (.inr (by decide))
      exact doesG_val rfl (ex_pick rfl e39 (by simp [e46])) rfl rfl
    · intro a w' hF hB hd
      have e47 : a.eval (.tmp 47) = .bool true := hd 15 (by decide +kernel) (.inr (by decide))
      exact doesG_val rfl (ex_move rfl e47) rfl rfl
    · intro a w' hF hB hd
      have e48 : a.eval (.tmp 48) = .bool true := hd 16 (by decide +kernel) (.inr (by decide))
      exact doesG_call (wanted_of rfl (yielded_of rfl e48)) (ex_call (vs := #[]) rfl (by simp) (by go_simp)) rfl ((HAW.out w' (W8.out.on hB)).mono fun e w2 hh => ⟨_, hh.1, rfl, hh.2⟩)
    · intro a w' hF hB hd
      have e48 : a.eval (.tmp 48) = .bool true := hd 16 (by decide +kernel) (.inr (by decide))
      have e49 : a.eval (.tmp 49) = .bool true := hd 17 (by decide +kernel) (.inr (by decide))
      exact doesG_val rfl (ex_pick rfl e48 (by simp [e49])) rfl rfl
    · intro a w' hF hB hd
      have e50 : a.eval (.tmp 50) = .bool true := hd 18 (by decide +kernel) (.inr (by decide))
      exact doesG_val rfl (ex_assign rfl e50) rfl rfl
  · intro vs wz hb hv hap
    have e2 : vs 19 = .bool true := hv 19 (by decide) (by decide)
    simp only [List.take_succ_cons, List.take_zero, List.drop_succ_cons, List.drop_zero, putOps, Act.put, List.setIfInBounds_toArray, List.set_cons_zero, List.set_cons_succ, e2]
    have HB := Lib.hid (W8.out.on hb)
    clear hv hap e2 hb
    go_wp2_with fail
    go_ret
    exact ⟨rfl, HB.out⟩
set_option maxRecDepth 100000 in
theorem reads (os : Os) {H : Type} (enc : TypeId × Value → H) : ∃ places, DataW.whole enc Tryd.prog ((World.doorLaid Tryd.prog 400 os).forCall (fun _ _ => 0) ⟨#[], #[.agg (row8 (List.replicate 32 0)).toArray, .agg (row8 (List.replicate 32 0)).toArray, .agg (row8 (List.replicate 32 0)).toArray], []⟩).memory Tryd.f5.params.toList Rows.wrapBackSpec.vars false (#[.agg (row8 (List.replicate 32 0)).toArray, .agg (row8 (List.replicate 32 0)).toArray, .agg (row8 (List.replicate 32 0)).toArray] : Array Value).toList 8 = some ([lit8 (List.replicate 32 0), lit8 (List.replicate 32 0), lit8 (List.replicate 32 0)], [], places) :=
  ⟨[], by kernel_rfl⟩
set_option linter.unusedVariables false in
set_option maxHeartbeats 1000000 in
set_option maxRecDepth 100000 in
theorem lifted (os : Os) (started : os.Started) (H : Type) (enc : TypeId × Value → H) (F : Stop.Interp) :
    ReturnsInHanded {} Tryd.checked os 5 .any ((OpenSpec.ofChange Rows.wrapBackSpec).preRow enc Tryd.prog Tryd.f5 Rows.wrapBackRow.domain false laidXPs) (((OpenSpec.ofChange Rows.wrapBackSpec).at F).post enc Tryd.prog Tryd.f5 false true false false) := by
  obtain ⟨places, hx⟩ := reads os enc
  refine returnsInHanded_of_row (C := Tryd.checked) (s := OpenSpec.ofChange Rows.wrapBackSpec) own started (by kernel_rfl) Tryd.func5
    (witness_row_atRef (enc := enc) (C := Tryd.checked) false (World.doorLaid Tryd.prog 400 os) #[.agg (row8 (List.replicate 32 0)).toArray, .agg (row8 (List.replicate 32 0)).toArray, .agg (row8 (List.replicate 32 0)).toArray] rfl (by kernel_rfl) (by kernel_rfl) (by kernel_rfl)
      (OpenSpec.preRow_of_cond 8 hx (by kernel_rfl) (fun k hk => by cases hk) (by kernel_rfl) (doorXPs_met os _))) ?_
  intro W base args ds gs before hval0 hW _ hcond hsz0 hL _ _
  have hsz : (DataW.weightsEach Tryd.prog (Tryd.f5.params.toList ++ Rows.wrapBackSpec.plain.varTypes Tryd.prog) (ds ++ gs)).all (· ≤ reachBytes) = true := hsz0
  clear hsz0
  have hval : ∀ (j : Nat) t v, Tryd.f5.params[j]? = some t → args[j]? = some v → Value.okWide Tryd.prog W .any base t v := hval0
  have hW' := hW
  obtain ⟨p, q, hA0, hV, rfl, _, _⟩ := hW
  have hA : DataW.TrodAll enc Tryd.prog W 0 (fun _ => true) true Tryd.f5.params.toList args.toList ds p := hA0
  rw [Tryd.params5] at hA hval hsz
  obtain ⟨v0, vs0, d0, ds0, p0, q0, hargs, rfl, rfl, g0, r0⟩ := trodAll_cons hA
  obtain ⟨v1, vs1, d1, ds1, p1, q1, rfl, rfl, rfl, g1, r1⟩ := trodAll_cons r0
  obtain ⟨v2, vs2, d2, ds2, p2, q2, rfl, rfl, rfl, g2, r2⟩ := trodAll_cons r1
  obtain ⟨rfl, rfl, rfl⟩ := trodAll_nil r2
  obtain rfl : args = #[v0, v1, v2] := by cases args; simp_all
  obtain ⟨rfl, rfl⟩ := trodVars_none hV
  obtain ⟨l0, h0, rfl, rfl, rfl⟩ := open_row Tryd.underlying23 Tryd.underlying5 cells5 (hval 0 23 v0 rfl rfl) cells23 g0
  obtain ⟨l1, h1, rfl, rfl, rfl⟩ := open_row Tryd.underlying23 Tryd.underlying5 cells5 (hval 1 23 v1 rfl rfl) cells23 g1
  obtain ⟨l2, h2, rfl, rfl, rfl⟩ := open_row Tryd.underlying23 Tryd.underlying5 cells5 (hval 2 23 v2 rfl rfl) cells23 g2
  clear hA0 hval0
  have hlt := hW'.lt
  refine (walk W (tabsXPs_of_laid hL) l0 h0 l1 h1 l2 h2).mono fun e W' ⟨he, hb⟩ => ?_
  subst he
  have hargs : DataW.TrodAll enc Tryd.prog W' 0 (fun b => decide (b < W.heap.size)) true _ _ _ _ := (trodAll_cons_mk (shut_row Tryd.underlying23 Tryd.underlying5 cells5 cells23 h0) (trodAll_cons_mk (shut_row Tryd.underlying23 Tryd.underlying5 cells5 cells23 h1) (trodAll_cons_mk (shut_row Tryd.underlying23 Tryd.underlying5 cells5 cells23 h2) trodAll_mk0)))
  simp only [List.append_nil] at hW' hargs
  exact ⟨_, rfl, post_law hW' (trodAll_cons_mk (shut_bool Tryd.underlying4 _) trodAll_mk0) hargs rfl hb⟩

theorem over : Rows.wrapBackRow.holds Tryd.pinned (OpenSpec.ofChange Rows.wrapBackSpec) :=
  OpenClaim.holds_of_cond 5 Tryd.f5 rfl rfl rfl rfl rfl rfl rfl ⟨rfl, rfl, rfl, rfl, rfl⟩ rfl rfl rfl rfl rfl (by kernel_rfl) Tryd.func5 (by kernel_rfl)
    (of_decide_eq_true (by kernel_rfl)) (by unfold Func.isWrapper; first | (rw [if_pos (by decide +kernel)]; kernel_rfl) | (rw [if_neg (by decide +kernel)]; exact ⟨rfl, rfl⟩))
    (fun os started H enc _ F => by rw [OpenClaim.pre_eq_preRow]; exact lifted os started H enc F)

/-- The given statement. -/
theorem proved : Rows.WrapBackCardSaid :=
  Claim7.holds_tied_plain_at .later [] _ _ _ _
    over (fun _ h => by cases h) (by kernel_rfl) (fun _ h => by cases h) wrapBack_row_tie rfl ⟨rfl, rfl⟩ (by kernel_rfl) rfl
    (fun f fn hf hfn => by
      obtain rfl : f = 5 := Option.some.inj ((show Tryd.prog.funcNamed "reliquary/reliquarylaw08.WrapBack" = some 5 by kernel_rfl).symm.trans hf) |>.symm
      obtain rfl : fn = Tryd.f5 := (Option.some.inj (Tryd.func5.symm.trans hfn)).symm
      exact ⟨by kernel_rfl, fun j t ht => by
        rw [Tryd.params5] at ht
        have hm : t ∈ [23, 23, 23] := by simpa using Array.mem_of_getElem? ht
        have hall : ([23, 23, 23].all fun u => !Tryd.prog.wantsStandIn u) = true := by kernel_rfl
        exact (show Tryd.prog.wantsStandIn t = false by simpa using List.all_eq_true.1 hall t hm)⟩)
    (by kernel_rfl)
end Go.Proofs.YtjemajenfkjelaaDoor.wrapBack

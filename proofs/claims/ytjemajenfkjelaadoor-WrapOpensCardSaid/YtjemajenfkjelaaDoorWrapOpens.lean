/- WrapOpens: any sealed key, with any check, is opened, or not, as the document says; with the document's own check it is opened; and the law's closed case holds. No condition but that the listed tables (the program's two, the document's two) hold their constants when the call begins. -/
import Derived.Test.YtjemajenfkjelaaDoorRows
import Derived.Test.YtjemajenfkjelaaDoorWrapLaws
import Derived.Test.YtjemajenfkjelaaDoorLoadWanted
import Derived.Test.YtjemajenfkjelaaDoorWrapR
import Derived.Test.YtjemajenfkjelaaDoorDoorWrap
import Derived.Test.YtjemajenfkjelaaDoorTie
import Derived.Test.YtjemajenfkjelaaDoorCards
import Derived.SevenTiedAt
import Derived.Test.YtjemajenfkjelaaDoorMem
import Derived.WalkKit
import Derived.ProofKit
import Derived.OpenShut
import Derived.SizedLaws
import Derived.Carry
import Derived.Deep.DeepHandedRow
import Derived.Deep.DeepWitnessRowRef
namespace Go.Proofs.YtjemajenfkjelaaDoor.wrapOpens
open Go.ChangeShapes Go.WideShapes Go.ChangeAt Go.RowKit
open SM AM WM
theorem run_eql_i64 (a b : Int) (w : World) : (binOp .eql 3 (.int .i64 a) (.int .i64 b)).run Tryd.prog w = .ok (.bool (decide (a = b))) w := by
  go_simp
  rw [Bool.eq_iff_iff]; simp
theorem own : ownKnob Tryd.prog.godebug = none := by kernel_rfl
theorem cells23 : Tryd.prog.cellsOf 23 = 32 := by kernel_rfl
theorem cells24 : Tryd.prog.cellsOf 24 = 32 := by kernel_rfl
theorem cells5 : Tryd.prog.cellsOf 5 = 1 := by kernel_rfl
set_option linter.unusedVariables false in
set_option maxHeartbeats 4000000 in
set_option maxRecDepth 100000 in
theorem walk (w : World) (ht : TabX w ∧ Tab w ∧ TabA w ∧ TabP w) (l0 : List Nat) (h0 : Bytes 32 l0) (l1 : List Nat) (h1 : Bytes 32 l1) (l2 : List Nat) (h2 : Bytes 32 l2) :
    Calls Tryd.prog 4 #[.agg (row8 l0).toArray, .agg (row8 l1).toArray, .agg (row8 l2).toArray] w fun e w' => e = .returned (.bool true) ∧ Below w.heap.size w w' := by
  obtain ⟨TX, TK, TA, TP⟩ := ht
  obtain ⟨O, hO⟩ : ∃ Z, Z = wopen l0 l1 l2 := ⟨_, rfl⟩
  have bO : Bytes 32 O := by rw [hO]; exact wopen_bytes l0 h1 l2
  obtain ⟨r, hr⟩ : ∃ r, r = werr l0 l1 l2 := ⟨_, rfl⟩
  obtain ⟨V, hV⟩ : ∃ V, V = wcheck l0 l1 := ⟨_, rfl⟩
  have bV : Bytes 32 V := by rw [hV]; exact wcheck_bytes l0 l1
  obtain ⟨Z, hZ⟩ : ∃ Z, Z = wseal l0 l1 := ⟨_, rfl⟩
  have bZ : Bytes 32 Z := by rw [hZ]; exact wseal_bytes l0 h1
  have ho : wopen l0 l1 V = Z := by unfold wopen; rw [if_pos hV.symm, hZ]
  have hq : werr l0 l1 V = 0 := by unfold werr; rw [if_pos hV.symm]
  have hoo := fun w => run_eql_keyW bO bO w
  have hzz := fun w => run_eql_keyW bZ bZ w
  simp only [decide_true] at hoo hzz
  obtain ⟨D0, hD0⟩ : ∃ D0, D0 = row8 (List.replicate 32 0) := ⟨_, rfl⟩
  have hz : ∀ w, (zeroValue 23).run Tryd.prog w = .ok (.agg D0.toArray) w := by rw [hD0]; exact zeroKeyW
  have hz2 : ∀ w, (zeroValue 24).run Tryd.prog w = .ok (.agg D0.toArray) w := by rw [hD0]; exact zeroSumW
  have hd0 : D0.length = 32 := by rw [hD0, row8_len, List.length_replicate]
  have O32 := Lib.hid (show (row8 O).length = 32 by rw [row8_len]; exact bO.1)
  have Z32 := Lib.hid (show (row8 Z).length = 32 by rw [row8_len]; exact bZ.1)
  have V32 := Lib.hid (show (row8 V).length = 32 by rw [row8_len]; exact bV.1)
  have l032 := Lib.hid (show (row8 l0).length = 32 by rw [row8_len]; exact h0.1)
  have l132 := Lib.hid (show (row8 l1).length = 32 by rw [row8_len]; exact h1.1)
  have l232 := Lib.hid (show (row8 l2).length = 32 by rw [row8_len]; exact h2.1)
  have HO := Lib.hid (fun W (hW : Below w.heap.size w W) => popen_any l0 l1 l2 h0 h1 h2 W (TX.below hW) (TP.below hW))
  have HRO := Lib.hid (fun W (hW : Below w.heap.size w W) => rwopen_any l0 l1 l2 h0 h1 h2 W (TA.below hW) (TK.below hW))
  rw [← hO, ← hr] at HO HRO
  have HRC := Lib.hid (fun W (hW : Below w.heap.size w W) => rwcheck_any l0 l1 h0 h1 W (TK.below hW))
  rw [← hV] at HRC
  have HOV := Lib.hid (fun W (hW : Below w.heap.size w W) => popen_any l0 l1 V h0 h1 bV W (TX.below hW) (TP.below hW))
  have HRV := Lib.hid (fun W (hW : Below w.heap.size w W) => rwopen_any l0 l1 V h0 h1 bV W (TA.below hW) (TK.below hW))
  rw [ho, hq] at HOV HRV
  have HAW := Lib.hid (fun W (hW : Below w.heap.size w W) => wawake_any W (TX.below hW) (TP.below hW))
  have v1 := (Below.refl w.heap.size w).alloc (Nat.le_refl _) (.cells (row8 l0).toArray 23)
  have v2 := v1.alloc v1.size (.cells (row8 l1).toArray 23)
  have v3 := v2.alloc v2.size (.cells (row8 l2).toArray 24)
  obtain ⟨w0, hw0⟩ : ∃ W, W = (((w.alloc (.cells (row8 l0).toArray 23)).alloc (.cells (row8 l1).toArray 23)).alloc (.cells (row8 l2).toArray 24)) := ⟨_, rfl⟩
  have x0 := ((Blk.new w 23 (row8 l0) (w.heap.size) rfl).alloc (.cells (row8 l1).toArray 23)).alloc (.cells (row8 l2).toArray 24)
  have x1 := (Blk.new (w.alloc (.cells (row8 l0).toArray 23)) 23 (row8 l1) (w.heap.size + 1) (by simp)).alloc (.cells (row8 l2).toArray 24)
  have x2 := Blk.new ((w.alloc (.cells (row8 l0).toArray 23)).alloc (.cells (row8 l1).toArray 23)) 24 (row8 l2) (w.heap.size + 1 + 1) (by simp)
  rw [← hw0] at v3 x0 x1 x2
  have X00 := Lib.hid x0
  have X10 := Lib.hid x1
  have X20 := Lib.hid x2
  have W0 := Lib.hid v3
  have HW0 := Lib.hid hw0
  clear hw0 v1 v2 v3 x0 x1 x2
  have HO0 := Lib.hid (HO.out w0 W0.out)
  clear hO bO hr hV bV hZ bZ ho hq hD0 TX TK TA TP
  go_enter Tryd.func4, Tryd.ntmps4
  go_upto_region 1 with (fail)
  rw [← HW0.out]
  go_upto_region 3 with (first
    | (refine wpList_load_mid rfl 23 (.tmp 3) rfl w.heap.size 0 rfl (row8 l0) _ X00.out.range Tryd.underlying23 rfl (by rw [l032.out]; exact infoKeyL) ?_)
    | (refine wpList_load_mid rfl 23 (.tmp 4) rfl (w.heap.size + 1) 0 rfl (row8 l1) _ X10.out.range Tryd.underlying23 rfl (by rw [l132.out]; exact infoKeyL) ?_)
    | (refine wpList_load_mid rfl 24 (.tmp 5) rfl (w.heap.size + 1 + 1) 0 rfl (row8 l2) _ X20.out.range Tryd.underlying24 rfl (by rw [l232.out]; exact infoS) ?_)
    | (go_at_call 13; (with_reducible refine HO0.out.mono ?_); rintro e w1 ⟨rfl, b⟩; have W1 := Lib.hid (W0.out.on b); have X01 := Lib.hid (X00.out.below b X00.out.lt); have X11 := Lib.hid (X10.out.below b X10.out.lt); have X21 := Lib.hid (X20.out.below b X20.out.lt);  clear b)
    | (refine wpList_store_blk rfl 23 (.tmp 7) (.tmp 20) rfl w1.heap.size 0 (row8 O) rfl rfl 23 D0 (Blk.new w1 23 D0 _ rfl) (by rw [O32.out, hd0]; exact Nat.le_refl _) (by rw [O32.out]; exact infoKeyL) (row8_one _) ?_; intro w2 b g; rw [splice_all _ _ (by rw [O32.out, hd0])] at b; have hbw : Below w1.heap.size w1 w2 := alloc_turn (Below.refl _ _) g; have M2 := Lib.hid b; have W2 := Lib.hid (W1.out.on hbw); have X02 := Lib.hid (X01.out.below hbw X01.out.lt); have X12 := Lib.hid (X11.out.below hbw X11.out.lt); have X22 := Lib.hid (X21.out.below hbw X21.out.lt); have HR2 := Lib.hid (HRO.out w2 W2.out); clear b g hbw)
    | (refine wpList_load_mid rfl 23 (.tmp 3) rfl w.heap.size 0 rfl (row8 l0) _ X02.out.range Tryd.underlying23 rfl (by rw [l032.out]; exact infoKeyL) ?_)
    | (refine wpList_load_mid rfl 23 (.tmp 4) rfl (w.heap.size + 1) 0 rfl (row8 l1) _ X12.out.range Tryd.underlying23 rfl (by rw [l132.out]; exact infoKeyL) ?_)
    | (refine wpList_load_mid rfl 24 (.tmp 5) rfl (w.heap.size + 1 + 1) 0 rfl (row8 l2) _ X22.out.range Tryd.underlying24 rfl (by rw [l232.out]; exact infoS) ?_)
    | (go_at_call 14; (with_reducible refine HR2.out.mono ?_); rintro e w3 ⟨rfl, b⟩; have W3 := Lib.hid (W2.out.on b); have X03 := Lib.hid (X02.out.below b X02.out.lt); have X13 := Lib.hid (X12.out.below b X12.out.lt); have X23 := Lib.hid (X22.out.below b X22.out.lt); have M3 := Lib.hid (M2.out.below b M2.out.lt);  clear b)
    | (refine wpList_store_blk rfl 23 (.tmp 9) (.tmp 27) rfl w3.heap.size 0 (row8 O) rfl rfl 23 D0 (Blk.new w3 23 D0 _ rfl) (by rw [O32.out, hd0]; exact Nat.le_refl _) (by rw [O32.out]; exact infoKeyL) (row8_one _) ?_; intro w4 b g; rw [splice_all _ _ (by rw [O32.out, hd0])] at b; have hbw : Below w3.heap.size w3 w4 := alloc_turn (Below.refl _ _) g; have N4 := Lib.hid b; have W4 := Lib.hid (W3.out.on hbw); have X04 := Lib.hid (X03.out.below hbw X03.out.lt); have X14 := Lib.hid (X13.out.below hbw X13.out.lt); have X24 := Lib.hid (X23.out.below hbw X23.out.lt); have M4 := Lib.hid (M3.out.below hbw M3.out.lt);  clear b g hbw))
  clear HO HRO HO0 HR2 W0 W1 W2 W3
  refine wp_region_s (by kernel_rfl) 11 (by decide) (fun i => [30, 31, 32, 33, 34, 35, 29, 36, 37, 11, 11].getD i 0) (by kernel_rfl) (by kernel_rfl) (by kernel_rfl) (w4.heap.size) (Nat.le_refl _) [.val (.agg (row8 l0).toArray), .val (.agg (row8 l1).toArray), .val (.agg (row8 l0).toArray), .val (.agg (row8 l1).toArray), .val (.agg (row8 V).toArray), .val (.tuple #[.agg (row8 Z).toArray, .int .i64 0]), .val (.tuple #[.agg (row8 Z).toArray, .int .i64 0]), .val (.agg (row8 Z).toArray), .val (.int .i64 0), .blk 23 D0, .blk 23 (row8 Z)] (fun j => if j = 9 then 10 else 12) ?_ ?_
  · refine ⟨?_, ?_, ?_, ?_, ?_, ?_, ?_, ?_, ?_, ?_, ?_, trivial⟩
    · intro a w' hF hB hd
      have e3 : a.eval (.tmp 3) = .pointer (some ⟨w.heap.size, 0, none⟩) := hF 3 (by decide +kernel)
      exact DoesG.toS (doesG_wp rfl rfl fun K' hK' => wp_load_mid 23 (.tmp 3) rfl w.heap.size 0 e3 (row8 l0) _ (X04.out.below hB X04.out.lt).range Tryd.underlying23 rfl (by rw [l032.out]; exact infoKeyL) (hK' _ _ rfl (Below.refl _ _))) nofun (by decide +kernel)
    · intro a w' hF hB hd
      have e4 : a.eval (.tmp 4) = .pointer (some ⟨w.heap.size + 1, 0, none⟩) := hF 4 (by decide +kernel)
      exact DoesG.toS (doesG_wp rfl rfl fun K' hK' => wp_load_mid 23 (.tmp 4) rfl (w.heap.size + 1) 0 e4 (row8 l1) _ (X14.out.below hB X14.out.lt).range Tryd.underlying23 rfl (by rw [l132.out]; exact infoKeyL) (hK' _ _ rfl (Below.refl _ _))) nofun (by decide +kernel)
    · intro a w' hF hB hd
      have e3 : a.eval (.tmp 3) = .pointer (some ⟨w.heap.size, 0, none⟩) := hF 3 (by decide +kernel)
      exact DoesG.toS (doesG_wp rfl rfl fun K' hK' => wp_load_mid 23 (.tmp 3) rfl w.heap.size 0 e3 (row8 l0) _ (X04.out.below hB X04.out.lt).range Tryd.underlying23 rfl (by rw [l032.out]; exact infoKeyL) (hK' _ _ rfl (Below.refl _ _))) nofun (by decide +kernel)
    · intro a w' hF hB hd
      have e4 : a.eval (.tmp 4) = .pointer (some ⟨w.heap.size + 1, 0, none⟩) := hF 4 (by decide +kernel)
      exact DoesG.toS (doesG_wp rfl rfl fun K' hK' => wp_load_mid 23 (.tmp 4) rfl (w.heap.size + 1) 0 e4 (row8 l1) _ (X14.out.below hB X14.out.lt).range Tryd.underlying23 rfl (by rw [l132.out]; exact infoKeyL) (hK' _ _ rfl (Below.refl _ _))) nofun (by decide +kernel)
    · intro a w' hF hB hd
      have e32 : a.eval (.tmp 32) = .agg (row8 l0).toArray := hd 2 (by decide +kernel) (.inr (by decide))
      have e33 : a.eval (.tmp 33) = .agg (row8 l1).toArray := hd 3 (by decide +kernel) (.inr (by decide))
      exact DoesG.toS (doesG_call rfl (ex_call (vs := #[.agg (row8 l0).toArray, .agg (row8 l1).toArray]) rfl (by simp only [List.map_toArray, List.map_cons, List.map_nil, e32, e33]) (by go_simp)) rfl ((HRC.out w' (W4.out.on hB)).mono fun e w2 hh => ⟨_, hh.1, rfl, hh.2⟩)) nofun (by decide +kernel)
    · intro a w' hF hB hd
      have e30 : a.eval (.tmp 30) = .agg (row8 l0).toArray := hd 0 (by decide +kernel) (.inr (by decide))
      have e31 : a.eval (.tmp 31) = .agg (row8 l1).toArray := hd 1 (by decide +kernel) (.inr (by decide))
      have e34 : a.eval (.tmp 34) = .agg (row8 V).toArray := hd 4 (by decide +kernel) (.inr (by decide))
      exact DoesG.toS (doesG_call rfl (ex_call (vs := #[.agg (row8 l0).toArray, .agg (row8 l1).toArray, .agg (row8 V).toArray]) rfl (by simp only [List.map_toArray, List.map_cons, List.map_nil, e30, e31, e34]) (by go_simp)) rfl ((HOV.out w' (W4.out.on hB)).mono fun e w2 hh => ⟨_, hh.1, rfl, hh.2⟩)) nofun (by decide +kernel)
    · intro a w' hF hB hd
      have e35 : a.eval (.tmp 35) = .tuple #[.agg (row8 Z).toArray, .int .i64 0] := hd 5 (by decide +kernel) (.inr (by decide))
      exact DoesG.toS (doesG_val rfl (ex_move rfl e35) rfl rfl) nofun (by decide +kernel)
    · intro a w' hF hB hd
      have e29 : a.eval (.tmp 29) = .tuple #[.agg (row8 Z).toArray, .int .i64 0] := hd 6 (by decide +kernel) (.inr (by decide))
      exact DoesG.toS (doesG_val rfl (v := .agg (row8 Z).toArray) (by unfold execOp; simp only [e29]; go_simp) rfl rfl) nofun (by decide +kernel)
    · intro a w' hF hB hd
      have e29 : a.eval (.tmp 29) = .tuple #[.agg (row8 Z).toArray, .int .i64 0] := hd 6 (by decide +kernel) (.inr (by decide))
      exact DoesG.toS (doesG_val rfl (v := .int .i64 0) (by unfold execOp; simp only [e29]; go_simp) rfl rfl) nofun (by decide +kernel)
    · intro a w' hF hB hd
      exact DoesG.toS (doesG_alloc rfl 23 D0 rfl hz hB.size rfl) nofun (by decide +kernel)
    · intro a w' hF hB hd
      have e11 := hd 9 (by decide +kernel) (.inl (by decide))
      have e36 : a.eval (.tmp 36) = .agg (row8 Z).toArray := hd 7 (by decide +kernel) (.inr (by decide))
      exact doesS_store rfl 23 23 11 (.tmp 36) rfl rfl 9 (by decide +kernel) (by decide) D0 (row8 Z) rfl rfl rfl e11 e36 (by rw [Z32.out, hd0]) (by rw [Z32.out]; exact infoKeyL) (row8_one _) rfl
  · intro vs w5 hb hss hv hap
    have ee : vs 8 = .int .i64 0 := hv 8 (by decide) (by decide)
    obtain ⟨pb, eb, hbb, hbk⟩ : ∃ c, vs 10 = .pointer (some ⟨c, 0, none⟩) ∧ w4.heap.size ≤ c ∧ Blk w5 c 23 (row8 Z) := hv 10 (by decide) (by decide)
    have e9 : vs 9 = .pointer (some ⟨pb, 0, none⟩) := by rw [← eb]; exact hss 9 10 (by decide)
    simp only [List.take_succ_cons, List.take_zero, List.drop_succ_cons, List.drop_zero, putOps, Act.put, List.setIfInBounds_toArray, List.set_cons_zero, List.set_cons_succ, ee, e9]
    have W5 := Lib.hid (W4.out.on hb)
    have PB5 := Lib.hid hbk
    have X05 := Lib.hid (X04.out.below hb X04.out.lt)
    have X15 := Lib.hid (X14.out.below hb X14.out.lt)
    have M5 := Lib.hid (M4.out.below hb M4.out.lt)
    have N5 := Lib.hid (N4.out.below hb N4.out.lt)
    clear hv hap hss ee eb e9 hb hbb hbk
    generalize vs 0 = y0 at *
    generalize vs 1 = y1 at *
    generalize vs 2 = y2 at *
    generalize vs 3 = y3 at *
    generalize vs 4 = y4 at *
    generalize vs 5 = y5 at *
    generalize vs 6 = y6 at *
    generalize vs 7 = y7 at *
    go_upto_region 4 with (fail)
    clear W4
    refine wp_region_s (by kernel_rfl) 11 (by decide) (fun i => [39, 40, 41, 42, 43, 44, 38, 45, 46, 13, 13].getD i 0) (by kernel_rfl) (by kernel_rfl) (by kernel_rfl) (w5.heap.size) (Nat.le_refl _) [.val (.agg (row8 l0).toArray), .val (.agg (row8 l1).toArray), .val (.agg (row8 l0).toArray), .val (.agg (row8 l1).toArray), .val (.agg (row8 V).toArray), .val (.tuple #[.agg (row8 Z).toArray, .int .i64 0]), .val (.tuple #[.agg (row8 Z).toArray, .int .i64 0]), .val (.agg (row8 Z).toArray), .val (.int .i64 0), .blk 23 D0, .blk 23 (row8 Z)] (fun j => if j = 9 then 10 else 12) ?_ ?_
    · refine ⟨?_, ?_, ?_, ?_, ?_, ?_, ?_, ?_, ?_, ?_, ?_, trivial⟩
      · intro a w' hF hB hd
        have e3 : a.eval (.tmp 3) = .pointer (some ⟨w.heap.size, 0, none⟩) := hF 3 (by decide +kernel)
        exact DoesG.toS (doesG_wp rfl rfl fun K' hK' => wp_load_mid 23 (.tmp 3) rfl w.heap.size 0 e3 (row8 l0) _ (X05.out.below hB X05.out.lt).range Tryd.underlying23 rfl (by rw [l032.out]; exact infoKeyL) (hK' _ _ rfl (Below.refl _ _))) nofun (by decide +kernel)
      · intro a w' hF hB hd
        have e4 : a.eval (.tmp 4) = .pointer (some ⟨w.heap.size + 1, 0, none⟩) := hF 4 (by decide +kernel)
        exact DoesG.toS (doesG_wp rfl rfl fun K' hK' => wp_load_mid 23 (.tmp 4) rfl (w.heap.size + 1) 0 e4 (row8 l1) _ (X15.out.below hB X15.out.lt).range Tryd.underlying23 rfl (by rw [l132.out]; exact infoKeyL) (hK' _ _ rfl (Below.refl _ _))) nofun (by decide +kernel)
      · intro a w' hF hB hd
        have e3 : a.eval (.tmp 3) = .pointer (some ⟨w.heap.size, 0, none⟩) := hF 3 (by decide +kernel)
        exact DoesG.toS (doesG_wp rfl rfl fun K' hK' => wp_load_mid 23 (.tmp 3) rfl w.heap.size 0 e3 (row8 l0) _ (X05.out.below hB X05.out.lt).range Tryd.underlying23 rfl (by rw [l032.out]; exact infoKeyL) (hK' _ _ rfl (Below.refl _ _))) nofun (by decide +kernel)
      · intro a w' hF hB hd
        have e4 : a.eval (.tmp 4) = .pointer (some ⟨w.heap.size + 1, 0, none⟩) := hF 4 (by decide +kernel)
        exact DoesG.toS (doesG_wp rfl rfl fun K' hK' => wp_load_mid 23 (.tmp 4) rfl (w.heap.size + 1) 0 e4 (row8 l1) _ (X15.out.below hB X15.out.lt).range Tryd.underlying23 rfl (by rw [l132.out]; exact infoKeyL) (hK' _ _ rfl (Below.refl _ _))) nofun (by decide +kernel)
      · intro a w' hF hB hd
        have e41 : a.eval (.tmp 41) = .agg (row8 l0).toArray := hd 2 (by decide +kernel) (.inr (by decide))
        have e42 : a.eval (.tmp 42) = .agg (row8 l1).toArray := hd 3 (by decide +kernel) (.inr (by decide))
        exact DoesG.toS (doesG_call rfl (ex_call (vs := #[.agg (row8 l0).toArray, .agg (row8 l1).toArray]) rfl (by simp only [List.map_toArray, List.map_cons, List.map_nil, e41, e42]) (by go_simp)) rfl ((HRC.out w' (W5.out.on hB)).mono fun e w2 hh => ⟨_, hh.1, rfl, hh.2⟩)) nofun (by decide +kernel)
      · intro a w' hF hB hd
        have e39 : a.eval (.tmp 39) = .agg (row8 l0).toArray := hd 0 (by decide +kernel) (.inr (by decide))
        have e40 : a.eval (.tmp 40) = .agg (row8 l1).toArray := hd 1 (by decide +kernel) (.inr (by decide))
        have e43 : a.eval (.tmp 43) = .agg (row8 V).toArray := hd 4 (by decide +kernel) (.inr (by decide))
        exact DoesG.toS (doesG_call rfl (ex_call (vs := #[.agg (row8 l0).toArray, .agg (row8 l1).toArray, .agg (row8 V).toArray]) rfl (by simp only [List.map_toArray, List.map_cons, List.map_nil, e39, e40, e43]) (by go_simp)) rfl ((HRV.out w' (W5.out.on hB)).mono fun e w2 hh => ⟨_, hh.1, rfl, hh.2⟩)) nofun (by decide +kernel)
      · intro a w' hF hB hd
        have e44 : a.eval (.tmp 44) = .tuple #[.agg (row8 Z).toArray, .int .i64 0] := hd 5 (by decide +kernel) (.inr (by decide))
        exact DoesG.toS (doesG_val rfl (ex_move rfl e44) rfl rfl) nofun (by decide +kernel)
      · intro a w' hF hB hd
        have e38 : a.eval (.tmp 38) = .tuple #[.agg (row8 Z).toArray, .int .i64 0] := hd 6 (by decide +kernel) (.inr (by decide))
        exact DoesG.toS (doesG_val rfl (v := .agg (row8 Z).toArray) (by unfold execOp; simp only [e38]; go_simp) rfl rfl) nofun (by decide +kernel)
      · intro a w' hF hB hd
        have e38 : a.eval (.tmp 38) = .tuple #[.agg (row8 Z).toArray, .int .i64 0] := hd 6 (by decide +kernel) (.inr (by decide))
        exact DoesG.toS (doesG_val rfl (v := .int .i64 0) (by unfold execOp; simp only [e38]; go_simp) rfl rfl) nofun (by decide +kernel)
      · intro a w' hF hB hd
        exact DoesG.toS (doesG_alloc rfl 23 D0 rfl hz hB.size rfl) nofun (by decide +kernel)
      · intro a w' hF hB hd
        have e13 := hd 9 (by decide +kernel) (.inl (by decide))
        have e45 : a.eval (.tmp 45) = .agg (row8 Z).toArray := hd 7 (by decide +kernel) (.inr (by decide))
        exact doesS_store rfl 23 23 13 (.tmp 45) rfl rfl 9 (by decide +kernel) (by decide) D0 (row8 Z) rfl rfl rfl e13 e45 (by rw [Z32.out, hd0]) (by rw [Z32.out]; exact infoKeyL) (row8_one _) rfl
    · intro vs w6 hb hss hv hap
      have ee : vs 8 = .int .i64 0 := hv 8 (by decide) (by decide)
      obtain ⟨qb, eb, hbb, hbk⟩ : ∃ c, vs 10 = .pointer (some ⟨c, 0, none⟩) ∧ w5.heap.size ≤ c ∧ Blk w6 c 23 (row8 Z) := hv 10 (by decide) (by decide)
      have e9 : vs 9 = .pointer (some ⟨qb, 0, none⟩) := by rw [← eb]; exact hss 9 10 (by decide)
      simp only [List.take_succ_cons, List.take_zero, List.drop_succ_cons, List.drop_zero, putOps, Act.put, List.setIfInBounds_toArray, List.set_cons_zero, List.set_cons_succ, ee, e9]
      have W6 := Lib.hid (W5.out.on hb)
      have QB6 := Lib.hid hbk
      have X06 := Lib.hid (X05.out.below hb X05.out.lt)
      have X16 := Lib.hid (X15.out.below hb X15.out.lt)
      have M6 := Lib.hid (M5.out.below hb M5.out.lt)
      have N6 := Lib.hid (N5.out.below hb N5.out.lt)
      have PB6 := Lib.hid (PB5.out.below hb PB5.out.lt)
      clear hv hap hss ee eb e9 hb hbb hbk
      generalize vs 0 = y0 at *
      generalize vs 1 = y1 at *
      generalize vs 2 = y2 at *
      generalize vs 3 = y3 at *
      generalize vs 4 = y4 at *
      generalize vs 5 = y5 at *
      generalize vs 6 = y6 at *
      generalize vs 7 = y7 at *
      clear W5
      have HAJ := Lib.hid (HAW.out w6 W6.out)
      go_wp2_with (first
    | (refine wpList_load_mid rfl 23 (.tmp 7) rfl w1.heap.size 0 rfl (row8 O) _ M6.out.range Tryd.underlying23 rfl (by rw [O32.out]; exact infoKeyL) ?_)
    | (refine wpList_load_mid rfl 23 (.tmp 9) rfl w3.heap.size 0 rfl (row8 O) _ N6.out.range Tryd.underlying23 rfl (by rw [O32.out]; exact infoKeyL) ?_)
    | (refine wpList_load_wanted rfl 23 (.tmp 11) rfl pb 0 rfl (row8 Z) _ PB6.out.range Tryd.underlying23 rfl (by rw [Z32.out]; exact infoKeyL) ?_)
    | (refine wpList_load_wanted rfl 23 (.tmp 13) rfl qb 0 rfl (row8 Z) _ QB6.out.range Tryd.underlying23 rfl (by rw [Z32.out]; exact infoKeyL) ?_)
    | (go_at_call 12; (with_reducible refine HAJ.out.mono ?_); rintro e wz ⟨rfl, bz⟩; have WZ := Lib.hid (W6.out.on bz); clear bz))
      go_ret
      exact ⟨rfl, WZ.out⟩
set_option maxRecDepth 100000 in
theorem reads (os : Os) {H : Type} (enc : TypeId × Value → H) : ∃ places, DataW.whole enc Tryd.prog ((World.doorLaid Tryd.prog 400 os).forCall (fun _ _ => 0) ⟨#[], #[.agg (row8 (List.replicate 32 0)).toArray, .agg (row8 (List.replicate 32 0)).toArray, .agg (row8 (List.replicate 32 0)).toArray], []⟩).memory Tryd.f4.params.toList Rows.wrapOpensSpec.vars false (#[.agg (row8 (List.replicate 32 0)).toArray, .agg (row8 (List.replicate 32 0)).toArray, .agg (row8 (List.replicate 32 0)).toArray] : Array Value).toList 8 = some ([lit8 (List.replicate 32 0), lit8 (List.replicate 32 0), lit8 (List.replicate 32 0)], [], places) :=
  ⟨[], by kernel_rfl⟩
set_option linter.unusedVariables false in
set_option maxHeartbeats 1000000 in
set_option maxRecDepth 100000 in
theorem lifted (os : Os) (started : os.Started) (H : Type) (enc : TypeId × Value → H) (F : Stop.Interp) :
    ReturnsInHanded {} Tryd.checked os 4 .any ((OpenSpec.ofChange Rows.wrapOpensSpec).preRow enc Tryd.prog Tryd.f4 Rows.wrapOpensRow.domain false laidXKAPs) (((OpenSpec.ofChange Rows.wrapOpensSpec).at F).post enc Tryd.prog Tryd.f4 false true false false) := by
  obtain ⟨places, hx⟩ := reads os enc
  refine returnsInHanded_of_row (C := Tryd.checked) (s := OpenSpec.ofChange Rows.wrapOpensSpec) own started (by kernel_rfl) Tryd.func4
    (witness_row_atRef (enc := enc) (C := Tryd.checked) false (World.doorLaid Tryd.prog 400 os) #[.agg (row8 (List.replicate 32 0)).toArray, .agg (row8 (List.replicate 32 0)).toArray, .agg (row8 (List.replicate 32 0)).toArray] rfl (by kernel_rfl) (by kernel_rfl) (by kernel_rfl)
      (OpenSpec.preRow_of_cond 8 hx (by kernel_rfl) (fun k hk => by cases hk) (by kernel_rfl) (doorXKAPs_met os _))) ?_
  intro W base args ds gs before hval0 hW _ hcond hsz0 hL _ _
  have hsz : (DataW.weightsEach Tryd.prog (Tryd.f4.params.toList ++ Rows.wrapOpensSpec.plain.varTypes Tryd.prog) (ds ++ gs)).all (· ≤ reachBytes) = true := hsz0
  clear hsz0
  have hval : ∀ (j : Nat) t v, Tryd.f4.params[j]? = some t → args[j]? = some v → Value.okWide Tryd.prog W .any base t v := hval0
  have hW' := hW
  obtain ⟨p, q, hA0, hV, rfl, _, _⟩ := hW
  have hA : DataW.TrodAll enc Tryd.prog W 0 (fun _ => true) true Tryd.f4.params.toList args.toList ds p := hA0
  rw [Tryd.params4] at hA hval hsz
  obtain ⟨v0, vs0, d0, ds0, p0, q0, hargs, rfl, rfl, g0, r0⟩ := trodAll_cons hA
  obtain ⟨v1, vs1, d1, ds1, p1, q1, rfl, rfl, rfl, g1, r1⟩ := trodAll_cons r0
  obtain ⟨v2, vs2, d2, ds2, p2, q2, rfl, rfl, rfl, g2, r2⟩ := trodAll_cons r1
  obtain ⟨rfl, rfl, rfl⟩ := trodAll_nil r2
  obtain rfl : args = #[v0, v1, v2] := by cases args; simp_all
  obtain ⟨rfl, rfl⟩ := trodVars_none hV
  obtain ⟨l0, h0, rfl, rfl, rfl⟩ := open_row Tryd.underlying23 Tryd.underlying5 cells5 (hval 0 23 v0 rfl rfl) cells23 g0
  obtain ⟨l1, h1, rfl, rfl, rfl⟩ := open_row Tryd.underlying23 Tryd.underlying5 cells5 (hval 1 23 v1 rfl rfl) cells23 g1
  obtain ⟨l2, h2, rfl, rfl, rfl⟩ := open_row Tryd.underlying24 Tryd.underlying5 cells5 (hval 2 24 v2 rfl rfl) cells24 g2
  clear hA0 hval0
  have hlt := hW'.lt
  refine (walk W (tabsXKAPs_of_laid hL) l0 h0 l1 h1 l2 h2).mono fun e W' ⟨he, hb⟩ => ?_
  subst he
  have hargs : DataW.TrodAll enc Tryd.prog W' 0 (fun b => decide (b < W.heap.size)) true _ _ _ _ := (trodAll_cons_mk (shut_row Tryd.underlying23 Tryd.underlying5 cells5 cells23 h0) (trodAll_cons_mk (shut_row Tryd.underlying23 Tryd.underlying5 cells5 cells23 h1) (trodAll_cons_mk (shut_row Tryd.underlying24 Tryd.underlying5 cells5 cells24 h2) trodAll_mk0)))
  simp only [List.append_nil] at hW' hargs
  exact ⟨_, rfl, post_law hW' (trodAll_cons_mk (shut_bool Tryd.underlying4 _) trodAll_mk0) hargs rfl hb⟩

theorem over : Rows.wrapOpensRow.holds Tryd.pinned (OpenSpec.ofChange Rows.wrapOpensSpec) :=
  OpenClaim.holds_of_cond 4 Tryd.f4 rfl rfl rfl rfl rfl rfl rfl ⟨rfl, rfl, rfl, rfl, rfl⟩ rfl rfl rfl rfl rfl (by kernel_rfl) Tryd.func4 (by kernel_rfl)
    (of_decide_eq_true (by kernel_rfl)) (by unfold Func.isWrapper; first | (rw [if_pos (by decide +kernel)]; kernel_rfl) | (rw [if_neg (by decide +kernel)]; exact ⟨rfl, rfl⟩))
    (fun os started H enc _ F => by rw [OpenClaim.pre_eq_preRow]; exact lifted os started H enc F)

/-- The given statement. -/
theorem proved : Rows.WrapOpensCardSaid :=
  Claim7.holds_tied_plain_at .later [] _ _ _ _
    over (fun _ h => by cases h) (by kernel_rfl) (fun _ h => by cases h) wrapOpens_row_tie rfl ⟨rfl, rfl⟩ (by kernel_rfl) rfl
    (fun f fn hf hfn => by
      obtain rfl : f = 4 := Option.some.inj ((show Tryd.prog.funcNamed "reliquary/reliquarylaw08.WrapOpens" = some 4 by kernel_rfl).symm.trans hf) |>.symm
      obtain rfl : fn = Tryd.f4 := (Option.some.inj (Tryd.func4.symm.trans hfn)).symm
      exact ⟨by kernel_rfl, fun j t ht => by
        rw [Tryd.params4] at ht
        have hm : t ∈ [23, 23, 24] := by simpa using Array.mem_of_getElem? ht
        have hall : ([23, 23, 24].all fun u => !Tryd.prog.wantsStandIn u) = true := by kernel_rfl
        exact (show Tryd.prog.wantsStandIn t = false by simpa using List.all_eq_true.1 hall t hm)⟩)
    (by kernel_rfl)
end Go.Proofs.YtjemajenfkjelaaDoor.wrapOpens

/- AesBack: what is encrypted with any key is decrypted to what it was, and the other way round; unlike bytes are encrypted unlike; and the law's closed case holds. No condition but that the program's two tables hold their constants when the call begins. -/
import Derived.Test.YtdoifgofmlagbaaDoorRows
import Derived.Test.YtdoifgofmlagbaaDoorAesLaws
import Derived.Test.YtdoifgofmlagbaaDoorMem
import Derived.Test.YtdoifgofmlagbaaDoorDoorAes
import Derived.Test.YtdoifgofmlagbaaDoorTie
import Derived.Test.YtdoifgofmlagbaaDoorCards
import Derived.SevenTiedAt
import Derived.WalkKit
import Derived.ProofKit
import Derived.OpenShut
import Derived.SizedLaws
import Derived.Carry
import Derived.Deep.DeepHandedRow
import Derived.Deep.DeepWitnessRowRef
namespace Go.Proofs.YtdoifgofmlagbaaDoor.aesBack
open Go.ChangeShapes Go.WideShapes Go.ChangeAt Go.RowKit
open AM FM
theorem eqType16 : Tryd.prog.eqGuardType Tryd.prog.depth 28 = false := by kernel_rfl
theorem size1 (w : World) : (sizeOf 5).run Tryd.prog w = .ok 1 w := by kernel_rfl
theorem own : ownKnob Tryd.prog.godebug = none := by kernel_rfl
theorem cells27 : Tryd.prog.cellsOf 27 = 32 := by kernel_rfl
theorem cells28 : Tryd.prog.cellsOf 28 = 16 := by kernel_rfl
theorem cells5 : Tryd.prog.cellsOf 5 = 1 := by kernel_rfl
set_option linter.unusedVariables false in
set_option maxHeartbeats 4000000 in
set_option maxRecDepth 100000 in
theorem walk (w : World) (ht : TabX w ∧ TabU w) (l0 : List Nat) (h0 : Bytes 32 l0) (l1 : List Nat) (h1 : Bytes 16 l1) (l2 : List Nat) (h2 : Bytes 16 l2) :
    Calls Tryd.prog 8 #[.agg (row8 l0).toArray, .agg (row8 l1).toArray, .agg (row8 l2).toArray] w fun e w' => e = .returned (.bool true) ∧ Below w.heap.size w w' := by
  obtain ⟨S, hS⟩ : ∃ S, S = sched l0 := ⟨_, rfl⟩
  have bS : Bytes 240 S := by rw [hS]; exact sched_bytes h0.2
  have hk : ∀ n, Bytes 16 (rk S n) := fun n => rk_bytes bS.2 n
  obtain ⟨X, hX⟩ : ∃ X, X = enc (rk S) l1 := ⟨_, rfl⟩
  obtain ⟨Y, hY⟩ : ∃ Y, Y = enc (rk S) l2 := ⟨_, rfl⟩
  obtain ⟨D, hD⟩ : ∃ D, D = dec (rk S) l2 := ⟨_, rfl⟩
  have bX : Bytes 16 X := by rw [hX]; exact enc_bytes hk _
  have bY : Bytes 16 Y := by rw [hY]; exact enc_bytes hk _
  have bD : Bytes 16 D := by rw [hD]; exact dec_bytes hk h2
  have hdx : dec (rk S) X = l1 := by rw [hX]; exact dec_enc hk h1
  have hed : enc (rk S) D = l2 := by rw [hD]; exact enc_dec hk h2
  have hpq : decide (X = Y) = decide (l1 = l2) := decide_eq_decide.2 (by rw [hX, hY]; exact enc_inj hk h1 h2)
  have her := fun (x y : List Nat) (hx : Bytes 16 x) (hy : Bytes 16 y) w => run_eql_row (P := Tryd.prog) 28 5 16 Tryd.underlying28 Tryd.underlying5 size1 x y hx hy w
  have hea := her l1 l1 h1 h1
  have heb := her l2 l2 h2 h2
  have hexy := her X Y bX bY
  have heab := her l1 l2 h1 h2
  simp only [decide_true] at hea heb
  have HPQ := Lib.hid hpq
  have w1 := (Below.refl w.heap.size w).alloc (Nat.le_refl _) (.cells (row8 l0).toArray 27)
  have w2 := w1.alloc w1.size (.cells (row8 l1).toArray 28)
  have w3 := w2.alloc w2.size (.cells (row8 l2).toArray 28)
  have N1 := Lib.hid (((Blk.new w 27 (row8 l0) _ rfl).alloc (.cells (row8 l1).toArray 28)).alloc (.cells (row8 l2).toArray 28))
  have A1 := Lib.hid ((Blk.new (w.alloc (.cells (row8 l0).toArray 27)) 28 (row8 l1) (w.heap.size + 1) (by simp)).alloc (.cells (row8 l2).toArray 28))
  have B1 := Lib.hid (Blk.new ((w.alloc (.cells (row8 l0).toArray 27)).alloc (.cells (row8 l1).toArray 28)) 28 (row8 l2) (w.heap.size + 1 + 1) (by simp))
  have K32 := Lib.hid (show (row8 l0).length = 32 by rw [row8_len]; exact h0.1)
  have R1 := Lib.hid (show (row8 l1).length = 16 by rw [row8_len]; exact h1.1)
  have R2 := Lib.hid (show (row8 l2).length = 16 by rw [row8_len]; exact h2.1)
  have X16 := Lib.hid (show (row8 X).length = 16 by rw [row8_len]; exact bX.1)
  have HNW := Lib.hid (cph_new l0 h0 _ (ht.1.below w3))
  obtain ⟨D0, hD0⟩ : ∃ C0, C0 = row8 (List.replicate 16 0) := ⟨_, rfl⟩
  have hz : ∀ w, (zeroValue 28).run Tryd.prog w = .ok (.agg D0.toArray) w := by rw [hD0]; exact zero16
  have hd0 : D0.length = 16 := by rw [hD0, row8_len, List.length_replicate]
  have H1 := Lib.hid h1
  have H2 := Lib.hid h2
  have HBX := Lib.hid bX
  have HBD := Lib.hid bD
  have HX := Lib.hid ht.1
  have HU := Lib.hid ht.2
  have W3 := Lib.hid w3
  have HSS := Lib.hid hS
  have HXX := Lib.hid hX
  have HYY := Lib.hid hY
  have HDD := Lib.hid hD
  have HDX := Lib.hid hdx
  have HED := Lib.hid hed
  clear hS bS hk hX hY hD bX bY bD hdx hed hpq her w1 w2 w3 hD0 ht
  go_enter Tryd.func8, Tryd.ntmps8
  go_upto_region 5 with (first
    | (refine wpList_load_mid rfl 27 (.tmp 3) rfl w.heap.size 0 rfl (row8 l0) _ N1.out.range Tryd.underlying27 rfl (by rw [K32.out]; exact infoKey6) ?_)
    | (go_at_call 18; (with_reducible refine HNW.out.mono ?_); rintro e w4 ⟨c, hc, rfl, c4, b4⟩; have C4 := Lib.hid c4; have W4 := Lib.hid (W3.out.on b4); have A4 := Lib.hid (A1.out.below b4 A1.out.lt); have B4 := Lib.hid (B1.out.below b4 B1.out.lt); have F4 := Lib.hid (cph_enc l0 c l1 H1.out w4 c4 (HX.out.below W4.out)); rw [← HSS.out, ← HXX.out] at F4; clear b4 c4 hc)
    | (refine wpList_load_mid rfl 28 (.tmp 4) rfl (w.heap.size + 1) 0 rfl (row8 l1) _ A4.out.range Tryd.underlying28 rfl (by rw [R1.out]; exact info16) ?_)
    | (go_at_call 19; (with_reducible refine F4.out.mono ?_); rintro e w6 ⟨rfl, b6⟩; have C6 := Lib.hid (C4.out.below b6); have W6 := Lib.hid (W4.out.on b6); have A6 := Lib.hid (A4.out.below b6 A4.out.lt); have B6 := Lib.hid (B4.out.below b6 B4.out.lt); clear b6)
    | (refine wpList_store_blk rfl 28 (.tmp 8) (.tmp 15) rfl w6.heap.size 0 (row8 X) rfl rfl 28 D0 (Blk.new w6 28 D0 _ rfl) (by rw [X16.out, hd0]; exact Nat.le_refl _) (by rw [X16.out]; exact info16) (row8_one _) ?_; intro w5 b5 g5; rw [splice_all _ _ (by rw [X16.out, hd0])] at b5; have X5 := Lib.hid b5; have G5 := Lib.hid (alloc_turn (Below.refl w6.heap.size w6) g5); have W5 := Lib.hid (W6.out.on G5.out); have C5 := Lib.hid (C6.out.below G5.out); have A5 := Lib.hid (A6.out.below G5.out A6.out.lt); have B5 := Lib.hid (B6.out.below G5.out B6.out.lt); clear b5 g5))
  obtain ⟨xb, hxb⟩ : ∃ b, b = w6.heap.size := ⟨_, rfl⟩
  rw [← hxb] at X5 ⊢
  clear hxb
  have HX5 := Lib.hid (HX.out.below W5.out)
  have HU5 := Lib.hid (HU.out.below W5.out)
  have HD1 := Lib.hid (fun W (hW : Below w5.heap.size w5 W) => cph_dec l0 c X HBX.out W (C5.out.below hW) (HU5.out.below hW))
  have HD2 := Lib.hid (fun W (hW : Below w5.heap.size w5 W) => cph_dec l0 c l2 H2.out W (C5.out.below hW) (HU5.out.below hW))
  have HE2 := Lib.hid (fun W (hW : Below w5.heap.size w5 W) => cph_enc l0 c D HBD.out W (C5.out.below hW) (HX5.out.below hW))
  have HE3 := Lib.hid (fun W (hW : Below w5.heap.size w5 W) => cph_enc l0 c l2 H2.out W (C5.out.below hW) (HX5.out.below hW))
  rw [← HSS.out] at HD1 HD2 HE2 HE3
  rw [HDX.out] at HD1
  rw [← HDD.out] at HD2
  rw [HED.out] at HE2
  rw [← HYY.out] at HE3
  refine wp_region_g (by kernel_rfl) 29 (by decide) (by kernel_rfl) (by kernel_rfl) (by kernel_rfl) (w5.heap.size) (Nat.le_refl _) [.val (.pointer (some ⟨c, 0, none⟩)), .val (.agg (row8 X).toArray), .val (.agg (row8 l1).toArray), .val (.agg (row8 l1).toArray), .val (.bool true), .val (.bool true), .val (.pointer (some ⟨c, 0, none⟩)), .val (.pointer (some ⟨c, 0, none⟩)), .val (.agg (row8 l2).toArray), .val (.agg (row8 D).toArray), .val (.agg (row8 l2).toArray), .val (.agg (row8 l2).toArray), .val (.bool true), .val (.bool true), .val (.bool true), .val (.agg (row8 X).toArray), .val (.pointer (some ⟨c, 0, none⟩)), .val (.agg (row8 l2).toArray), .val (.agg (row8 Y).toArray), .val (.bool (decide (X = Y))), .val (.agg (row8 l1).toArray), .val (.agg (row8 l2).toArray), .val (.bool (decide (l1 = l2))), .val (.bool true), .val (.bool true), .val (.bool true), .val (.bool true), .val (.bool true), .val (.bool true)] (fun _ => 29) ?_ ?_
  · refine ⟨?_, ?_, ?_, ?_, ?_, ?_, ?_, ?_, ?_, ?_, ?_, ?_, ?_, ?_, ?_, ?_, ?_, ?_, ?_, ?_, ?_, ?_, ?_, ?_, ?_, ?_, ?_, ?_, ?_, trivial⟩
    · intro a w' hF hB hd
      have e7 : a.eval (.tmp 7) = .pointer (some ⟨c, 0, none⟩) := hF 7 (by decide +kernel)
      exact doesG_val rfl (ex_move rfl e7) rfl rfl
    · intro a w' hF hB hd
      have e8 : a.eval (.tmp 8) = .pointer (some ⟨xb, 0, none⟩) := hF 8 (by decide +kernel)
      exact doesG_wp rfl rfl fun K' hK' => wp_load_mid 28 (.tmp 8) rfl xb 0 e8 (row8 X) _ (X5.out.below hB X5.out.lt).range Tryd.underlying28 rfl (by rw [X16.out]; exact info16) (hK' _ _ rfl (Below.refl _ _))
    · intro a w' hF hB hd
      have e16 : a.eval (.tmp 16) = .pointer (some ⟨c, 0, none⟩) := hd 0 (by decide +kernel) (.inr (by decide))
      have e17 : a.eval (.tmp 17) = .agg (row8 X).toArray := hd 1 (by decide +kernel) (.inr (by decide))
      exact doesG_call rfl (ex_call (vs := #[.pointer (some ⟨c, 0, none⟩), .agg (row8 X).toArray]) rfl (by simp only [List.map_toArray, List.map_cons, List.map_nil, e16, e17]) (by go_simp)) rfl ((HD1.out w' hB).mono fun e w2 hh => ⟨_, hh.1, rfl, hh.2⟩)
    · intro a w' hF hB hd
      have e4 : a.eval (.tmp 4) = .pointer (some ⟨w.heap.size + 1, 0, none⟩) := hF 4 (by decide +kernel)
      exact doesG_wp rfl rfl fun K' hK' => wp_load_mid 28 (.tmp 4) rfl (w.heap.size + 1) 0 e4 (row8 l1) _ (A5.out.below hB A5.out.lt).range Tryd.underlying28 rfl (by rw [R1.out]; exact info16) (hK' _ _ rfl (Below.refl _ _))
    · intro a w' hF hB hd
      have e18 : a.eval (.tmp 18) = .agg (row8 l1).toArray := hd 2 (by decide +kernel) (.inr (by decide))
      have e19 : a.eval (.tmp 19) = .agg (row8 l1).toArray := hd 3 (by decide +kernel) (.inr (by decide))
      exact doesG_val rfl (ex_binOp rfl e18 e19 (run_eqGuard_agg (P := Tryd.prog) (w := w') .eql 28 _ _ _ _ eqType16) (hea w')) rfl rfl
    · intro a w' hF hB hd
      have e20 : a.eval (.tmp 20) = .bool true := hd 4 (by decide +kernel) (.inr (by decide))
      exact doesG_val rfl (ex_move rfl e20) rfl rfl
    · intro a w' hF hB hd
      have e21 : a.eval (.tmp 21) = .bool true := hd 5 (by decide +kernel) (.inr (by decide))
      have e7 : a.eval (.tmp 7) = .pointer (some ⟨c, 0, none⟩) := hF 7 (by decide +kernel)
      exact doesG_val (wanted_of rfl (yielded_of rfl e21)) (ex_move rfl e7) rfl rfl
    · intro a w' hF hB hd
      have e21 : a.eval (.tmp 21) = .bool true := hd 5 (by decide +kernel) (.inr (by decide))
      have e7 : a.eval (.tmp 7) = .pointer (some ⟨c, 0, none⟩) := hF 7 (by decide +kernel)
      exact doesG_val (wanted_of rfl (yielded_of rfl e21)) (ex_move rfl e7) rfl rfl
    · intro a w' hF hB hd
      have e21 : a.eval (.tmp 21) = .bool true := hd 5 (by decide +kernel) (.inr (by decide))
      have e5 : a.eval (.tmp 5) = .pointer (some ⟨w.heap.size + 1 + 1, 0, none⟩) := hF 5 (by decide +kernel)
      exact doesG_wp (wanted_of rfl (yielded_of rfl e21)) rfl fun K' hK' => wp_load_mid 28 (.tmp 5) rfl (w.heap.size + 1 + 1) 0 e5 (row8 l2) _ (B5.out.below hB B5.out.lt).range Tryd.underlying28 rfl (by rw [R2.out]; exact info16) (hK' _ _ rfl (Below.refl _ _))
    · intro a w' hF hB hd
      have e21 : a.eval (.tmp 21) = .bool true := hd 5 (by decide +kernel) (.inr (by decide))
      have e23 : a.eval (.tmp 23) = .pointer (some ⟨c, 0, none⟩) := hd 7 (by decide +kernel) (.inr (by decide))
      have e24 : a.eval (.tmp 24) = .agg (row8 l2).toArray := hd 8 (by decide +kernel) (.inr (by decide))
      exact doesG_call (wanted_of rfl (yielded_of rfl e21)) (ex_call (vs := #[.pointer (some ⟨c, 0, none⟩), .agg (row8 l2).toArray]) rfl (by simp only [List.map_toArray, List.map_cons, List.map_nil, e23, e24]) (by go_simp)) rfl ((HD2.out w' hB).mono fun e w2 hh => ⟨_, hh.1, rfl, hh.2⟩)
    · intro a w' hF hB hd
      have e21 : a.eval (.tmp 21) = .bool true := hd 5 (by decide +kernel) (.inr (by decide))
      have e22 : a.eval (.tmp 22) = .pointer (some ⟨c, 0, none⟩) := hd 6 (by decide +kernel) (.inr (by decide))
      have e25 : a.eval (.tmp 25) = .agg (row8 D).toArray := hd 9 (by decide +kernel) (.inr (by decide))
      exact doesG_call (wanted_of rfl (yielded_of rfl e21)) (ex_call (vs := #[.pointer (some ⟨c, 0, none⟩), .agg (row8 D).toArray]) rfl (by simp only [List.map_toArray, List.map_cons, List.map_nil, e22, e25]) (by go_simp)) rfl ((HE2.out w' hB).mono fun e w2 hh => ⟨_, hh.1, rfl, hh.2⟩)
    · intro a w' hF hB hd
      have e21 : a.eval (.tmp 21) = .bool true := hd 5 (by decide +kernel) (.inr (by decide))
      have e5 : a.eval (.tmp 5) = .pointer (some ⟨w.heap.size + 1 + 1, 0, none⟩) := hF 5 (by decide +kernel)
      exact doesG_wp (wanted_of rfl (yielded_of rfl e21)) rfl fun K' hK' => wp_load_mid 28 (.tmp 5) rfl (w.heap.size + 1 + 1) 0 e5 (row8 l2) _ (B5.out.below hB B5.out.lt).range Tryd.underlying28 rfl (by rw [R2.out]; exact info16) (hK' _ _ rfl (Below.refl _ _))
    · intro a w' hF hB hd
      have e21 : a.eval (.tmp 21) = .bool true := hd 5 (by decide +kernel) (.inr (by decide))
      have e26 : a.eval (.tmp 26) = .agg (row8 l2).toArray := hd 10 (by decide +kernel) (.inr (by decide))
      have e27 : a.eval (.tmp 27) = .agg (row8 l2).toArray := hd 11 (by decide +kernel) (.inr (by decide))
      exact doesG_val (wanted_of rfl (yielded_of rfl e21)) (ex_binOp rfl e26 e27 (run_eqGuard_agg (P := Tryd.prog) (w := w') .eql 28 _ _ _ _ eqType16) (heb w')) rfl rfl
    · intro a w' hF hB hd
      have e21 : a.eval (.tmp 21) = .bool true := hd 5 (by decide +kernel) (.inr (by decide))
      have e28 : a.eval (.tmp 28) = .bool true := hd 12 (by decide +kernel) (.inr (by decide))
      exact doesG_val rfl (ex_pick rfl e21 (by simp [e28])) rfl rfl
    · intro a w' hF hB hd
      have e29 : a.eval (.tmp 29) = .bool true := hd 13 (by decide +kernel) (.inr (by decide))
      exact doesG_val rfl (ex_move rfl e29) rfl rfl
    · intro a w' hF hB hd
      have e30 : a.eval (.tmp 30) = .bool true := hd 14 (by decide +kernel) (.inr (by decide))
      have e8 : a.eval (.tmp 8) = .pointer (some ⟨xb, 0, none⟩) := hF 8 (by decide +kernel)
      exact doesG_wp (wanted_of rfl (yielded_of rfl e30)) rfl fun K' hK' => wp_load_mid 28 (.tmp 8) rfl xb 0 e8 (row8 X) _ (X5.out.below hB X5.out.lt).range Tryd.underlying28 rfl (by rw [X16.out]; exact info16) (hK' _ _ rfl (Below.refl _ _))
    · intro a w' hF hB hd
      have e30 : a.eval (.tmp 30) = .bool true := hd 14 (by decide +kernel) (.inr (by decide))
      have e7 : a.eval (.tmp 7) = .pointer (some ⟨c, 0, none⟩) := hF 7 (by decide +kernel)
      exact doesG_val (wanted_of rfl (yielded_of rfl e30)) (ex_move rfl e7) rfl rfl
    · intro a w' hF hB hd
      have e30 : a.eval (.tmp 30) = .bool true := hd 14 (by decide +kernel) (.inr (by decide))
      have e5 : a.eval (.tmp 5) = .pointer (some ⟨w.heap.size + 1 + 1, 0, none⟩) := hF 5 (by decide +kernel)
      exact doesG_wp (wanted_of rfl (yielded_of rfl e30)) rfl fun K' hK' => wp_load_mid 28 (.tmp 5) rfl (w.heap.size + 1 + 1) 0 e5 (row8 l2) _ (B5.out.below hB B5.out.lt).range Tryd.underlying28 rfl (by rw [R2.out]; exact info16) (hK' _ _ rfl (Below.refl _ _))
    · intro a w' hF hB hd
      have e30 : a.eval (.tmp 30) = .bool true := hd 14 (by decide +kernel) (.inr (by decide))
      have e32 : a.eval (.tmp 32) = .pointer (some ⟨c, 0, none⟩) := hd 16 (by decide +kernel) (.inr (by decide))
      have e33 : a.eval (.tmp 33) = .agg (row8 l2).toArray := hd 17 (by decide +kernel) (.inr (by decide))
      exact doesG_call (wanted_of rfl (yielded_of rfl e30)) (ex_call (vs := #[.pointer (some ⟨c, 0, none⟩), .agg (row8 l2).toArray]) rfl (by simp only [List.map_toArray, List.map_cons, List.map_nil, e32, e33]) (by go_simp)) rfl ((HE3.out w' hB).mono fun e w2 hh => ⟨_, hh.1, rfl, hh.2⟩)
    · intro a w' hF hB hd
      have e30 : a.eval (.tmp 30) = .bool true := hd 14 (by decide +kernel) (.inr (by decide))
      have e31 : a.eval (.tmp 31) = .agg (row8 X).toArray := hd 15 (by decide +kernel) (.inr (by decide))
      have e34 : a.eval (.tmp 34) = .agg (row8 Y).toArray := hd 18 (by decide +kernel) (.inr (by decide))
      exact doesG_val (wanted_of rfl (yielded_of rfl e30)) (ex_binOp rfl e31 e34 (run_eqGuard_agg (P := Tryd.prog) (w := w') .eql 28 _ _ _ _ eqType16) (hexy w')) rfl rfl
    · intro a w' hF hB hd
      have e30 : a.eval (.tmp 30) = .bool true := hd 14 (by decide +kernel) (.inr (by decide))
      have e4 : a.eval (.tmp 4) = .pointer (some ⟨w.heap.size + 1, 0, none⟩) := hF 4 (by decide +kernel)
      exact doesG_wp (wanted_of rfl (yielded_of rfl e30)) rfl fun K' hK' => wp_load_mid 28 (.tmp 4) rfl (w.heap.size + 1) 0 e4 (row8 l1) _ (A5.out.below hB A5.out.lt).range Tryd.underlying28 rfl (by rw [R1.out]; exact info16) (hK' _ _ rfl (Below.refl _ _))
    · intro a w' hF hB hd
      have e30 : a.eval (.tmp 30) = .bool true := hd 14 (by decide +kernel) (.inr (by decide))
      have e5 : a.eval (.tmp 5) = .pointer (some ⟨w.heap.size + 1 + 1, 0, none⟩) := hF 5 (by decide +kernel)
      exact doesG_wp (wanted_of rfl (yielded_of rfl e30)) rfl fun K' hK' => wp_load_mid 28 (.tmp 5) rfl (w.heap.size + 1 + 1) 0 e5 (row8 l2) _ (B5.out.below hB B5.out.lt).range Tryd.underlying28 rfl (by rw [R2.out]; exact info16) (hK' _ _ rfl (Below.refl _ _))
    · intro a w' hF hB hd
      have e30 : a.eval (.tmp 30) = .bool true := hd 14 (by decide +kernel) (.inr (by decide))
      have e36 : a.eval (.tmp 36) = .agg (row8 l1).toArray := hd 20 (by decide +kernel) (.inr (by decide))
      have e37 : a.eval (.tmp 37) = .agg (row8 l2).toArray := hd 21 (by decide +kernel) (.inr (by decide))
      exact doesG_val (wanted_of rfl (yielded_of rfl e30)) (ex_binOp rfl e36 e37 (run_eqGuard_agg (P := Tryd.prog) (w := w') .eql 28 _ _ _ _ eqType16) (heab w')) rfl rfl
    · intro a w' hF hB hd
      have e30 : a.eval (.tmp 30) = .bool true := hd 14 (by decide +kernel) (.inr (by decide))
      have e35 : a.eval (.tmp 35) = .bool (decide (X = Y)) := hd 19 (by decide +kernel) (.inr (by decide))
      have e38 : a.eval (.tmp 38) = .bool (decide (l1 = l2)) := hd 22 (by decide +kernel) (.inr (by decide))
      exact doesG_val (wanted_of rfl (yielded_of rfl e30)) (ex_binOp rfl e35 e38 (by go_simp) (by rw [HPQ.out, run_eql_bool, decide_eq_true rfl])) rfl rfl
    · intro a w' hF hB hd
      have e30 : a.eval (.tmp 30) = .bool true := hd 14 (by decide +kernel) (.inr (by decide))
      have e39 : a.eval (.tmp 39) = .bool true := hd 23 (by decide +kernel) (.inr (by decide))
      exact doesG_val rfl (ex_pick rfl e30 (by simp [e39])) rfl rfl
    · intro a w' hF hB hd
      have e40 : a.eval (.tmp 40) = .bool true := hd 24 (by decide +kernel) (.inr (by decide))
      exact doesG_val rfl (ex_move rfl e40) rfl rfl
    · intro a w' hF hB hd
      have e41 : a.eval (.tmp 41) = .bool true := hd 25 (by decide +kernel) (.inr (by decide))
      exact doesG_call (wanted_of rfl (yielded_of rfl e41)) (ex_call (vs := #[]) rfl (by simp) (by go_simp)) rfl ((aawake_any w' (HX5.out.below hB)).mono fun e w2 hh => ⟨_, hh.1, rfl, hh.2⟩)
    · intro a w' hF hB hd
      have e41 : a.eval (.tmp 41) = .bool true := hd 25 (by decide +kernel) (.inr (by decide))
      have e42 : a.eval (.tmp 42) = .bool true := hd 26 (by decide +kernel) (.inr (by decide))
      exact doesG_val rfl (ex_pick rfl e41 (by simp [e42])) rfl rfl
    · intro a w' hF hB hd
      have e43 : a.eval (.tmp 43) = .bool true := hd 27 (by decide +kernel) (.inr (by decide))
      exact doesG_val rfl (ex_assign rfl e43) rfl rfl
  · intro vs w2 hb hv hap
    have e2 : vs 28 = .bool true := hv 28 (by decide) (by decide)
    simp only [List.take_succ_cons, List.take_zero, List.drop_succ_cons, List.drop_zero, putOps, Act.put, List.setIfInBounds_toArray, List.set_cons_zero, List.set_cons_succ, e2]
    have HB := Lib.hid (W5.out.on hb)
    clear hv hap e2 hb
    go_wp2_with fail
    go_ret
    exact ⟨rfl, HB.out⟩
set_option maxRecDepth 100000 in
theorem reads (os : Os) {H : Type} (enc : TypeId × Value → H) : ∃ places, DataW.whole enc Tryd.prog ((World.doorLaid Tryd.prog 400 os).forCall (fun _ _ => 0) ⟨#[], #[.agg (row8 (List.replicate 32 0)).toArray, .agg (row8 (List.replicate 16 0)).toArray, .agg (row8 (List.replicate 16 0)).toArray], []⟩).memory Tryd.f8.params.toList Rows.aesBackSpec.vars false (#[.agg (row8 (List.replicate 32 0)).toArray, .agg (row8 (List.replicate 16 0)).toArray, .agg (row8 (List.replicate 16 0)).toArray] : Array Value).toList 8 = some ([lit8 (List.replicate 32 0), lit8 (List.replicate 16 0), lit8 (List.replicate 16 0)], [], places) :=
  ⟨[], by kernel_rfl⟩
set_option linter.unusedVariables false in
set_option maxHeartbeats 1000000 in
set_option maxRecDepth 100000 in
theorem lifted (os : Os) (started : os.Started) (H : Type) (enc : TypeId × Value → H) (F : Stop.Interp) :
    ReturnsInHanded {} Tryd.checked os 8 .any ((OpenSpec.ofChange Rows.aesBackSpec).preRow enc Tryd.prog Tryd.f8 Rows.aesBackRow.domain false laidXU) (((OpenSpec.ofChange Rows.aesBackSpec).at F).post enc Tryd.prog Tryd.f8 false true false false) := by
  obtain ⟨places, hx⟩ := reads os enc
  refine returnsInHanded_of_row (C := Tryd.checked) (s := OpenSpec.ofChange Rows.aesBackSpec) own started (by kernel_rfl) Tryd.func8
    (witness_row_atRef (enc := enc) (C := Tryd.checked) false (World.doorLaid Tryd.prog 400 os) #[.agg (row8 (List.replicate 32 0)).toArray, .agg (row8 (List.replicate 16 0)).toArray, .agg (row8 (List.replicate 16 0)).toArray] rfl (by kernel_rfl) (by kernel_rfl) (by kernel_rfl)
      (OpenSpec.preRow_of_cond 8 hx (by kernel_rfl) (fun k hk => by cases hk) (by kernel_rfl) (doorXU_met os _))) ?_
  intro W base args ds gs before hval0 hW _ hcond hsz0 hL _ _
  have hsz : (DataW.weightsEach Tryd.prog (Tryd.f8.params.toList ++ Rows.aesBackSpec.plain.varTypes Tryd.prog) (ds ++ gs)).all (· ≤ reachBytes) = true := hsz0
  clear hsz0
  have hval : ∀ (j : Nat) t v, Tryd.f8.params[j]? = some t → args[j]? = some v → Value.okWide Tryd.prog W .any base t v := hval0
  have hW' := hW
  obtain ⟨p, q, hA0, hV, rfl, _, _⟩ := hW
  have hA : DataW.TrodAll enc Tryd.prog W 0 (fun _ => true) true Tryd.f8.params.toList args.toList ds p := hA0
  rw [Tryd.params8] at hA hval hsz
  obtain ⟨v0, vs0, d0, ds0, p0, q0, hargs, rfl, rfl, g0, r0⟩ := trodAll_cons hA
  obtain ⟨v1, vs1, d1, ds1, p1, q1, rfl, rfl, rfl, g1, r1⟩ := trodAll_cons r0
  obtain ⟨v2, vs2, d2, ds2, p2, q2, rfl, rfl, rfl, g2, r2⟩ := trodAll_cons r1
  obtain ⟨rfl, rfl, rfl⟩ := trodAll_nil r2
  obtain rfl : args = #[v0, v1, v2] := by cases args; simp_all
  obtain ⟨rfl, rfl⟩ := trodVars_none hV
  obtain ⟨l0, h0, rfl, rfl, rfl⟩ := open_row Tryd.underlying27 Tryd.underlying5 cells5 (hval 0 27 v0 rfl rfl) cells27 g0
  obtain ⟨l1, h1, rfl, rfl, rfl⟩ := open_row Tryd.underlying28 Tryd.underlying5 cells5 (hval 1 28 v1 rfl rfl) cells28 g1
  obtain ⟨l2, h2, rfl, rfl, rfl⟩ := open_row Tryd.underlying28 Tryd.underlying5 cells5 (hval 2 28 v2 rfl rfl) cells28 g2
  clear hA0 hval0
  have hlt := hW'.lt
  refine (walk W (tabsXU_of_laid hL) l0 h0 l1 h1 l2 h2).mono fun e W' ⟨he, hb⟩ => ?_
  subst he
  have hargs : DataW.TrodAll enc Tryd.prog W' 0 (fun b => decide (b < W.heap.size)) true _ _ _ _ := (trodAll_cons_mk (shut_row Tryd.underlying27 Tryd.underlying5 cells5 cells27 h0) (trodAll_cons_mk (shut_row Tryd.underlying28 Tryd.underlying5 cells5 cells28 h1) (trodAll_cons_mk (shut_row Tryd.underlying28 Tryd.underlying5 cells5 cells28 h2) trodAll_mk0)))
  simp only [List.append_nil] at hW' hargs
  exact ⟨_, rfl, post_law hW' (trodAll_cons_mk (shut_bool Tryd.underlying4 _) trodAll_mk0) hargs rfl hb⟩

theorem over : Rows.aesBackRow.holds Tryd.pinned (OpenSpec.ofChange Rows.aesBackSpec) :=
  OpenClaim.holds_of_cond 8 Tryd.f8 rfl rfl rfl rfl rfl rfl rfl ⟨rfl, rfl, rfl, rfl, rfl⟩ rfl rfl rfl rfl rfl (by kernel_rfl) Tryd.func8 (by kernel_rfl)
    (of_decide_eq_true (by kernel_rfl)) (by unfold Func.isWrapper; first | (rw [if_pos (by decide +kernel)]; kernel_rfl) | (rw [if_neg (by decide +kernel)]; exact ⟨rfl, rfl⟩))
    (fun os started H enc _ F => by rw [OpenClaim.pre_eq_preRow]; exact lifted os started H enc F)

/-- The given statement. -/
theorem proved : Rows.AesBackCardSaid :=
  Claim7.holds_tied_plain_at .later [] _ _ _ _
    over (fun _ h => by cases h) (by kernel_rfl) (fun _ h => by cases h) aesBack_row_tie rfl ⟨rfl, rfl⟩ (by kernel_rfl) rfl
    (fun f fn hf hfn => by
      obtain rfl : f = 8 := Option.some.inj ((show Tryd.prog.funcNamed "reliquary/reliquarylaw06.AesBack" = some 8 by kernel_rfl).symm.trans hf) |>.symm
      obtain rfl : fn = Tryd.f8 := (Option.some.inj (Tryd.func8.symm.trans hfn)).symm
      exact ⟨by kernel_rfl, fun j t ht => by
        rw [Tryd.params8] at ht
        have hm : t ∈ [27, 28, 28] := by simpa using Array.mem_of_getElem? ht
        have hall : ([27, 28, 28].all fun u => !Tryd.prog.wantsStandIn u) = true := by kernel_rfl
        exact (show Tryd.prog.wantsStandIn t = false by simpa using List.all_eq_true.1 hall t hm)⟩)
    (by kernel_rfl)
end Go.Proofs.YtdoifgofmlagbaaDoor.aesBack

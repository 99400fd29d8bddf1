/- EntropyCuts: however it is drawn, the same bytes come in the same order, and the first ones are those of a sum; and the law's closed case holds. No condition but that the program's table holds its constants when the call begins. -/
import Derived.Test.YtdiljngokbfpcaaDoorRows
import Derived.Test.YtdiljngokbfpcaaDoorEntLaws
import Derived.Test.YtdiljngokbfpcaaDoorU16
import Derived.Test.YtdiljngokbfpcaaDoorRdsThree
import Derived.Test.YtdiljngokbfpcaaDoorBlkRd
import Derived.Test.YtdiljngokbfpcaaDoorMakeG
import Derived.Test.YtdiljngokbfpcaaDoorShaC
import Derived.Test.YtdiljngokbfpcaaDoorTie
import Derived.Test.YtdiljngokbfpcaaDoorCards
import Derived.SevenTiedAt
import Derived.Test.YtdiljngokbfpcaaDoorMem
import Derived.WalkKit
import Derived.ProofKit
import Derived.OpenShut
import Derived.SizedLaws
import Derived.Carry
import Derived.Deep.DeepHandedRow
import Derived.Deep.DeepWitnessRowRef
namespace Go.Proofs.YtdiljngokbfpcaaDoor.entropyCuts
open Go.ChangeShapes Go.WideShapes Go.ChangeAt Go.RowKit

theorem own : ownKnob Tryd.prog.godebug = none := by kernel_rfl
set_option linter.unusedVariables false in
set_option maxHeartbeats 4000000 in
set_option maxRecDepth 100000 in
theorem walk (w : World) (ht : TabP w) (v0 : Value) (l0 : List Nat) (h0 : Rd w v0 l0) (a1 : Int) (w1 : (Lit.int .u16 a1).wf = true) (a2 : Int) (w2 : (Lit.int .u16 a2).wf = true) :
    Calls Tryd.prog 4 #[v0, .int .u16 a1, .int .u16 a2] w fun e w' => e = .returned (.bool true) ∧ Below w.heap.size w w' := by
  obtain ⟨a0, c0, rfl, _⟩ := h0.shape
  obtain ⟨na, hna, rfl⟩ := u16_nat w1
  obtain ⟨nb, hnb, rfl⟩ := u16_nat w2
  obtain ⟨m, hm⟩ : ∃ m, m = na % 500 := ⟨_, rfl⟩
  obtain ⟨n, hn⟩ : ∃ n, n = nb % 500 := ⟨_, rfl⟩
  have hmI : ((na : Nat) : Int) % 500 = (m : Int) := by omega
  have hnI : ((nb : Nat) : Int) % 500 = (n : Int) := by omega
  have hm2 : m < 500 := by omega
  have hn2 : n < 500 := by omega
  obtain ⟨c, hc⟩ : ∃ c, c = m + n := ⟨_, rfl⟩
  have hcI : (m : Int) + (n : Int) = (c : Int) := by omega
  have HT := Lib.hid ht
  have HF := Lib.hid h0.fits
  have HV := Lib.hid h0
  have HN := Lib.hid (psnew_any l0 _ w h0 ht)
  have HN2 := Lib.hid (fun W (hW : Below w.heap.size w W) => psnew_any l0 _ W (h0.below hW) (ht.below hW))
  obtain ⟨X, hX⟩ : ∃ X, X = EM.drawn l0 0 m := ⟨_, rfl⟩
  obtain ⟨Y, hY⟩ : ∃ X, X = EM.drawn l0 m n := ⟨_, rfl⟩
  have hXY : EM.drawn l0 0 c = X ++ Y := by have h := EM.drawn_app l0 0 m n; rw [hc, hX, hY, ← h, Nat.zero_add]
  obtain ⟨P, hP⟩ : ∃ P, P = EM.part l0 0 := ⟨_, rfl⟩
  have hP2 : P = SM.sha ([l0, EM.use, List.replicate 8 0].flatten) := by
    rw [hP]; unfold EM.part
    rw [show be 0 8 = List.replicate 8 0 by decide]
    congr 1; simp
  have HX := Lib.hid hX
  have HY := Lib.hid hY
  have HXY := Lib.hid hXY
  have HP2 := Lib.hid hP2
  obtain ⟨k, hk⟩ : ∃ k, k = min 32 c := ⟨_, rfl⟩
  obtain ⟨K, hK⟩ : ∃ K, K = P.take k := ⟨_, rfl⟩
  have HKX := Lib.hid (show (X ++ Y).take k = K by
    rw [← hXY, hK, hP, EM.part_drawn, Nat.mul_zero]
    have e1 := EM.drawn_cut l0 0 0 k c (by omega)
    have e2 := EM.drawn_cut l0 0 0 k 32 (by omega)
    rw [List.drop_zero] at e1 e2
    rw [e1, e2])
  have HK := Lib.hid hk
  have HKK := Lib.hid hK
  have HK32 := Lib.hid (show k ≤ 32 by omega)
  have HKC := Lib.hid (show k ≤ c by omega)
  have HC := Lib.hid hc
  have HAW := Lib.hid (fun W (hW : Below w.heap.size w W) => eawake_any W (ht.below hW))
  have XL := Lib.hid (show (X ++ Y).length = c by rw [← hXY]; exact EM.drawn_len _ _ _)
  have bP : Bytes 32 P := by rw [hP]; exact EM.part_bytes _ _
  have HPB := Lib.hid bP
  have P32 := Lib.hid (show (row8 P).length = 32 by rw [row8_len]; exact bP.1)
  obtain ⟨D0, hD0⟩ : ∃ D, D = row8 (List.replicate 32 0) := ⟨_, rfl⟩
  have hz : ∀ w, (zeroValue 39).run Tryd.prog w = .ok (.agg D0.toArray) w := by rw [hD0]; exact zeroSum
  have hd0 : D0.length = 32 := by rw [hD0, row8_len, List.length_replicate]
  clear hX hY hXY hP hP2 hk hK hc hm hn ht h0 bP hD0
  go_enter Tryd.func4, Tryd.ntmps4
  go_upto_region 2 with (fail)
  rw [hmI, hnI]
  clear hmI hnI
  go_upto_region 6 with (first
    | (go_at_call 7; (with_reducible refine HN.out.mono ?_); rintro e w2 ⟨x, g, hx, hg, rfl, s2, b2⟩; have GX := Lib.hid hx; have S2 := Lib.hid s2; have B2 := Lib.hid b2; have hlx := s2.blk.lt; have hlg := s2.inn.lt; have LX := Lib.hid hlx; have LG := Lib.hid hlg; have HN3 := Lib.hid (HN2.out w2 b2); clear hx hg s2 b2 hlx hlg HN)
    | (go_at_call 7; (with_reducible refine HN3.out.mono ?_); rintro e w3 ⟨y, f, hy, hf, rfl, s3, b3⟩; have GY := Lib.hid (show w.heap.size ≤ y by have := B2.out.size; omega); have T3 := Lib.hid s3; have S3 := Lib.hid (S2.out.below b3); have B3 := Lib.hid (B2.out.on b3); have NYX := Lib.hid (show y ≠ x by have := LX.out; omega); have NFX := Lib.hid (show f ≠ x by have := LX.out; omega); have NXY := Lib.hid (show x ≠ y by have := LX.out; omega); have LX3 := Lib.hid (show x < w3.heap.size by have := LX.out; have := b3.size; omega); have LY3 := Lib.hid s3.blk.lt; have HD := Lib.hid (pdraw_own m (by omega) (by omega) HF.out S3.out (HT.out.below B3.out) B3.out GX.out); rw [Nat.zero_add, ← HX.out] at HD; clear hy hf s3 b3 HN3 HN2)
    | (go_at_call 8; (with_reducible refine HD.out.mono ?_); rintro e w4 ⟨a4, c4, rfl, o4, s4, g4, b4⟩; have RX4 := Lib.hid o4; have S4 := Lib.hid s4; have T4 := Lib.hid (T3.out.grown g4 (fun e => NYX.out (Option.some.inj e)) (fun e => NFX.out (Option.some.inj e))); have B4 := Lib.hid b4; have Z4 := Lib.hid g4.size; have HD2 := Lib.hid (pdraw_own n (by omega) (by omega) HF.out S4.out (HT.out.below B4.out) B4.out GX.out); rw [← HY.out] at HD2; clear o4 s4 g4 b4 HD)
    | (go_at_call 8; (with_reducible refine HD2.out.mono ?_); rintro e w5 ⟨a5, c5, rfl, o5, s5, g5, b5⟩; have RY5 := Lib.hid o5; have RX5 := Lib.hid (RX4.out.keep g5 (.inr fun e => by have := (RX4.out.from _ e).1; have := LX3.out; omega)); have T5 := Lib.hid (T4.out.grown g5 (fun e => NYX.out (Option.some.inj e)) (fun e => NFX.out (Option.some.inj e))); have B5 := Lib.hid b5; have Z5 := Lib.hid (Nat.le_trans Z4.out g5.size); have HD3 := Lib.hid (pdraw_own c (by have := HC.out; omega) (by omega) HF.out T5.out (HT.out.below B5.out) B5.out GY.out); rw [HXY.out] at HD3; clear o5 s5 g5 b5 HD2)
    | (go_at_call 8; (with_reducible refine HD3.out.mono ?_); rintro e w6 ⟨a6, c6, rfl, o6, s6, g6, b6⟩; obtain ⟨_, cz, q, hcz⟩ := o6.rd.shape; have hc6 : c6 = cz := (Value.slice.inj q).2.2; rw [← hc6, XL.out] at hcz; have HCZ := Lib.hid hcz; have RZ6 := Lib.hid o6; have RX6 := Lib.hid (RX5.out.keep g6 (.inr fun e => by have := (RX5.out.from _ e).1; have := LY3.out; omega)); have RY6 := Lib.hid (RY5.out.keep g6 (.inr fun e => by have := (RY5.out.from _ e).1; have := LY3.out; have := Z4.out; omega)); have B6 := Lib.hid b6; clear o6 s6 g6 b6 HD3 hcz hc6 q))
  have kc := fun (C : Array Value) (n c : Nat) => Lib.run_convert_bytes_const (P := Tryd.prog) w6 22 5 C n c Tryd.underlying22 Tryd.underlying5
  have ru : Rd (w6.alloc (.cells #[.int .u8 100, .int .u8 114, .int .u8 97, .int .u8 119] 5 (4, 5))) (.slice (some ⟨w6.heap.size, 0, none⟩) 4 4) EM.use := rd_const w6 EM.use EM.use_byte (by decide) 4 rfl _ rfl (4, 5)
  obtain ⟨Wm, hmk, om, bm⟩ := run_make_bytes (w6.alloc (.cells #[.int .u8 100, .int .u8 114, .int .u8 97, .int .u8 119] 5 (4, 5))) w.heap.size (B6.out.alloc B6.out.size (.cells #[.int .u8 100, .int .u8 114, .int .u8 97, .int .u8 119] 5 (4, 5))).size 8 (by omega)
  rw [World.size_alloc] at hmk om
  replace hmk : (Instr.makeSlice 22 (.int .i64 8) (.int .i64 8)).run Tryd.prog (w6.alloc (.cells #[.int .u8 100, .int .u8 114, .int .u8 97, .int .u8 119] 5 (4, 5))) = .ok (.slice (some ⟨w6.heap.size + 1, 0, none⟩) 8 8) Wm := hmk
  have bm6 : Below w6.heap.size w6 Wm := ((Below.refl _ w6).alloc (Nat.le_refl _) _).on bm
  have r3 := rds_three ((HV.out.below B6.out).below bm6) (ru.below bm) om.rd (b := Wm.heap.size) rfl
  have HOF := Lib.hid (of_any [l0, EM.use, List.replicate 8 0] (by have := HF.out; simp [EM.use]; omega) _ _ r3 ((HT.out.below (B6.out.on bm6)).below ((Below.refl _ Wm).alloc (Nat.le_refl _) _)))
  rw [← HP2.out] at HOF
  have HBM := Lib.hid (bm6.on ((Below.refl _ Wm).alloc (Nat.le_refl _) (.cells #[.slice a0 l0.length c0, .slice (some ⟨w6.heap.size, 0, none⟩) 4 4, .slice (some ⟨w6.heap.size + 1, 0, none⟩) 8 8] 22)))
  clear ru om bm bm6 r3
  go_upto_region 7 with (first
    | (go_at_call 11; refine HOF.out.mono ?_; rintro e w7 ⟨rfl, b7⟩; have b67 := HBM.out.on b7; have B7 := Lib.hid (B6.out.on b67); have RX7 := Lib.hid (RX6.out.below b67); have RY7 := Lib.hid (RY6.out.below b67); have RZ7 := Lib.hid (RZ6.out.below b67); clear b7 b67 HOF)
    | (refine wpList_store_blk rfl 39 (.tmp 17) (.tmp 54) rfl w7.heap.size 0 (row8 P) rfl rfl 39 D0 (Blk.new w7 39 D0 _ rfl) (by rw [P32.out, hd0]; exact Nat.le_refl _) (by rw [P32.out]; exact infoS) (row8_one _) ?_; intro w8 b8 g8; rw [splice_all _ _ (by rw [P32.out, hd0])] at b8; have K8 := Lib.hid b8; have h78 := own_turn (Below.refl w7.heap.size w7) g8; have B8 := Lib.hid (B7.out.on h78); have RX8 := Lib.hid (RX7.out.below h78); have RY8 := Lib.hid (RY7.out.below h78); have RZ8 := Lib.hid (RZ7.out.below h78); clear b8 g8 h78))
  try simp only [put_none]
  have hsp : (c < 32 ∧ (k : Int) = (c : Int)) ∨ (¬ (c < 32) ∧ (k : Int) = 32) := by have := HK.out; omega
  rcases hsp with ⟨h32, hk⟩ | ⟨h32, hk⟩
  all_goals (
    have HKI := Lib.hid hk
    clear hk
    go_upto_region 8 with (fail)
    rw [← HKI.out]
    clear h32 hz hd0 hmk kc
    have RF8 := Lib.hid (show Rd w8 (.slice (some ⟨w7.heap.size, 0, none⟩) k 32) K by
      have h := blk_rd_at K8.out HPB.out.2 0 k 32 (by rw [HPB.out.1]; have := HK32.out; omega) HK32.out (by rw [HPB.out.1]; omega)
      rw [List.drop_zero, ← HKK.out] at h; exact h)
    have RK8 := Lib.hid (show Rd w8 (.slice a6 k c6) K by
      have h := RZ8.out.rd.take k (by rw [XL.out]; exact HKC.out)
      rw [HKX.out] at h; exact h)
    refine wp_region_g (by kernel_rfl) 40 (by decide) (by kernel_rfl) (by kernel_rfl) (by kernel_rfl) (w8.heap.size) (Nat.le_refl _) [.val (.int .i64 0), .val (.bool true), .val (.bool true), .val (.int .i64 0), .val (.bool true), .val (.bool true), .val (.bool true), .val (.int .i64 0), .val (.bool true), .val (.bool true), .val (.bool true), .val (.slice a4 m c4), .val (.string (bstr X)), .val (.slice a5 n c5), .val (.string (bstr Y)), .val (.string (bstr (X ++ Y))), .val (.slice a6 c c6), .val (.string (bstr (X ++ Y))), .val (.bool true), .val (.bool true), .val (.bool true), .val (.slice a4 m c4), .val (.int .i64 (m : Int)), .val (.int .i64 (m : Int)), .val (.bool true), .val (.bool true), .val (.bool true), .val (.slice a6 c c6), .val (.int .i64 (k : Int)), .val (.slice a6 k c6), .val (.string (bstr K)), .val (.int .i64 (k : Int)), .val (.slice (some ⟨w7.heap.size, 0, none⟩) k 32), .val (.string (bstr K)), .val (.bool true), .val (.bool true), .val (.bool true), .val (.bool true), .val (.bool true), .val (.bool true)] (fun _ => 40) ?_ ?_
    · refine ⟨?_, ?_, ?_, ?_, ?_, ?_, ?_, ?_, ?_, ?_, ?_, ?_, ?_, ?_, ?_, ?_, ?_, ?_, ?_, ?_, ?_, ?_, ?_, ?_, ?_, ?_, ?_, ?_, ?_, ?_, ?_, ?_, ?_, ?_, ?_, ?_, ?_, ?_, ?_, ?_, trivial⟩
      · intro a w' hF hB hd
        have e12 : a.eval (.tmp 12) = .int .i64 0 := hF 12 (by decide +kernel)
        exact doesG_val rfl (ex_move rfl e12) rfl rfl
      · intro a w' hF hB hd
        have e58 : a.eval (.tmp 58) = .int .i64 0 := hd 0 (by decide +kernel) (.inr (by decide))
        exact doesG_val rfl (ex_binOp rfl e58 rfl (by go_simp) (by go_simp)) rfl rfl
      · intro a w' hF hB hd
        have e59 : a.eval (.tmp 59) = .bool true := hd 1 (by decide +kernel) (.inr (by decide))
        exact doesG_val rfl (ex_move rfl e59) rfl rfl
      · intro a w' hF hB hd
        have e60 : a.eval (.tmp 60) = .bool true := hd 2 (by decide +kernel) (.inr (by decide))
        have e14 : a.eval (.tmp 14) = .int .i64 0 := hF 14 (by decide +kernel)
        exact doesG_val (wanted_of rfl (yielded_of rfl e60)) (ex_move rfl e14) rfl rfl
      · intro a w' hF hB hd
        have e60 : a.eval (.tmp 60) = .bool true := hd 2 (by decide +kernel) (.inr (by decide))
        have e61 : a.eval (.tmp 61) = .int .i64 0 := hd 3 (by decide +kernel) (.inr (by decide))
        exact doesG_val (wanted_of rfl (yielded_of rfl e60)) (ex_binOp rfl e61 rfl (by go_simp) (by go_simp)) rfl rfl
      · intro a w' hF hB hd
        have e60 : a.eval (.tmp 60) = .bool true := hd 2 (by decide +kernel) (.inr (by decide))
        have e62 : a.eval (.tmp 62) = .bool true := hd 4 (by decide +kernel) (.inr (by decide))
        exact doesG_val rfl (ex_pick rfl e60 (by simp [e62])) rfl rfl
      · intro a w' hF hB hd
        have e63 : a.eval (.tmp 63) = .bool true := hd 5 (by decide +kernel) (.inr (by decide))
        exact doesG_val rfl (ex_move rfl e63) rfl rfl
      · intro a w' hF hB hd
        have e64 : a.eval (.tmp 64) = .bool true := hd 6 (by decide +kernel) (.inr (by decide))
        have e16 : a.eval (.tmp 16) = .int .i64 0 := hF 16 (by decide +kernel)
        exact doesG_val (wanted_of rfl (yielded_of rfl e64)) (ex_move rfl e16) rfl rfl
      · intro a w' hF hB hd
        have e64 : a.eval (.tmp 64) = .bool true := hd 6 (by decide +kernel) (.inr (by decide))
        have e65 : a.eval (.tmp 65) = .int .i64 0 := hd 7 (by decide +kernel) (.inr (by decide))
        exact doesG_val (wanted_of rfl (yielded_of rfl e64)) (ex_binOp rfl e65 rfl (by go_simp) (by go_simp)) rfl rfl
      · intro a w' hF hB hd
        have e64 : a.eval (.tmp 64) = .bool true := hd 6 (by decide +kernel) (.inr (by decide))
        have e66 : a.eval (.tmp 66) = .bool true := hd 8 (by decide +kernel) (.inr (by decide))
        exact doesG_val rfl (ex_pick rfl e64 (by simp [e66])) rfl rfl
      · intro a w' hF hB hd
        have e67 : a.eval (.tmp 67) = .bool true := hd 9 (by decide +kernel) (.inr (by decide))
        exact doesG_val rfl (ex_move rfl e67) rfl rfl
      · intro a w' hF hB hd
        have e68 : a.eval (.tmp 68) = .bool true := hd 10 (by decide +kernel) (.inr (by decide))
        have e11 : a.eval (.tmp 11) = .slice a4 m c4 := hF 11 (by decide +kernel)
        exact doesG_val (wanted_of rfl (yielded_of rfl e68)) (ex_move rfl e11) rfl rfl
      · intro a w' hF hB hd
        have e68 : a.eval (.tmp 68) = .bool true := hd 10 (by decide +kernel) (.inr (by decide))
        have e69 : a.eval (.tmp 69) = .slice a4 m c4 := hd 11 (by decide +kernel) (.inr (by decide))
        exact doesG_val (wanted_of rfl (yielded_of rfl e68)) (ex_convert rfl e69 ((RX8.out.below hB).rd.str)) rfl rfl
      · intro a w' hF hB hd
        have e68 : a.eval (.tmp 68) = .bool true := hd 10 (by decide +kernel) (.inr (by decide))
        have e13 : a.eval (.tmp 13) = .slice a5 n c5 := hF 13 (by decide +kernel)
        exact doesG_val (wanted_of rfl (yielded_of rfl e68)) (ex_move rfl e13) rfl rfl
      · intro a w' hF hB hd
        have e68 : a.eval (.tmp 68) = .bool true := hd 10 (by decide +kernel) (.inr (by decide))
        have e71 : a.eval (.tmp 71) = .slice a5 n c5 := hd 13 (by decide +kernel) (.inr (by decide))
        exact doesG_val (wanted_of rfl (yielded_of rfl e68)) (ex_convert rfl e71 ((RY8.out.below hB).rd.str)) rfl rfl
      · intro a w' hF hB hd
        have e68 : a.eval (.tmp 68) = .bool true := hd 10 (by decide +kernel) (.inr (by decide))
        have e70 : a.eval (.tmp 70) = .string (bstr X) := hd 12 (by decide +kernel) (.inr (by decide))
        have e72 : a.eval (.tmp 72) = .string (bstr Y) := hd 14 (by decide +kernel) (.inr (by decide))
        exact doesG_val (wanted_of rfl (yielded_of rfl e68)) (ex_binOp rfl e70 e72 (by go_simp) (by go_simp; rw [if_neg (by rw [bstr_size, bstr_size]; have h := XL.out; rw [List.length_append] at h; have := HC.out; omega), bstr_app])) rfl rfl
      · intro a w' hF hB hd
        have e68 : a.eval (.tmp 68) = .bool true := hd 10 (by decide +kernel) (.inr (by decide))
        have e15 : a.eval (.tmp 15) = .slice a6 c c6 := hF 15 (by decide +kernel)
        exact doesG_val (wanted_of rfl (yielded_of rfl e68)) (ex_move rfl e15) rfl rfl
      · intro a w' hF hB hd
        have e68 : a.eval (.tmp 68) = .bool true := hd 10 (by decide +kernel) (.inr (by decide))
        have e74 : a.eval (.tmp 74) = .slice a6 c c6 := hd 16 (by decide +kernel) (.inr (by decide))
        exact doesG_val (wanted_of rfl (yielded_of rfl e68)) (ex_convert rfl e74 ((RZ8.out.below hB).rd.str)) rfl rfl
      · intro a w' hF hB hd
        have e68 : a.eval (.tmp 68) = .bool true := hd 10 (by decide +kernel) (.inr (by decide))
        have e73 : a.eval (.tmp 73) = .string (bstr (X ++ Y)) := hd 15 (by decide +kernel) (.inr (by decide))
        have e75 : a.eval (.tmp 75) = .string (bstr (X ++ Y)) := hd 17 (by decide +kernel) (.inr (by decide))
        exact doesG_val (wanted_of rfl (yielded_of rfl e68)) (ex_binOp rfl e73 e75 (by go_simp) (by go_simp)) rfl rfl
      · intro a w' hF hB hd
        have e68 : a.eval (.tmp 68) = .bool true := hd 10 (by decide +kernel) (.inr (by decide))
        have e76 : a.eval (.tmp 76) = .bool true := hd 18 (by decide +kernel) (.inr (by decide))
        exact doesG_val rfl (ex_pick rfl e68 (by simp [e76])) rfl rfl
      · intro a w' hF hB hd
        have e77 : a.eval (.tmp 77) = .bool true := hd 19 (by decide +kernel) (.inr (by decide))
        exact doesG_val rfl (ex_move rfl e77) rfl rfl
      · intro a w' hF hB hd
        have e78 : a.eval (.tmp 78) = .bool true := hd 20 (by decide +kernel) (.inr (by decide))
        have e11 : a.eval (.tmp 11) = .slice a4 m c4 := hF 11 (by decide +kernel)
        exact doesG_val (wanted_of rfl (yielded_of rfl e78)) (ex_move rfl e11) rfl rfl
      · intro a w' hF hB hd
        have e78 : a.eval (.tmp 78) = .bool true := hd 20 (by decide +kernel) (.inr (by decide))
        have e79 : a.eval (.tmp 79) = .slice a4 m c4 := hd 21 (by decide +kernel) (.inr (by decide))
        have f79 : a.tmps[79]?.getD undef = .slice a4 m c4 := by rw [← Array.getD_eq_getD_getElem?]; exact e79
        exact doesG_val (wanted_of rfl (yielded_of rfl e78)) (v := .int .i64 (m : Int)) (by unfold execOp; go_simp) rfl rfl
      · intro a w' hF hB hd
        have e78 : a.eval (.tmp 78) = .bool true := hd 20 (by decide +kernel) (.inr (by decide))
        have e7 : a.eval (.tmp 7) = .int .i64 (m : Int) := hF 7 (by decide +kernel)
        exact doesG_val (wanted_of rfl (yielded_of rfl e78)) (ex_move rfl e7) rfl rfl
      · intro a w' hF hB hd
        have e78 : a.eval (.tmp 78) = .bool true := hd 20 (by decide +kernel) (.inr (by decide))
        have e80 : a.eval (.tmp 80) = .int .i64 (m : Int) := hd 22 (by decide +kernel) (.inr (by decide))
        have e81 : a.eval (.tmp 81) = .int .i64 (m : Int) := hd 23 (by decide +kernel) (.inr (by decide))
        exact doesG_val (wanted_of rfl (yielded_of rfl e78)) (ex_binOp rfl e80 e81 (by go_simp) (by go_simp)) rfl rfl
      · intro a w' hF hB hd
        have e78 : a.eval (.tmp 78) = .bool true := hd 20 (by decide +kernel) (.inr (by decide))
        have e82 : a.eval (.tmp 82) = .bool true := hd 24 (by decide +kernel) (.inr (by decide))
        exact doesG_val rfl (ex_pick rfl e78 (by simp [e82])) rfl rfl
      · intro a w' hF hB hd
        have e83 : a.eval (.tmp 83) = .bool true := hd 25 (by decide +kernel) (.inr (by decide))
        exact doesG_val rfl (ex_move rfl e83) rfl rfl
      · intro a w' hF hB hd
        have e84 : a.eval (.tmp 84) = .bool true := hd 26 (by decide +kernel) (.inr (by decide))
        have e15 : a.eval (.tmp 15) = .slice a6 c c6 := hF 15 (by decide +kernel)
        exact doesG_val (wanted_of rfl (yielded_of rfl e84)) (ex_move rfl e15) rfl rfl
      · intro a w' hF hB hd
        have e84 : a.eval (.tmp 84) = .bool true := hd 26 (by decide +kernel) (.inr (by decide))
        have e18 : a.eval (.tmp 18) = .int .i64 (k : Int) := hF 18 (by decide +kernel)
        exact doesG_val (wanted_of rfl (yielded_of rfl e84)) (ex_move rfl e18) rfl rfl
      · intro a w' hF hB hd
        have e84 : a.eval (.tmp 84) = .bool true := hd 26 (by decide +kernel) (.inr (by decide))
        have e85 : a.eval (.tmp 85) = .slice a6 c c6 := hd 27 (by decide +kernel) (.inr (by decide))
        have e86 : a.eval (.tmp 86) = .int .i64 (k : Int) := hd 28 (by decide +kernel) (.inr (by decide))
        have f86 : a.tmps[86]?.getD undef = .int .i64 (k : Int) := by rw [← Array.getD_eq_getD_getElem?]; exact e86
        have q3 : (k : Int) ≤ (c6 : Int) := by have := HCZ.out; have := HKC.out; omega
        exact doesG_val (wanted_of rfl (yielded_of rfl e84)) (v := .slice a6 k c6) (by unfold execOp; simp only [e85]; go_simp) rfl rfl
      · intro a w' hF hB hd
        have e84 : a.eval (.tmp 84) = .bool true := hd 26 (by decide +kernel) (.inr (by decide))
        have e87 : a.eval (.tmp 87) = .slice a6 k c6 := hd 29 (by decide +kernel) (.inr (by decide))
        exact doesG_val (wanted_of rfl (yielded_of rfl e84)) (ex_convert rfl e87 ((RK8.out.below hB).str)) rfl rfl
      · intro a w' hF hB hd
        have e84 : a.eval (.tmp 84) = .bool true := hd 26 (by decide +kernel) (.inr (by decide))
        have e18 : a.eval (.tmp 18) = .int .i64 (k : Int) := hF 18 (by decide +kernel)
        exact doesG_val (wanted_of rfl (yielded_of rfl e84)) (ex_move rfl e18) rfl rfl
      · intro a w' hF hB hd
        have e84 : a.eval (.tmp 84) = .bool true := hd 26 (by decide +kernel) (.inr (by decide))
        have e17 : a.eval (.tmp 17) = .pointer (some ⟨w7.heap.size, 0, none⟩) := hF 17 (by decide +kernel)
        have e89 : a.eval (.tmp 89) = .int .i64 (k : Int) := hd 31 (by decide +kernel) (.inr (by decide))
        have f89 : a.tmps[89]?.getD undef = .int .i64 (k : Int) := by rw [← Array.getD_eq_getD_getElem?]; exact e89
        have q3 : (k : Int) ≤ 32 := by have := HK32.out; omega
        exact doesG_val (wanted_of rfl (yielded_of rfl e84)) (v := .slice (some ⟨w7.heap.size, 0, none⟩) k 32) (by unfold execOp; simp only [e17]; go_simp) rfl rfl
      · intro a w' hF hB hd
        have e84 : a.eval (.tmp 84) = .bool true := hd 26 (by decide +kernel) (.inr (by decide))
        have e90 : a.eval (.tmp 90) = .slice (some ⟨w7.heap.size, 0, none⟩) k 32 := hd 32 (by decide +kernel) (.inr (by decide))
        exact doesG_val (wanted_of rfl (yielded_of rfl e84)) (ex_convert rfl e90 ((RF8.out.below hB).str)) rfl rfl
      · intro a w' hF hB hd
        have e84 : a.eval (.tmp 84) = .bool true := hd 26 (by decide +kernel) (.inr (by decide))
        have e88 : a.eval (.tmp 88) = .string (bstr K) := hd 30 (by decide +kernel) (.inr (by decide))
        have e91 : a.eval (.tmp 91) = .string (bstr K) := hd 33 (by decide +kernel) (.inr (by decide))
        exact doesG_val (wanted_of rfl (yielded_of rfl e84)) (ex_binOp rfl e88 e91 (by go_simp) (by go_simp)) rfl rfl
      · intro a w' hF hB hd
        have e84 : a.eval (.tmp 84) = .bool true := hd 26 (by decide +kernel) (.inr (by decide))
        have e92 : a.eval (.tmp 92) = .bool true := hd 34 (by decide +kernel) (.inr (by decide))
        exact doesG_val rfl (ex_pick rfl e84 (by simp [e92])) rfl rfl
      · intro a w' hF hB hd
        have e93 : a.eval (.tmp 93) = .bool true := hd 35 (by decide +kernel) (.inr (by decide))
        exact doesG_val rfl (ex_move rfl e93) rfl rfl
      · intro a w' hF hB hd
        have e94 : a.eval (.tmp 94) = .bool true := hd 36 (by decide +kernel) (.inr (by decide))
        exact doesG_call (wanted_of rfl (yielded_of rfl e94)) (ex_call (vs := #[]) rfl (by simp) (by go_simp)) rfl ((HAW.out w' (B8.out.on hB)).mono fun e w2 hh => ⟨_, hh.1, rfl, hh.2⟩)
      · intro a w' hF hB hd
        have e94 : a.eval (.tmp 94) = .bool true := hd 36 (by decide +kernel) (.inr (by decide))
        have e95 : a.eval (.tmp 95) = .bool true := hd 37 (by decide +kernel) (.inr (by decide))
        exact doesG_val rfl (ex_pick rfl e94 (by simp [e95])) rfl rfl
      · intro a w' hF hB hd
        have e96 : a.eval (.tmp 96) = .bool true := hd 38 (by decide +kernel) (.inr (by decide))
        exact doesG_val rfl (ex_assign rfl e96) rfl rfl
    · intro vs w9 hb hv hap
      have e2 : vs 39 = .bool true := hv 39 (by decide) (by decide)
      simp only [List.take_succ_cons, List.take_zero, List.drop_succ_cons, List.drop_zero, putOps, Act.put, List.setIfInBounds_toArray, List.set_cons_zero, List.set_cons_succ, e2]
      have HB := Lib.hid (B8.out.on hb)
      clear hv hap e2 hb
      go_wp2_with fail
      go_ret
      exact ⟨rfl, HB.out⟩)
set_option maxRecDepth 100000 in
theorem reads (os : Os) {H : Type} (enc : TypeId × Value → H) : ∃ places, DataW.whole enc Tryd.prog ((World.doorLaid Tryd.prog 400 os).forCall (fun _ _ => 0) ⟨#[], #[.slice none 0 0, .int .u16 0, .int .u16 0], []⟩).memory Tryd.f4.params.toList Rows.entropyCutsSpec.vars false (#[.slice none 0 0, .int .u16 0, .int .u16 0] : Array Value).toList 8 = some ([.nil, .lit (.int .u16 0), .lit (.int .u16 0)], [], places) :=
  ⟨[], by kernel_rfl⟩
set_option linter.unusedVariables false in
set_option maxHeartbeats 1000000 in
set_option maxRecDepth 100000 in
theorem lifted (os : Os) (started : os.Started) (H : Type) (enc : TypeId × Value → H) (F : Stop.Interp) :
    ReturnsInHanded {} Tryd.checked os 4 .any ((OpenSpec.ofChange Rows.entropyCutsSpec).preRow enc Tryd.prog Tryd.f4 Rows.entropyCutsRow.domain false laidP) (((OpenSpec.ofChange Rows.entropyCutsSpec).at F).post enc Tryd.prog Tryd.f4 false true false false) := by
  obtain ⟨places, hx⟩ := reads os enc
  refine returnsInHanded_of_row (C := Tryd.checked) (s := OpenSpec.ofChange Rows.entropyCutsSpec) own started (by kernel_rfl) Tryd.func4
    (witness_row_atRef (enc := enc) (C := Tryd.checked) false (World.doorLaid Tryd.prog 400 os) #[.slice none 0 0, .int .u16 0, .int .u16 0] rfl (by kernel_rfl) (by kernel_rfl) (by kernel_rfl)
      (OpenSpec.preRow_of_cond 8 hx (by kernel_rfl) (fun k hk => by cases hk) (by kernel_rfl) (doorP_met os _))) ?_
  intro W base args ds gs before hval0 hW _ hcond hsz0 hL _ _
  have hsz : (DataW.weightsEach Tryd.prog (Tryd.f4.params.toList ++ Rows.entropyCutsSpec.plain.varTypes Tryd.prog) (ds ++ gs)).all (· ≤ reachBytes) = true := hsz0
  clear hsz0
  have hval : ∀ (j : Nat) t v, Tryd.f4.params[j]? = some t → args[j]? = some v → Value.okWide Tryd.prog W .any base t v := hval0
  have hW' := hW
  obtain ⟨p, q, hA0, hV, rfl, _, _⟩ := hW
  have hA : DataW.TrodAll enc Tryd.prog W 0 (fun _ => true) true Tryd.f4.params.toList args.toList ds p := hA0
  rw [Tryd.params4] at hA hval hsz
  obtain ⟨v0, vs0, d0, ds0, p0, q0, hargs, rfl, rfl, g0, r0⟩ := trodAll_cons hA
  obtain ⟨v1, vs1, d1, ds1, p1, q1, rfl, rfl, rfl, g1, r1⟩ := trodAll_cons r0
  obtain ⟨v2, vs2, d2, ds2, p2, q2, rfl, rfl, rfl, g2, r2⟩ := trodAll_cons r1
  obtain ⟨rfl, rfl, rfl⟩ := trodAll_nil r2
  obtain rfl : args = #[v0, v1, v2] := by cases args; simp_all
  obtain ⟨rfl, rfl⟩ := trodVars_none hV
  obtain ⟨l0, h0⟩ := open_bytes (hval 0 22 v0 rfl rfl) g0 (fun elems spare e => sized_slice hsz (j := 0) (t := 22) (e := 5) rfl (by rw [← e]; rfl) Tryd.underlying22)
  obtain ⟨a1, rfl, rfl, rfl, w1⟩ := open_int Tryd.underlying37 (hval 1 37 v1 rfl rfl) g1
  obtain ⟨a2, rfl, rfl, rfl, w2⟩ := open_int Tryd.underlying37 (hval 2 37 v2 rfl rfl) g2
  clear hA0 hval0
  have hlt := hW'.lt
  refine (walk W (tabP_of_laid hL) v0 l0 h0 a1 w1 a2 w2).mono fun e W' ⟨he, hb⟩ => ?_
  subst he
  have hargs : DataW.TrodAll enc Tryd.prog W' 0 (fun b => decide (b < W.heap.size)) true _ _ _ _ := (trodAll_cons_mk (Below.trod laidOut (by kernel_rfl) (of_decide_eq_true (by kernel_rfl)) g0 hb (fun x hx => hlt x (by simp [hx]))) (trodAll_cons_mk (shut_int Tryd.underlying37 w1) (trodAll_cons_mk (shut_int Tryd.underlying37 w2) trodAll_mk0)))
  simp only [List.append_nil] at hW' hargs
  exact ⟨_, rfl, post_law hW' (trodAll_cons_mk (shut_bool Tryd.underlying4 _) trodAll_mk0) hargs rfl hb⟩

theorem over : Rows.entropyCutsRow.holds Tryd.pinned (OpenSpec.ofChange Rows.entropyCutsSpec) :=
  OpenClaim.holds_of_cond 4 Tryd.f4 rfl rfl rfl rfl rfl rfl rfl ⟨rfl, rfl, rfl, rfl, rfl⟩ rfl rfl rfl rfl rfl (by kernel_rfl) Tryd.func4 (by kernel_rfl)
    (of_decide_eq_true (by kernel_rfl)) (by unfold Func.isWrapper; first | (rw [if_pos (by decide +kernel)]; kernel_rfl) | (rw [if_neg (by decide +kernel)]; exact ⟨rfl, rfl⟩))
    (fun os started H enc _ F => by rw [OpenClaim.pre_eq_preRow]; exact lifted os started H enc F)

/-- The given statement. -/
theorem proved : Rows.EntropyCutsCardSaid :=
  Claim7.holds_tied_plain_at .later [] _ _ _ _
    over (fun _ h => by cases h) (by kernel_rfl) (fun _ h => by cases h) entropyCuts_row_tie rfl ⟨rfl, rfl⟩ (by kernel_rfl) rfl
    (fun f fn hf hfn => by
      obtain rfl : f = 4 := Option.some.inj ((show Tryd.prog.funcNamed "reliquary/reliquarylaw09.EntropyCuts" = some 4 by kernel_rfl).symm.trans hf) |>.symm
      obtain rfl : fn = Tryd.f4 := (Option.some.inj (Tryd.func4.symm.trans hfn)).symm
      exact ⟨by kernel_rfl, fun j t ht => by
        rw [Tryd.params4] at ht
        have hm : t ∈ [22, 37, 37] := by simpa using Array.mem_of_getElem? ht
        have hall : ([22, 37, 37].all fun u => !Tryd.prog.wantsStandIn u) = true := by kernel_rfl
        exact (show Tryd.prog.wantsStandIn t = false by simpa using List.all_eq_true.1 hall t hm)⟩)
    (by kernel_rfl)
end Go.Proofs.YtdiljngokbfpcaaDoor.entropyCuts

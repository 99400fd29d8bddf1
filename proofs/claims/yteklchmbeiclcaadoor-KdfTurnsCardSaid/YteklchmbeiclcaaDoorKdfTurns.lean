/- KdfTurns: for any passphrase and salt: the first block by one turn is one sum, by two turns that one and the sum of it, exclusive-ored, or it is told why not; and the law's closed case holds. No condition but that the program's table holds its constants when the call begins. -/
import Derived.Test.YteklchmbeiclcaaDoorRows
import Derived.Test.YteklchmbeiclcaaDoorKdfLaws
import Derived.Test.YteklchmbeiclcaaDoorShaC
import Derived.Test.YteklchmbeiclcaaDoorTie
import Derived.Test.YteklchmbeiclcaaDoorCards
import Derived.SevenTiedAt
import Derived.Test.YteklchmbeiclcaaDoorMem
import Derived.WalkKit
import Derived.ProofKit
import Derived.OpenShut
import Derived.SizedLaws
import Derived.Carry
import Derived.Deep.DeepHandedRow
import Derived.Deep.DeepWitnessRowRef
namespace Go.Proofs.YteklchmbeiclcaaDoor.kdfTurns
open Go.ChangeShapes Go.WideShapes Go.ChangeAt Go.RowKit

theorem own : ownKnob Tryd.prog.godebug = none := by kernel_rfl
set_option linter.unusedVariables false in
set_option maxHeartbeats 4000000 in
set_option maxRecDepth 100000 in
theorem walk (w : World) (ht : TabP w) (v0 : Value) (l0 : List Nat) (h0 : Rd w v0 l0) (v1 : Value) (l1 : List Nat) (h1 : Rd w v1 l1) :
    Calls Tryd.prog 6 #[v0, v1] w fun e w' => e = .returned (.bool true) ∧ Below w.heap.size w w' := by
  obtain ⟨a0, c0, rfl, _⟩ := h0.shape
  obtain ⟨a1, c1, rfl, _⟩ := h1.shape
  have q0 := h0.fits
  have HT := Lib.hid ht
  have HK := Lib.hid h0
  have HV := Lib.hid h1
  obtain ⟨E, hE⟩ : ∃ E, E = SM.kerr l0 l1 1 32 := ⟨_, rfl⟩
  have hE2 : SM.kerr l0 l1 2 32 = E := by
    rw [hE]; unfold SM.kerr
    by_cases q : 512 < l0.length ∨ 1024 < l1.length
    · rw [if_pos q, if_pos q]
    · rw [if_neg q, if_neg q, if_neg (by omega), if_neg (by omega)]
  obtain ⟨X, hX⟩ : ∃ X, X = SM.kres l0 l1 1 32 := ⟨_, rfl⟩
  obtain ⟨Y, hY⟩ : ∃ X, X = SM.kres l0 l1 2 32 := ⟨_, rfl⟩
  have HP1 := Lib.hid (kderive_any l0 l1 1 32 _ _ w h0 h1 ht)
  have HP2 := Lib.hid (fun W (hW : Below w.heap.size w W) => kderive_any l0 l1 2 32 _ _ W (h0.below hW) (h1.below hW) (ht.below hW))
  rw [← hE, ← hX] at HP1
  rw [hE2, ← hY] at HP2
  have HHE := Lib.hid hE
  have HHE2 := Lib.hid hE2
  have HHX := Lib.hid hX
  have HHY := Lib.hid hY
  have HOV := Lib.hid (fun (hl : 0 < l1.length) (g : Nat) (hg : w.heap.size ≤ g) => h1.old hl g hg)
  clear h0 h1 ht hE hE2 hX hY
  by_cases hlong : 512 < l0.length ∨ 1024 < l1.length
  · have hE5 : E = 5 := by rw [HHE.out]; unfold SM.kerr; rw [if_pos hlong]
    subst hE5
    by_cases hp : 512 < l0.length
    · have hpI : (512 : Int) < (l0.length : Int) := by omega
      go_enter Tryd.func6, Tryd.ntmps6
      go_wp2_with (first
        | (go_at_call 10; (with_reducible refine HP1.out.mono ?_); rintro e w2 ⟨x2, rfl, r2, b2⟩; have B2 := Lib.hid b2; clear r2 b2)
        | (go_at_call 10; (with_reducible refine (HP2.out _ B2.out).mono ?_); rintro e w3 ⟨y3, rfl, r3, b3⟩; have B3 := Lib.hid (B2.out.on b3); clear r3 b3)
        | (go_at_call 9; (with_reducible refine (kawake_any _ (HT.out.below B3.out)).mono ?_); rintro e w4 ⟨rfl, b4⟩; have B4 := Lib.hid (B3.out.on b4); clear b4))
      go_ret
      exact ⟨rfl, B4.out⟩
    · have hpI : ¬ (512 : Int) < (l0.length : Int) := by omega
      have hsI : (1024 : Int) < (l1.length : Int) := by omega
      go_enter Tryd.func6, Tryd.ntmps6
      go_wp2_with (first
        | (go_at_call 10; (with_reducible refine HP1.out.mono ?_); rintro e w2 ⟨x2, rfl, r2, b2⟩; have B2 := Lib.hid b2; clear r2 b2)
        | (go_at_call 10; (with_reducible refine (HP2.out _ B2.out).mono ?_); rintro e w3 ⟨y3, rfl, r3, b3⟩; have B3 := Lib.hid (B2.out.on b3); clear r3 b3)
        | (go_at_call 9; (with_reducible refine (kawake_any _ (HT.out.below B3.out)).mono ?_); rintro e w4 ⟨rfl, b4⟩; have B4 := Lib.hid (B3.out.on b4); clear b4))
      go_ret
      exact ⟨rfl, B4.out⟩
  · have hE0 : E = 0 := by rw [HHE.out]; exact kerr_ok _ _ _ _ (by omega) (by omega) (by omega) (by omega) (by omega) (by omega)
    subst hE0
    obtain ⟨U, hU⟩ : ∃ U, U = SM.mac l0 (l1 ++ [0, 0, 0, 1]) := ⟨_, rfl⟩
    obtain ⟨V, hV⟩ : ∃ V, V = SM.mac l0 U := ⟨_, rfl⟩
    have bU : Bytes 32 U := by rw [hU]; exact mac_bytes _ _
    have bV : Bytes 32 V := by rw [hV]; exact mac_bytes _ _
    have hX1 : X = U := by rw [HHX.out, kres_ok _ _ _ _ HHE.out.symm, hU]; exact SM.kder_one l0 l1
    have hY1 : Y = SM.xq U V 32 := by rw [HHY.out, kres_ok _ _ _ _ HHE2.out, hV, hU]; exact SM.kder_two l0 l1
    subst hX1
    have HXL := Lib.hid bU.1
    have HYL := Lib.hid (show Y.length = 32 by rw [hY1, SM.xq_len])
    have HYG := Lib.hid (fun k (hk : k < 32) => (show gb Y k = gb X k ^^^ gb V k by rw [hY1, SM.xq_get _ _ _ _ hk, if_pos hk]))
    have HUU := Lib.hid hU
    have HVV := Lib.hid hV
    have HUB := Lib.hid bU
    have HVB := Lib.hid bV
    have U32 := Lib.hid (show (row8 X).length = 32 by rw [row8_len]; exact bU.1)
    have V32 := Lib.hid (show (row8 V).length = 32 by rw [row8_len]; exact bV.1)
    obtain ⟨D0, hD0⟩ : ∃ C0, C0 = row8 (List.replicate 32 0) := ⟨_, rfl⟩
    have hz : ∀ w, (zeroValue 39).run Tryd.prog w = .ok (.agg D0.toArray) w := by rw [hD0]; exact zeroSum
    have hd0 : D0.length = 32 := by rw [hD0, row8_len, List.length_replicate]
    clear hD0 bU bV hU hV hY1
    go_enter Tryd.func6, Tryd.ntmps6
    go_upto_region 5 with (first
      | (go_at_call 10; (with_reducible refine HP1.out.mono ?_); rintro e w2 ⟨x2, rfl, r2, b2⟩; obtain ⟨ax, cx, rfl, _⟩ := r2.shape; have B2 := Lib.hid b2; have R2 := Lib.hid r2; rw [HXL.out] at R2 ⊢; clear r2 b2)
      | (go_at_call 10; (with_reducible refine (HP2.out _ B2.out).mono ?_); rintro e w3 ⟨y3, rfl, r3, b3⟩; obtain ⟨ay, cy, rfl, _⟩ := r3.shape; have B3 := Lib.hid (B2.out.on b3); have RX3 := Lib.hid (R2.out.below b3); have RY3 := Lib.hid r3; rw [HYL.out] at RY3 ⊢; clear r3 b3))
    have o4 := own_new w3 [0, 0, 0, 1] (fun k => by match k with | 0 => decide | 1 => decide | 2 => decide | 3 => decide | k + 4 => exact Nat.zero_lt_succ _) (by simp) rfl (Nat.le_refl _)
    have b4 := B3.out.alloc B3.out.size (.cells (row8 [0, 0, 0, 1]).toArray 5)
    have F5 := Lib.hid (hof_two_at (w := w3.alloc (.cells (row8 [0, 0, 0, 1]).toArray 5)) (b := w3.heap.size + 1) (by simp) (HK.out.below b4) (HV.out.below b4) o4.rd (HT.out.below b4) (by simp; omega) HUU.out)
    have B4 := Lib.hid b4
    have X4 := Lib.hid (RX3.out.alloc (.cells (row8 [0, 0, 0, 1]).toArray 5))
    have Y4 := Lib.hid (RY3.out.alloc (.cells (row8 [0, 0, 0, 1]).toArray 5))
    clear o4 b4
    go_upto_region 6 with (first
      | (go_at_call 14; (refine F5.out.mono ?_); rintro e w5 ⟨rfl, b5⟩; have B5 := Lib.hid (B4.out.on b5); have X5 := Lib.hid (X4.out.below b5); have Y5 := Lib.hid (Y4.out.below b5); clear b5)
      | (refine wpList_store_blk rfl 39 (.tmp 9) (.tmp 54) rfl w5.heap.size 0 (row8 X) rfl rfl 39 D0 (Blk.new w5 39 D0 _ rfl) (by rw [U32.out, hd0]; exact Nat.le_refl _) (by rw [U32.out]; exact infoS) (row8_one _) ?_; intro w6 b6 g6; rw [splice_all _ _ (by rw [U32.out, hd0])] at b6; have N6 := Lib.hid b6; have B6 := Lib.hid (own_turn B5.out g6); have X6 := Lib.hid ((X5.out.alloc (.cells D0.toArray 39)).grown g6 (.inr (X5.out.old (by rw [HXL.out]; omega) _ (Nat.le_refl _)))); have Y6 := Lib.hid ((Y5.out.alloc (.cells D0.toArray 39)).grown g6 (.inr (Y5.out.old (by rw [HYL.out]; omega) _ (Nat.le_refl _)))); clear b6 g6))
    obtain ⟨ub, hub⟩ : ∃ b, b = w5.heap.size := ⟨_, rfl⟩
    rw [← hub] at N6 ⊢
    have u6 := blk_rd N6.out HUB.out.2 (n := 32) (cap := 32) (by rw [HUB.out.1]; omega) (by omega) (by rw [HUB.out.1]; omega)
    rw [List.take_of_length_le (by rw [HUB.out.1]; omega)] at u6
    have F6 := Lib.hid (fun b (hb : b = w6.heap.size) => hof_one_at hb (HK.out.below B6.out) u6 (HT.out.below B6.out) (by rw [HUB.out.1]; omega) HVV.out)
    clear hub u6 X5 Y5 X4 Y4 B4 B5 F5 RX3 RY3 R2 B2
    go_upto_region 7 with (first
      | (go_at_call 14; (with_reducible refine (F6.out _ rfl).mono ?_); rintro e w7 ⟨rfl, b7⟩; have B7 := Lib.hid (B6.out.on b7); have X7 := Lib.hid (X6.out.below b7); have Y7 := Lib.hid (Y6.out.below b7); have N7 := Lib.hid (N6.out.below b7 N6.out.lt); clear b7)
      | (refine wpList_store_blk rfl 39 (.tmp 10) (.tmp 58) rfl w7.heap.size 0 (row8 V) rfl rfl 39 D0 (Blk.new w7 39 D0 _ rfl) (by rw [V32.out, hd0]; exact Nat.le_refl _) (by rw [V32.out]; exact infoS) (row8_one _) ?_; intro w8 b8 g8; rw [splice_all _ _ (by rw [V32.out, hd0])] at b8; have V8 := Lib.hid b8; have B8 := Lib.hid (own_turn B7.out g8); have R1 := Lib.hid ((X7.out.alloc (.cells D0.toArray 39)).grown g8 (.inr (X7.out.old (by rw [HXL.out]; omega) _ (Nat.le_refl _)))); have R2 := Lib.hid ((Y7.out.alloc (.cells D0.toArray 39)).grown g8 (.inr (Y7.out.old (by rw [HYL.out]; omega) _ (Nat.le_refl _)))); have N8 := Lib.hid ((N7.out.alloc (.cells D0.toArray 39)).grown g8 (fun q => by have e : ub = w7.heap.size := Option.some.inj q; have := N7.out.lt; omega)); clear b8 g8))
    obtain ⟨vb, hvb⟩ : ∃ b, b = w7.heap.size := ⟨_, rfl⟩
    rw [← hvb] at V8 ⊢
    have u8 := blk_rd N8.out HUB.out.2 (n := 32) (cap := 32) (by rw [HUB.out.1]; omega) (by omega) (by rw [HUB.out.1]; omega)
    rw [List.take_of_length_le (by rw [HUB.out.1]; omega)] at u8
    have RU := Lib.hid u8
    clear hvb u8 N7 X7 Y7 B7 F6 N6 X6 Y6 B6 hz hd0
    refine wp_region_g (by kernel_rfl) 10 (by decide) (by kernel_rfl) (by kernel_rfl) (by kernel_rfl) (w8.heap.size) (Nat.le_refl _) [.val (.slice ax 32 cx), .val (.string (bstr X)), .val (.slice (some ⟨ub, 0, none⟩) 32 32), .val (.string (bstr X)), .val (.bool false), .val (.bool false), .val (.slice ay 32 cy), .val (.int .i64 32), .val (.bool false), .val (.bool false)] (fun _ => 10) ?_ ?_
    · refine ⟨?_, ?_, ?_, ?_, ?_, ?_, ?_, ?_, ?_, ?_, trivial⟩
      · intro a w' hF hB hd
        have e5 : a.eval (.tmp 5) = .slice ax 32 cx := hF 5 (by decide +kernel)
        exact doesG_val rfl (ex_move rfl e5) rfl rfl
      · intro a w' hF hB hd
        have e59 : a.eval (.tmp 59) = .slice ax 32 cx := hd 0 (by decide +kernel) (.inr (by decide))
        exact doesG_val rfl (ex_convert rfl e59 ((R1.out.below hB).str)) rfl rfl
      · intro a w' hF hB hd
        have e9 : a.eval (.tmp 9) = .pointer (some ⟨ub, 0, none⟩) := hF 9 (by decide +kernel)
        exact doesG_val rfl (v := .slice (some ⟨ub, 0, none⟩) 32 32) (by unfold execOp; simp only [e9]; go_simp) rfl rfl
      · intro a w' hF hB hd
        have e61 : a.eval (.tmp 61) = .slice (some ⟨ub, 0, none⟩) 32 32 := hd 2 (by decide +kernel) (.inr (by decide))
        exact doesG_val rfl (ex_convert rfl e61 ((RU.out.below hB).str)) rfl rfl
      · intro a w' hF hB hd
        have e60 : a.eval (.tmp 60) = .string (bstr X) := hd 1 (by decide +kernel) (.inr (by decide))
        have e62 : a.eval (.tmp 62) = .string (bstr X) := hd 3 (by decide +kernel) (.inr (by decide))
        exact doesG_val rfl (ex_binOp rfl e60 e62 (by go_simp) (by go_simp)) rfl rfl
      · intro a w' hF hB hd
        have e63 : a.eval (.tmp 63) = .bool false := hd 4 (by decide +kernel) (.inr (by decide))
        exact doesG_val rfl (ex_move rfl e63) rfl rfl
      · intro a w' hF hB hd
        have e64 : a.eval (.tmp 64) = .bool false := hd 5 (by decide +kernel) (.inr (by decide))
        have e7 : a.eval (.tmp 7) = .slice ay 32 cy := hF 7 (by decide +kernel)
        exact doesG_val (wanted_of rfl (yielded_of rfl e64)) (ex_move rfl e7) rfl rfl
      · intro a w' hF hB hd
        have e64 : a.eval (.tmp 64) = .bool false := hd 5 (by decide +kernel) (.inr (by decide))
        have e65 : a.eval (.tmp 65) = .slice ay 32 cy := hd 6 (by decide +kernel) (.inr (by decide))
        have f65 : a.tmps[65]?.getD undef = .slice ay 32 cy := by rw [← Array.getD_eq_getD_getElem?]; exact e65
        exact doesG_val (wanted_of rfl (yielded_of rfl e64)) (v := .int .i64 32) (by unfold execOp; go_simp) rfl rfl
      · intro a w' hF hB hd
        have e64 : a.eval (.tmp 64) = .bool false := hd 5 (by decide +kernel) (.inr (by decide))
        have e66 : a.eval (.tmp 66) = .int .i64 32 := hd 7 (by decide +kernel) (.inr (by decide))
        exact doesG_val (wanted_of rfl (yielded_of rfl e64)) (ex_binOp rfl e66 rfl (by go_simp) (by go_simp)) rfl rfl
      · intro a w' hF hB hd
        have e64 : a.eval (.tmp 64) = .bool false := hd 5 (by decide +kernel) (.inr (by decide))
        have e67 : a.eval (.tmp 67) = .bool false := hd 8 (by decide +kernel) (.inr (by decide))
        exact doesG_val rfl (ex_pick rfl e64 (by simp [e67])) rfl rfl
    · intro vs w9 hb hv hap
      have e2 : vs 9 = .bool false := hv 9 (by decide) (by decide)
      simp only [List.take_succ_cons, List.take_zero, List.drop_succ_cons, List.drop_zero, putOps, Act.put, List.setIfInBounds_toArray, List.set_cons_zero, List.set_cons_succ, e2]
      have B9 := Lib.hid (B8.out.on hb)
      have N9 := Lib.hid (N8.out.below hb N8.out.lt)
      have V9 := Lib.hid (V8.out.below hb V8.out.lt)
      have Y9 := Lib.hid (R2.out.below hb)
      clear hv hap e2 hb
      go_wp2_with fail
      go_loopw [11] (fun x wr => ∃ k : Nat, k ≤ 32 ∧ x = .int .i64 (k : Int) ∧ Blk wr ub 39 (row8 X) ∧ Blk wr vb 39 (row8 V) ∧ Rd wr (.slice ay 32 cy) Y ∧ Below w.heap.size w wr) (fun x _ => 32 - (intOf x).toNat)
      case atStart => exact ⟨0, by omega, rfl, N9.out, V9.out, Y9.out, B9.out⟩
      case round =>
        clear N9 V9 Y9 B9 R1 R2 N8 V8 B8 RU
        obtain ⟨k, hk, rfl, u0, v0, y0, b0⟩ := hrel
        by_cases hlk : k < 32
        · obtain ⟨ad, rfl, hc⟩ := y0.at_ k (by rw [HYL.out]; exact hlk)
          rw [HYG.out k hlk] at hc
          have d1 := u0.cell k _ (row8_val _ k (by rw [HUB.out.1]; exact hlk))
          have d2 := v0.cell k _ (row8_val _ k (by rw [HVB.out.1]; exact hlk))
          have hxr := u8_xor_nat (gb X k) (gb V k) (HUB.out.2 k) (HVB.out.2 k)
          have UU := Lib.hid u0
          have VV := Lib.hid v0
          have YY := Lib.hid y0
          have BB := Lib.hid b0
          clear u0 v0 y0 b0
          go_upto_region 12 with (fail)
          go_big_quiet (fail)
          go_wp2_with fail
          exact ⟨⟨k + 1, by omega, by go_num, UU.out, VV.out, YY.out.drewN nq, below_dN BB.out nq⟩, by simp [intOf]; omega⟩
        · obtain rfl : k = 32 := by omega
          have BB := Lib.hid b0
          clear u0 v0 y0 b0
          go_wp2_with (go_at_call 9; (with_reducible refine (kawake_any _ (HT.out.below BB.out)).mono ?_); rintro e w10 ⟨rfl, b10⟩; have B10 := Lib.hid (BB.out.on b10); clear b10)
          go_ret
          exact ⟨rfl, B10.out⟩
set_option maxRecDepth 100000 in
theorem reads (os : Os) {H : Type} (enc : TypeId × Value → H) : ∃ places, DataW.whole enc Tryd.prog ((World.doorLaid Tryd.prog 400 os).forCall (fun _ _ => 0) ⟨#[], #[.slice none 0 0, .slice none 0 0], []⟩).memory Tryd.f6.params.toList Rows.kdfTurnsSpec.vars false (#[.slice none 0 0, .slice none 0 0] : Array Value).toList 8 = some ([.nil, .nil], [], places) :=
  ⟨[], by kernel_rfl⟩
set_option linter.unusedVariables false in
set_option maxHeartbeats 1000000 in
set_option maxRecDepth 100000 in
theorem lifted (os : Os) (started : os.Started) (H : Type) (enc : TypeId × Value → H) (F : Stop.Interp) :
    ReturnsInHanded {} Tryd.checked os 6 .any ((OpenSpec.ofChange Rows.kdfTurnsSpec).preRow enc Tryd.prog Tryd.f6 Rows.kdfTurnsRow.domain false laidP) (((OpenSpec.ofChange Rows.kdfTurnsSpec).at F).post enc Tryd.prog Tryd.f6 false true false false) := by
  obtain ⟨places, hx⟩ := reads os enc
  refine returnsInHanded_of_row (C := Tryd.checked) (s := OpenSpec.ofChange Rows.kdfTurnsSpec) own started (by kernel_rfl) Tryd.func6
    (witness_row_atRef (enc := enc) (C := Tryd.checked) false (World.doorLaid Tryd.prog 400 os) #[.slice none 0 0, .slice none 0 0] rfl (by kernel_rfl) (by kernel_rfl) (by kernel_rfl)
      (OpenSpec.preRow_of_cond 8 hx (by kernel_rfl) (fun k hk => by cases hk) (by kernel_rfl) (doorP_met os _))) ?_
  intro W base args ds gs before hval0 hW _ hcond hsz0 hL _ _
  have hsz : (DataW.weightsEach Tryd.prog (Tryd.f6.params.toList ++ Rows.kdfTurnsSpec.plain.varTypes Tryd.prog) (ds ++ gs)).all (· ≤ reachBytes) = true := hsz0
  clear hsz0
  have hval : ∀ (j : Nat) t v, Tryd.f6.params[j]? = some t → args[j]? = some v → Value.okWide Tryd.prog W .any base t v := hval0
  have hW' := hW
  obtain ⟨p, q, hA0, hV, rfl, _, _⟩ := hW
  have hA : DataW.TrodAll enc Tryd.prog W 0 (fun _ => true) true Tryd.f6.params.toList args.toList ds p := hA0
  rw [Tryd.params6] at hA hval hsz
  obtain ⟨v0, vs0, d0, ds0, p0, q0, hargs, rfl, rfl, g0, r0⟩ := trodAll_cons hA
  obtain ⟨v1, vs1, d1, ds1, p1, q1, rfl, rfl, rfl, g1, r1⟩ := trodAll_cons r0
  obtain ⟨rfl, rfl, rfl⟩ := trodAll_nil r1
  obtain rfl : args = #[v0, v1] := by cases args; simp_all
  obtain ⟨rfl, rfl⟩ := trodVars_none hV
  obtain ⟨l0, h0⟩ := open_bytes (hval 0 22 v0 rfl rfl) g0 (fun elems spare e => sized_slice hsz (j := 0) (t := 22) (e := 5) rfl (by rw [← e]; rfl) Tryd.underlying22)
  obtain ⟨l1, h1⟩ := open_bytes (hval 1 22 v1 rfl rfl) g1 (fun elems spare e => sized_slice hsz (j := 1) (t := 22) (e := 5) rfl (by rw [← e]; rfl) Tryd.underlying22)
  clear hA0 hval0
  have hlt := hW'.lt
  refine (walk W (tabP_of_laid hL) v0 l0 h0 v1 l1 h1).mono fun e W' ⟨he, hb⟩ => ?_
  subst he
  have hargs : DataW.TrodAll enc Tryd.prog W' 0 (fun b => decide (b < W.heap.size)) true _ _ _ _ := (trodAll_cons_mk (Below.trod laidOut (by kernel_rfl) (of_decide_eq_true (by kernel_rfl)) g0 hb (fun x hx => hlt x (by simp [hx]))) (trodAll_cons_mk (Below.trod laidOut (by kernel_rfl) (of_decide_eq_true (by kernel_rfl)) g1 hb (fun x hx => hlt x (by simp [hx]))) trodAll_mk0))
  simp only [List.append_nil] at hW' hargs
  exact ⟨_, rfl, post_law hW' (trodAll_cons_mk (shut_bool Tryd.underlying4 _) trodAll_mk0) hargs rfl hb⟩

theorem over : Rows.kdfTurnsRow.holds Tryd.pinned (OpenSpec.ofChange Rows.kdfTurnsSpec) :=
  OpenClaim.holds_of_cond 6 Tryd.f6 rfl rfl rfl rfl rfl rfl rfl ⟨rfl, rfl, rfl, rfl, rfl⟩ rfl rfl rfl rfl rfl (by kernel_rfl) Tryd.func6 (by kernel_rfl)
    (of_decide_eq_true (by kernel_rfl)) (by unfold Func.isWrapper; first | (rw [if_pos (by decide +kernel)]; kernel_rfl) | (rw [if_neg (by decide +kernel)]; exact ⟨rfl, rfl⟩))
    (fun os started H enc _ F => by rw [OpenClaim.pre_eq_preRow]; exact lifted os started H enc F)

/-- The given statement. -/
theorem proved : Rows.KdfTurnsCardSaid :=
  Claim7.holds_tied_plain_at .later [] _ _ _ _
    over (fun _ h => by cases h) (by kernel_rfl) (fun _ h => by cases h) kdfTurns_row_tie rfl ⟨rfl, rfl⟩ (by kernel_rfl) rfl
    (fun f fn hf hfn => by
      obtain rfl : f = 6 := Option.some.inj ((show Tryd.prog.funcNamed "reliquary/reliquarylaw05.KdfTurns" = some 6 by kernel_rfl).symm.trans hf) |>.symm
      obtain rfl : fn = Tryd.f6 := (Option.some.inj (Tryd.func6.symm.trans hfn)).symm
      exact ⟨by kernel_rfl, fun j t ht => by
        rw [Tryd.params6] at ht
        have hm : t ∈ [22, 22] := by simpa using Array.mem_of_getElem? ht
        have hall : ([22, 22].all fun u => !Tryd.prog.wantsStandIn u) = true := by kernel_rfl
        exact (show Tryd.prog.wantsStandIn t = false by simpa using List.all_eq_true.1 hall t hm)⟩)
    (by kernel_rfl)
end Go.Proofs.YteklchmbeiclcaaDoor.kdfTurns

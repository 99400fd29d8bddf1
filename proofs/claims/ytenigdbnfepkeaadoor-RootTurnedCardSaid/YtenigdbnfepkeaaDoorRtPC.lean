/- Texts of one subject in one file: RtPGet, RtPNew. Own work. -/
import Derived.Test.YtenigdbnfepkeaaDoorRtPB
import Derived.Test.YtenigdbnfepkeaaDoorRtPA
import Derived.Test.YtenigdbnfepkeaaDoorRtDocC
import Derived.Test.YtenigdbnfepkeaaDoorHmacEqual
import Derived.Test.YtenigdbnfepkeaaDoorEqX
/- A root that is read out of bytes, by the program: contract. Written by gen_rtpget.py. Own work. -/
namespace Go.Proofs.YtenigdbnfepkeaaDoor
open Go.ChangeShapes Go.WideShapes Go.ChangeAt Go.RowKit
open RT
namespace RT
theorem body_79 (r : Rt) (h : Ok r) : gb (body r) 79 = r.pages.length := by
  have e : ∃ X : List Nat, X.length = 79 ∧ pre r = X ++ [r.pages.length] := ⟨_, by simp only [List.length_append, be_len, h.sup.1, h.keys.1, List.length_cons, List.length_nil], rfl⟩
  obtain ⟨X, hX, hp⟩ := e
  unfold body raw padTo
  rw [hp]
  have q : ∀ (A : List Nat) (x : Nat) (B C : List Nat), A.length = 79 → gb (A ++ [x] ++ B ++ C) 79 = x := fun A x B C hA => by
    unfold gb
    rw [List.append_assoc, List.append_assoc, List.getD_eq_getElem?_getD, List.getElem?_append_right (by omega), hA]; rfl
  exact q X _ _ _ hX
theorem readsP_small {b : List Nat} (h : gb b 79 ≤ 8) : readsP b = reads b := by
  unfold readsP kP
  rw [show min (gb b 79) 8 = min (gb b 79) 9 by omega]; rfl
theorem got_badP {b key : List Nat} (hb : Bytes 512 b) (hs : sealed b key = true) (hm : may (readsP b) = false ∨ body (readsP b) ≠ b.take 480) : got b key = zero ∧ gerr b key = 4 := by
  refine got_bad hb.1 hs ?_
  by_cases h8 : gb b 79 ≤ 8
  · rw [readsP_small h8] at hm
    rcases hm with q | q
    · exact .inl q
    · by_cases hmy : may (reads b) = true
      · refine .inr fun e => q ?_
        have hl := body_len (reads_ok hb) (may_iff.1 hmy).2.2.2.1
        have e2 := congrArg (List.take 480) e
        unfold lay at e2
        rw [List.take_left' hl] at e2
        exact e2
      · exact .inl (Bool.eq_false_iff.2 hmy)
  · refine .inl (Bool.eq_false_iff.2 fun hmy => ?_)
    have h4 := (may_iff.1 hmy).2.2.2.1
    have e : (reads b).pages.length = min (gb b 79) 9 := by show ((List.range _).map _).length = _; simp
    omega
theorem got_yesP {b key : List Nat} (hb : Bytes 512 b) (hs : sealed b key = true) (hm : may (readsP b) = true) (hl : body (readsP b) = b.take 480) : got b key = readsP b ∧ gerr b key = 0 := by
  have h8 : gb b 79 ≤ 8 := by
    have h1 := body_79 (readsP b) (readsP_ok hb)
    rw [hl, gb_take _ _ _ (by decide)] at h1
    have e : (readsP b).pages.length = min (gb b 79) 8 := pgs_len b _
    omega
  rw [readsP_small h8] at hm hl ⊢
  refine got_yes hb.1 hs hm ?_
  unfold lay
  rw [hl]
  unfold sealed at hs
  rw [of_decide_eq_true hs, List.take_append_drop]
end RT
theorem zeroSumG (w : World) : (zeroValue 24).run Tryd.prog w = .ok (.agg (row8 (List.replicate 32 0)).toArray) w := by kernel_rfl
set_option maxRecDepth 100000 in
set_option maxHeartbeats 4000000 in
theorem pget_any (b key : List Nat) (hkey : Bytes 32 key) (v : Value) (w : World) (hv : Rd w v b) (ht : TabP w) : Calls Tryd.prog 15 #[v, .agg (row8 key).toArray] w fun e w' => ∃ pv, e = .returned (.tuple #[.agg (rtc (got b key) pv).toArray, .int .i64 (gerr b key)]) ∧ w'.ownsRow w.heap.size 45 33 pv (got b key).pages.length (pcs (got b key).pages) ∧ Below w.heap.size w w' := by
  obtain ⟨va, vc, rfl, hvc⟩ := hv.shape
  obtain ⟨bl, hbl⟩ : ∃ n, n = b.length := ⟨_, rfl⟩
  obtain ⟨G, hG⟩ : ∃ G : Ending → World → Prop, G = fun e w' => ∃ pv, e = .returned (.tuple #[.agg (rtc (got b key) pv).toArray, .int .i64 (gerr b key)]) ∧ w'.ownsRow w.heap.size 45 33 pv (got b key).pages.length (pcs (got b key).pages) ∧ Below w.heap.size w w' := ⟨_, rfl⟩
  obtain ⟨Z0, hZ0⟩ : ∃ L, L = rtc zero (.slice none 0 0) := ⟨_, rfl⟩
  have HNO := Lib.hid (fun (c : Int) (h : got b key = zero ∧ gerr b key = c) W (hW : Below w.heap.size w W) => (show G (.returned (.tuple #[.agg Z0.toArray, .int .i64 c])) W by
    rw [hG, hZ0]
    show ∃ pv, _
    rw [h.1, h.2]
    exact ⟨_, rfl, World.ownsRow_nil _ _ _ _, hW⟩))
  have HYES := Lib.hid (fun (h : got b key = readsP b ∧ gerr b key = 0) pv W (ho : World.ownsRow W w.heap.size 45 33 pv (readsP b).pages.length (pcs (readsP b).pages)) (hW : Below w.heap.size w W) => (show G (.returned (.tuple #[.agg (rtc (readsP b) pv).toArray, .int .i64 0])) W by
    rw [hG]
    show ∃ pv, _
    rw [h.1, h.2]
    exact ⟨pv, rfl, ho, hW⟩))
  have hz : ∀ w, (zeroValue 27).run Tryd.prog w = .ok (.agg Z0.toArray) w := by rw [hZ0]; exact zeroRt
  have hbz : Tryd.prog.built 27 [] = some Z0.toArray := by rw [hZ0]; exact builtRt
  have Z68 := Lib.hid (show Z0.length = 68 by rw [hZ0]; exact rtc_len zero_ok _)
  have Z1 := Lib.hid (show Z0.toArray.all (·.oneCell') = true by rw [hZ0]; exact rt_one _ _ _ _)
  obtain ⟨D0, hD0⟩ : ∃ D, D = row8 (List.replicate 32 0) := ⟨_, rfl⟩
  have hzD : ∀ w, (zeroValue 24).run Tryd.prog w = .ok (.agg D0.toArray) w := by rw [hD0]; exact zeroSumG
  have D32 := Lib.hid (show D0.length = 32 by rw [hD0, row8_len, List.length_replicate])
  obtain ⟨KC, hKC⟩ : ∃ L, L = row8 key := ⟨_, rfl⟩
  have HKC := Lib.hid hKC
  have HKY := Lib.hid hkey
  have HV := Lib.hid hv
  have HT := Lib.hid ht
  have HBL := Lib.hid hbl
  have HBY := Lib.hid hv.byte
  rw [← hG, ← hKC]
  rw [← hbl] at HV hvc ⊢
  obtain ⟨w1, hw1⟩ : ∃ x, x = (w.alloc (.cells KC.toArray 28)).alloc (.cells Z0.toArray 27) := ⟨_, rfl⟩
  have W1 := Lib.hid (show Below w.heap.size w w1 by rw [hw1]; exact ((Below.refl w.heap.size w).alloc (Nat.le_refl _) _).alloc (by simp) _)
  have K1 := Lib.hid (show Blk w1 w.heap.size 28 KC by rw [hw1]; exact (Blk.new w 28 KC _ rfl).alloc _)
  have X1 := Lib.hid (show Blk w1 (w.heap.size + 1) 27 Z0 by rw [hw1]; exact Blk.new _ 27 Z0 _ (by simp))
  have S1 := Lib.hid (show w1.heap.size = w.heap.size + 2 by rw [hw1]; simp)
  have HRET := Lib.hid (fun (fn : Func) (hf : fn.results = #[.cell 4 27, .tmp 5]) (tmps : Array Value) (L : List Value) (hl : L.length = 68) W (hW : Blk W (w.heap.size + 1) 27 L) (h4 : tmps.getD 4 undef = .pointer (some ⟨w.heap.size + 1, 0, none⟩)) => (results_mid2 (P := Tryd.prog) hf tmps W (w.heap.size + 1) L _ h4 hW.range Tryd.underlying27 rfl (by rw [hl]; exact infoRtC)))
  clear hv ht hbl hG hZ0 hD0 hKC hkey
  by_cases hlen : bl = 512
  · subst hlen
    have hlz : ((512 : Nat) : Int) = 512 := rfl
    have H512 := Lib.hid (show b.length = 512 from HBL.out.symm)
    have HB := Lib.hid (show Bytes 512 b from ⟨H512.out, HBY.out⟩)
    obtain ⟨ad, rfl, had⟩ := HV.out.at_ 0 (by rw [← HBL.out]; decide)
    have HAD := Lib.hid (show ad.add 480 = ⟨ad.block, ad.off + 480, none⟩ by
      obtain ⟨b0, o0, s0⟩ := ad
      have hs0 : s0 = none := by simpa [Addr.add] using World.cell?_spot had
      subst hs0
      exact Addr.add_lit _ _ _)
    clear had
    obtain ⟨MAC, hMAC⟩ : ∃ m, m = SM.mac key (b.take 480) := ⟨_, rfl⟩
    have HMB := Lib.hid (show Bytes 32 MAC by rw [hMAC]; exact sha_bytes _)
    have M32 := Lib.hid (show (row8 MAC).length = 32 by rw [row8_len, HMB.out.1])
    have B480 := Lib.hid (show (b.take 480).length = 480 by rw [List.length_take, H512.out]; rfl)
    have V480 := Lib.hid (show Rd w (.slice (some ad) 480 vc) (b.take 480) from HV.out.take 480 (by rw [H512.out]; decide))
    have V32 := Lib.hid (show Rd w (.slice (some (ad.add 480)) 32 (vc - 480)) (b.drop 480) by
      have h := HV.out.drop 480 (by rw [H512.out]; decide)
      rw [if_neg (by omega), H512.out] at h; exact h)
    have HMD := Lib.hid hMAC
    have HSE := Lib.hid (show decide (MAC = b.drop 480) = sealed b key by rw [hMAC]; rfl)
    have hlt1 : ¬ vc < 480 := by omega
    have hlt2 : ¬ vc = 480 := by omega
    have hvz : (512 : Nat) ≤ vc := hvc
    clear hMAC
    go_enter Tryd.func15, Tryd.ntmps15
    go_upto_region 1 with fail
    rw [← hw1]
    clear hw1
    go_upto_region 3 with fail
    go_quiet (fail)
    have W2 := Lib.hid (below_dN W1.out nq)
    have K2 := Lib.hid (blk_dN K1.out nq)
    have X2 := Lib.hid (blk_dN X1.out nq)
    have S2 := Lib.hid (show (w1.drewN nq).heap.size = w.heap.size + 2 from S1.out)
    obtain ⟨w2, hw2⟩ : ∃ x, x = w1.drewN nq := ⟨_, rfl⟩
    rw [← hw2] at W2 K2 X2 S2 ⊢
    clear hw2 W1 K1 X1 S1
    have RK2 := Lib.hid (show Rd w2 (.slice (some ⟨w.heap.size, 0, none⟩) 32 32) key from rd_part K2.out HKY.out (by rw [HKC.out, List.drop_zero, List.take_of_length_le (by rw [row8_len, HKY.out.1]; exact Nat.le_refl _)]) (by decide))
    have HOF := Lib.hid (hof_one_at (b := w2.heap.size) rfl RK2.out (V480.out.below W2.out) (HT.out.below W2.out) (by rw [B480.out]; decide) HMD.out)
    have A1 := Lib.hid (show w.heap.size + 1 < w2.heap.size by rw [S2.out]; omega)
    go_upto_region 5 with (first
      | (go_at_call 20; (with_reducible refine HOF.out.mono ?_); rintro e w3 ⟨rfl, b3⟩; have W3 := Lib.hid (W2.out.on b3); have X3 := Lib.hid (X2.out.below b3 X2.out.lt); have A3 := Lib.hid (show w.heap.size + 1 < w3.heap.size from Nat.lt_of_lt_of_le A1.out b3.size); clear b3; have D3 := Lib.hid (Blk.new w3 24 D0 _ rfl); have b4 := (Below.refl w3.heap.size w3).alloc (Nat.le_refl _) (.cells D0.toArray 24); have W4 := Lib.hid (W3.out.on b4); have X4 := Lib.hid (X3.out.below b4 X3.out.lt); clear b4)
      | (refine wpList_store_blk rfl 24 (.tmp 8) (.tmp 23) rfl w3.heap.size 0 (row8 MAC) rfl rfl 24 D0 D3.out (by have := M32.out; have := D32.out; omega) (by rw [M32.out]; exact infoSumL) (row8_one _) ?_; intro w5 b5 g5; rw [splice_all _ _ (by have := M32.out; have := D32.out; omega)] at b5; have D5 := Lib.hid b5; have W5 := Lib.hid (W4.out.grown g5 W4.out.size (fun q e => by have := A3.out; have := Option.some.inj e; omega)); have X5 := Lib.hid (X4.out.grown g5 (fun e => by have := A3.out; have := Option.some.inj e; omega)); clear b5 g5))
    have RM5 := Lib.hid (blk_rd_at D5.out HMB.out.2 0 32 32 (by rw [HMB.out.1]; decide) (Nat.le_refl _) (by rw [HMB.out.1]; decide))
    rw [show (MAC.drop 0).take 32 = MAC by rw [List.drop_zero, List.take_of_length_le (by rw [HMB.out.1]; exact Nat.le_refl _)]] at RM5
    have HEQ := Lib.hid (equal_any MAC (b.drop 480) _ _ w5 RM5.out (V32.out.below W5.out))
    have hAD := HAD.out
    rw [hAD] at HEQ
    clear hAD
    rw [HSE.out] at HEQ
    obtain ⟨lv, hlv⟩ : ∃ x, x = w3.heap.size := ⟨_, rfl⟩
    rw [← hlv] at HEQ
    clear RK2 HOF W2 K2 X2 S2 W3 X3 D3 W4 X4 RM5 HSE
    rw [← hlv]
    clear hlv A3
    cases hs : sealed b key with
    | false =>
      rw [hs] at HEQ
      have h40 := Lib.hid (got_open H512.out hs)
      clear hs
      go_wp2_with (first
        | (go_at_call 25; (with_reducible refine HEQ.out.mono ?_); rintro e w6 ⟨rfl, b6⟩; have W6 := Lib.hid (W5.out.on b6); have X6 := Lib.hid (X5.out.below b6 X5.out.lt); clear b6)
        | ((with_reducible show wpList _ _ _ _ _ _); refine wpList_store_blk rfl 27 (.tmp 4) (.tmp 28) rfl (w.heap.size + 1) 0 Z0 rfl rfl 27 Z0 X6.out (Nat.le_of_eq (Nat.zero_add _)) (by rw [Z68.out]; exact infoRtC) Z1.out ?_; intro wz bz gz; rw [splice_all _ _ rfl] at bz; have XZ := Lib.hid bz; have WZ := Lib.hid (W6.out.grown gz W6.out.size (fun q e => by have := Option.some.inj e; omega)); clear bz gz))
      refine bodyPost_ret (HRET.out _ rfl _ Z0 Z68.out _ XZ.out rfl) rfl ?_
      exact HNO.out 40 h40.out _ WZ.out
    | true =>
      rw [hs] at HEQ
      have HSL := Lib.hid hs
      clear hs
      have HRD := fun W (hW : Below w.heap.size w W) => pread_any b HB.out (.slice (some ad) 480 vc) W (V480.out.below hW)
      have HOK := Lib.hid (readsP_ok HB.out)
      have HN8 := Lib.hid (show (readsP b).pages.length ≤ 8 by show (pgs b (kP b)).length ≤ 8; rw [pgs_len]; exact Nat.min_le_right _ _)
      obtain ⟨R, hR⟩ : ∃ R, R = readsP b := ⟨_, rfl⟩
      have HR := Lib.hid hR
      obtain ⟨XF, hXF⟩ : ∃ XF : Value → List Value, XF = rtc R := ⟨_, rfl⟩
      have XFL := Lib.hid (fun u => show (XF u).length = 68 by rw [hXF, hR]; exact rtc_len HOK.out u)
      have XF1 := Lib.hid (fun ao n c => show ((XF (.slice ao n c)).toArray.all (·.oneCell')) = true by rw [hXF]; exact rt_one _ ao n c)
      rw [← hR] at HRD HOK HN8
      have HRD := Lib.hid HRD
      have HXF := Lib.hid hXF
      obtain ⟨n, hn⟩ : ∃ n, n = R.pages.length := ⟨_, rfl⟩
      have HN := Lib.hid hn
      rw [← hXF, ← hn] at HRD
      rw [← hn] at HN8
      clear hR hXF hn
      have V5 := Lib.hid (HRD.out)
      go_upto_region 8 with (first
        | (go_at_call 25; (with_reducible refine HEQ.out.mono ?_); rintro e w6 ⟨rfl, b6⟩; have W6 := Lib.hid (W5.out.on b6); have X6 := Lib.hid (X5.out.below b6 X5.out.lt); have HRD6 := Lib.hid (HRD.out _ W6.out); clear b6)
        | (go_at_call 26; (with_reducible refine HRD6.out.mono ?_); rintro e w7 ⟨pv, rfl, o7, b7⟩; obtain ⟨pa, pq, rfl, _⟩ := (owned_rd o7).shape; have W7 := Lib.hid (W6.out.on b7); have X7 := Lib.hid (X6.out.below b7 X6.out.lt); have O7 := Lib.hid (ownT_lower o7 (show w.heap.size + 2 ≤ w6.heap.size from X6.out.lt)); clear o7 b7; have Y7 := Lib.hid (Blk.new w7 27 Z0 _ rfl); have bA := (Below.refl w7.heap.size w7).alloc (Nat.le_refl _) (.cells Z0.toArray 27); have W8 := Lib.hid (W7.out.on bA); have X8 := Lib.hid (X7.out.below bA X7.out.lt); have O8 := Lib.hid (ownsT_on O7.out bA); clear bA)
        | (refine wpList_store_blk rfl 27 (.tmp 9) (.tmp 30) rfl w7.heap.size 0 (XF (.slice pa n pq)) rfl rfl 27 Z0 Y7.out (by have := XFL.out (.slice pa n pq); have := Z68.out; omega) (by rw [XFL.out]; exact infoRtC) (XF1.out _ _ _) ?_; intro w9 b9 g9; rw [splice_all _ _ (by have := XFL.out (.slice pa n pq); have := Z68.out; omega)] at b9; have Y9 := Lib.hid b9; have W9 := Lib.hid (W8.out.grown g9 W8.out.size (fun q e => by have := W7.out.size; have := Option.some.inj e; omega)); have X9 := Lib.hid (X8.out.grown g9 (fun e => by have := X7.out.lt; have := Option.some.inj e; omega)); have O9 := Lib.hid (ownsT_turn2 O7.out O8.out g9 (Nat.le_refl _)); have A9 := Lib.hid (show w.heap.size + 1 < w7.heap.size from X7.out.lt); clear b9 g9))
      obtain ⟨yb, hyb⟩ : ∃ x, x = w7.heap.size := ⟨_, rfl⟩
      rw [← hyb] at Y9 A9 ⊢
      clear hyb W5 X5 D5 W6 X6 W7 X7 O7 Y7 W8 X8 O8 HEQ HRD6 V5 HRD
      have RD9 := Lib.hid (owned_rd O9.out)
      rw [HN.out] at RD9
      have HM := Lib.hid (fun (h : may R = true) => play_ok R HOK.out _ w9 RD9.out (by rw [← HN.out]; have := HN8.out; omega) h)
      have HMN := Lib.hid (fun (h : may R = false) => play_no R HOK.out _ w9 RD9.out (by rw [← HN.out]; have := HN8.out; omega) h)
      rw [← HXF.out, ← HN.out] at HM HMN
      cases hm : may R with
      | false =>
        have h4 := Lib.hid (got_badP HB.out HSL.out (.inl (by rw [← HR.out]; exact hm)))
        have HL := Lib.hid (HMN.out hm)
        clear hm HM HMN
        go_wp2_with (first
          | (refine wpList_load_mid rfl 27 (.tmp 9) rfl yb 0 rfl (XF (.slice pa n pq)) _ Y9.out.range Tryd.underlying27 rfl (by rw [XFL.out]; exact infoRtC) ?_)
          | (go_at_call 21; (with_reducible refine HL.out.mono ?_); rintro e w10 ⟨rfl, b10⟩; have W10 := Lib.hid (W9.out.on b10); have X10 := Lib.hid (X9.out.below b10 X9.out.lt); clear b10)
          | ((with_reducible show wpList _ _ _ _ _ _); refine wpList_store_blk rfl 27 (.tmp 4) (.tmp 44) rfl (w.heap.size + 1) 0 Z0 rfl rfl 27 Z0 X10.out (Nat.le_of_eq (Nat.zero_add _)) (by rw [Z68.out]; exact infoRtC) Z1.out ?_; intro wz bz gz; rw [splice_all _ _ rfl] at bz; have XZ := Lib.hid bz; have WZ := Lib.hid (W10.out.grown gz W10.out.size (fun q e => by have := Option.some.inj e; omega)); clear bz gz))
        refine bodyPost_ret (HRET.out _ rfl _ Z0 Z68.out _ XZ.out rfl) rfl ?_
        exact HNO.out 4 h4.out _ WZ.out
      | true =>
        have HL := Lib.hid (HM.out hm)
        have HBO := Lib.hid (body_len HOK.out (may_iff.1 hm).2.2.2.1)
        by_cases heq : body R = b.take 480
        · have hY := Lib.hid (HYES.out (by rw [HR.out] at hm heq; exact got_yesP HB.out HSL.out hm heq))
          rw [← HR.out, ← HXF.out, ← HN.out] at hY
          have HDE := Lib.hid (decide_eq_true heq)
          clear hm heq HM HMN
          go_wp2_with (first
            | (refine wpList_load_mid rfl 27 (.tmp 9) rfl yb 0 rfl (XF (.slice pa n pq)) _ Y9.out.range Tryd.underlying27 rfl (by rw [XFL.out]; exact infoRtC) ?_)
            | (go_at_call 21; (with_reducible refine HL.out.mono ?_); rintro e w10 ⟨u10, rfl, o10, b10⟩; have W10 := Lib.hid (W9.out.on b10); have X10 := Lib.hid (X9.out.below b10 X9.out.lt); have Y10 := Lib.hid (Y9.out.below b10 Y9.out.lt); have O10 := Lib.hid (ownsT_on O9.out b10); have EQ := Lib.hid (pequal_any _ _ (body R) (b.take 480) w10 o10.rd (V480.out.below W10.out)); rw [HDE.out] at EQ; obtain ⟨ua, uc, rfl, _⟩ := o10.rd.shape; clear o10 b10)
            | (go_at_call 27; (with_reducible refine EQ.out.mono ?_); rintro e w11 ⟨rfl, e11⟩; subst e11)
            | (refine wpList_load_mid rfl 27 (.tmp 9) rfl yb 0 rfl (XF (.slice pa n pq)) _ Y10.out.range Tryd.underlying27 rfl (by rw [XFL.out]; exact infoRtC) ?_)
            | (refine wpList_store_blk rfl 27 (.tmp 4) (.tmp 45) rfl (w.heap.size + 1) 0 (XF (.slice pa n pq)) rfl rfl 27 Z0 X10.out (by have := XFL.out (.slice pa n pq); have := Z68.out; omega) (by rw [XFL.out]; exact infoRtC) (XF1.out _ _ _) ?_; intro wz bz gz; rw [splice_all _ _ (by have := XFL.out (.slice pa n pq); have := Z68.out; omega)] at bz; have XZ := Lib.hid bz; have WZ := Lib.hid (W10.out.grown gz W10.out.size (fun q e => by have := Option.some.inj e; omega)); have OZ := Lib.hid (ownT_lower (ownsT_turn O10.out gz (.inl (Nat.lt_succ_self _))) (show w.heap.size ≤ w.heap.size + 2 by omega)); clear bz gz))
          refine bodyPost_ret (HRET.out _ rfl _ (XF (.slice pa n pq)) (XFL.out _) _ XZ.out rfl) rfl ?_
          exact hY.out _ _ OZ.out WZ.out
        · have h4 := Lib.hid (got_badP HB.out HSL.out (.inr (by rw [← HR.out]; exact heq)))
          have HDE := Lib.hid (decide_eq_false heq)
          clear hm heq HM HMN
          go_wp2_with (first
            | (refine wpList_load_mid rfl 27 (.tmp 9) rfl yb 0 rfl (XF (.slice pa n pq)) _ Y9.out.range Tryd.underlying27 rfl (by rw [XFL.out]; exact infoRtC) ?_)
            | (go_at_call 21; (with_reducible refine HL.out.mono ?_); rintro e w10 ⟨u10, rfl, o10, b10⟩; have W10 := Lib.hid (W9.out.on b10); have X10 := Lib.hid (X9.out.below b10 X9.out.lt); have EQ := Lib.hid (pequal_any _ _ (body R) (b.take 480) w10 o10.rd (V480.out.below W10.out)); rw [HDE.out] at EQ; obtain ⟨ua, uc, rfl, _⟩ := o10.rd.shape; clear o10 b10)
            | (go_at_call 27; (with_reducible refine EQ.out.mono ?_); rintro e w11 ⟨rfl, e11⟩; subst e11)
            | ((with_reducible show wpList _ _ _ _ _ _); refine wpList_store_blk rfl 27 (.tmp 4) (.tmp 44) rfl (w.heap.size + 1) 0 Z0 rfl rfl 27 Z0 X10.out (Nat.le_of_eq (Nat.zero_add _)) (by rw [Z68.out]; exact infoRtC) Z1.out ?_; intro wz bz gz; rw [splice_all _ _ rfl] at bz; have XZ := Lib.hid bz; have WZ := Lib.hid (W10.out.grown gz W10.out.size (fun q e => by have := Option.some.inj e; omega)); clear bz gz))
          refine bodyPost_ret (HRET.out _ rfl _ Z0 Z68.out _ XZ.out rfl) rfl ?_
          exact HNO.out 4 h4.out _ WZ.out
  · have h4 := Lib.hid (got_short (show b.length ≠ 512 from fun e => hlen (HBL.out.trans e)) key)
    have hl2 : ¬ ((bl : Int) = 512) := by omega
    have hl3 : ((bl : Int) == 512) = false := by simpa using hl2
    have hl4 : ((bl : Int) != 512) = true := by simpa using hl2
    go_enter Tryd.func15, Tryd.ntmps15
    go_upto_region 1 with fail
    rw [← hw1]
    clear hw1
    go_wp2_with ((with_reducible show wpList _ _ _ _ _ _); refine wpList_store_blk rfl 27 (.tmp 4) (.tmp 15) rfl (w.heap.size + 1) 0 Z0 rfl rfl 27 Z0 X1.out (Nat.le_of_eq (Nat.zero_add _)) (by rw [Z68.out]; exact infoRtC) Z1.out ?_; intro wz bz gz; rw [splice_all _ _ rfl] at bz; have XZ := Lib.hid bz; have WZ := Lib.hid (W1.out.grown gz W1.out.size (fun q e => by have := Option.some.inj e; omega)); clear bz gz)
    refine bodyPost_ret (HRET.out _ rfl _ Z0 Z68.out _ XZ.out rfl) rfl ?_
    exact HNO.out 4 h4.out _ WZ.out
end Go.Proofs.YtenigdbnfepkeaaDoor
/- The newest of two roots, by the program: contracts. Written by gen_rtpnew.py. Own work. -/
namespace Go.Proofs.YtenigdbnfepkeaaDoor
open Go.ChangeShapes Go.WideShapes Go.ChangeAt Go.RowKit
namespace RT
/-- Behind the first k of two sectors: the best root, its place, the error. -/
def bst (a b key : List Nat) : Nat → Rt
  | 0 => zero
  | 1 => got a key
  | _ => newest a b key
def plc (a b key : List Nat) : Nat → Int
  | 0 => 0
  | 1 => 0
  | _ => newAt a b key
def err (a b key : List Nat) : Nat → Int
  | 0 => 40
  | 1 => if gerr a key = 0 then 0 else 40
  | _ => newErr a b key
theorem got_zero {b key : List Nat} (h : gerr b key ≠ 0) : got b key = zero := by
  unfold got
  rw [if_neg]
  intro q
  apply h
  unfold gerr
  have q2 := q
  unfold okG at q2
  rw [Bool.and_eq_true, decide_eq_true_iff, Bool.and_eq_true] at q2
  rw [if_pos q2.1, if_pos q2.2.1, if_pos q]
theorem nstep (a b key : List Nat) {k : Nat} (hk : k < 2) :
    (gerr ([a, b][k]'hk) key ≠ 0 → bst a b key (k + 1) = bst a b key k ∧ plc a b key (k + 1) = plc a b key k ∧ err a b key (k + 1) = err a b key k) ∧
    (gerr ([a, b][k]'hk) key = 0 → (err a b key k ≠ 0 ∨ (bst a b key k).ver < (got ([a, b][k]'hk) key).ver) → bst a b key (k + 1) = got ([a, b][k]'hk) key ∧ plc a b key (k + 1) = k ∧ err a b key (k + 1) = 0) ∧
    (gerr ([a, b][k]'hk) key = 0 → err a b key k = 0 → ¬ (bst a b key k).ver < (got ([a, b][k]'hk) key).ver → bst a b key (k + 1) = bst a b key k ∧ plc a b key (k + 1) = plc a b key k ∧ err a b key (k + 1) = err a b key k) := by
  have h40 : (40 : Int) ≠ 0 := by decide
  match k, hk with
  | 0, _ =>
    show (gerr a key ≠ 0 → got a key = zero ∧ (0 : Int) = 0 ∧ (if gerr a key = 0 then (0 : Int) else 40) = 40) ∧ (gerr a key = 0 → _ → got a key = got a key ∧ (0 : Int) = 0 ∧ (if gerr a key = 0 then (0 : Int) else 40) = 0) ∧ (gerr a key = 0 → (40 : Int) = 0 → _ → _)
    exact ⟨fun h => ⟨got_zero h, rfl, if_neg h⟩, fun h _ => ⟨rfl, rfl, if_pos h⟩, fun _ h => absurd h h40⟩
  | 1, _ =>
    show (gerr b key ≠ 0 → newest a b key = got a key ∧ newAt a b key = 0 ∧ newErr a b key = (if gerr a key = 0 then (0 : Int) else 40)) ∧ (gerr b key = 0 → ((if gerr a key = 0 then (0 : Int) else 40) ≠ 0 ∨ (got a key).ver < (got b key).ver) → newest a b key = got b key ∧ newAt a b key = 1 ∧ newErr a b key = 0) ∧ (gerr b key = 0 → (if gerr a key = 0 then (0 : Int) else 40) = 0 → ¬ (got a key).ver < (got b key).ver → newest a b key = got a key ∧ newAt a b key = 0 ∧ newErr a b key = (if gerr a key = 0 then (0 : Int) else 40))
    by_cases ha : gerr a key = 0
    · have n2 : none2 a b key = false := by unfold none2; rw [decide_eq_false (by simp [ha])]; rfl
      unfold newest newAt newErr
      rw [if_pos ha, n2]
      refine ⟨fun h => ?_, fun h q => ?_, fun h _ q => ?_⟩
      · have s : second a b key = false := by unfold second; rw [decide_eq_false (by simp [ha]), decide_eq_false h]; rfl
        rw [s]; exact ⟨rfl, rfl, rfl⟩
      · have q := q.resolve_left (by simp)
        have s : second a b key = true := by unfold second; rw [decide_eq_true h, decide_eq_true q]; simp
        rw [s]; exact ⟨rfl, rfl, rfl⟩
      · have s : second a b key = false := by unfold second; rw [decide_eq_false (by simp [ha]), decide_eq_false q]; simp
        rw [s]; exact ⟨rfl, rfl, rfl⟩
    · have s : second a b key = true := by unfold second; rw [decide_eq_true ha]; rfl
      unfold newest newAt newErr
      rw [if_neg ha, s]
      refine ⟨fun h => ?_, fun h q => ?_, fun h q => absurd q h40⟩
      · have n2 : none2 a b key = true := by unfold none2; rw [decide_eq_true ha, decide_eq_true h]; rfl
        rw [n2]; exact ⟨(got_zero ha).symm, rfl, rfl⟩
      · have n2 : none2 a b key = false := by unfold none2; rw [decide_eq_false (show ¬ gerr b key ≠ 0 by simp [h])]; simp
        rw [n2]; exact ⟨rfl, rfl, rfl⟩
theorem bst_ok {a b : List Nat} (ha : ∀ k, gb a k < 256) (hb : ∀ k, gb b k < 256) (key : List Nat) (k : Nat) : Ok (bst a b key k) := by
  match k with
  | 0 => exact zero_ok
  | 1 => exact got_ok ha key
  | _ + 2 =>
    show Ok (newest a b key)
    unfold newest
    split
    · exact zero_ok
    · split
      · exact got_ok hb key
      · exact got_ok ha key
end RT
open RT
theorem infoKeyN : (Tryd.prog.info? 28).map (·.size) = some 32 := by kernel_rfl
set_option maxRecDepth 100000 in
set_option maxHeartbeats 4000000 in
theorem pnew_any (a b key : List Nat) (hkey : Bytes 32 key) (ha : ∀ k, gb a k < 256) (hb : ∀ k, gb b k < 256) (v : Value) (w : World) (hv : Rds w v [a, b]) (ht : TabP w) : Calls Tryd.prog 30 #[.agg (row8 key).toArray, v] w fun e w' => ∃ pv, e = .returned (.tuple #[.agg (rtc (newest a b key) pv).toArray, .int .i64 (newAt a b key), .int .i64 (newErr a b key)]) ∧ w'.ownsRow w.heap.size 45 33 pv (newest a b key).pages.length (pcs (newest a b key).pages) ∧ Below w.heap.size w w' := by
  obtain ⟨va, vc, hve, _⟩ := hv.shape
  have hve : v = .slice va 2 vc := hve
  subst hve
  obtain ⟨G, hG⟩ : ∃ G : Ending → World → Prop, G = fun e w' => ∃ pv, e = .returned (.tuple #[.agg (rtc (newest a b key) pv).toArray, .int .i64 (newAt a b key), .int .i64 (newErr a b key)]) ∧ w'.ownsRow w.heap.size 45 33 pv (newest a b key).pages.length (pcs (newest a b key).pages) ∧ Below w.heap.size w w' := ⟨_, rfl⟩
  have HG := Lib.hid (show ∀ pv W, World.ownsRow W w.heap.size 45 33 pv (bst a b key 2).pages.length (pcs (bst a b key 2).pages) → Below w.heap.size w W → G (.returned (.tuple #[.agg (rtc (bst a b key 2) pv).toArray, .int .i64 (plc a b key 2), .int .i64 (err a b key 2)])) W from by
    intro pv W h4 h5
    rw [hG]
    exact ⟨pv, rfl, h4, h5⟩)
  rw [← hG]
  clear hG
  have HV := Lib.hid hv
  have HT := Lib.hid ht
  have HKY := Lib.hid hkey
  have OB := Lib.hid (bst_ok ha hb key)
  have NS := Lib.hid (fun k (hk : k < 2) => nstep a b key hk)
  have HBY := Lib.hid (show ∀ k (hk : k < 2), ∀ j, gb ([a, b][k]'hk) j < 256 from fun k hk => by
    match k, hk with
    | 0, _ => exact ha
    | 1, _ => exact hb)
  have HGET := Lib.hid (show ∀ k (hk : k < 2) x W, Rd W x ([a, b][k]'hk) → Below w.heap.size w W → Calls Tryd.prog 15 #[x, .agg (row8 key).toArray] W (fun e w' => ∃ pv, e = .returned (.tuple #[.agg (rtc (got ([a, b][k]'hk) key) pv).toArray, .int .i64 (gerr ([a, b][k]'hk) key)]) ∧ w'.ownsRow W.heap.size 45 33 pv (got ([a, b][k]'hk) key).pages.length (pcs (got ([a, b][k]'hk) key).pages) ∧ Below W.heap.size W w') from fun k hk x W hx hW => pget_any _ key hkey x W hx (ht.below hW))
  obtain ⟨KC, hKC⟩ : ∃ L, L = row8 key := ⟨_, rfl⟩
  obtain ⟨Z0, hZ0⟩ : ∃ L, L = rtc zero (.slice none 0 0) := ⟨_, rfl⟩
  have hz : ∀ w, (zeroValue 27).run Tryd.prog w = .ok (.agg Z0.toArray) w := by rw [hZ0]; exact zeroRt
  have Z68 := Lib.hid (show Z0.length = 68 by rw [hZ0]; exact rtc_len zero_ok _)
  have K32 := Lib.hid (show KC.length = 32 by rw [hKC, row8_len, hkey.1])
  have HZ0 := Lib.hid (show Z0 = rtc (bst a b key 0) (.slice none 0 0) from hZ0)
  have HP0 := Lib.hid (show (bst a b key 0).pages = [] ∧ plc a b key 0 = 0 ∧ err a b key 0 = 40 from ⟨rfl, rfl, rfl⟩)
  rw [← hKC] at HGET ⊢
  obtain ⟨w1, hw1⟩ : ∃ x, x = ((w.alloc (.cells KC.toArray 28)).alloc (.cells Z0.toArray 27)).alloc (.cells Z0.toArray 27) := ⟨_, rfl⟩
  have W1 := Lib.hid (show Below w.heap.size w w1 by rw [hw1]; exact (((Below.refl w.heap.size w).alloc (Nat.le_refl _) _).alloc (by simp) _).alloc (by simp; omega) _)
  have K1 := Lib.hid (show Blk w1 w.heap.size 28 KC by rw [hw1]; exact ((Blk.new w 28 KC _ rfl).alloc _).alloc _)
  have X1 := Lib.hid (show Blk w1 (w.heap.size + 1) 27 Z0 by rw [hw1]; exact (Blk.new _ 27 Z0 _ (by simp)).alloc _)
  have Y1 := Lib.hid (show Blk w1 (w.heap.size + 2) 27 Z0 by rw [hw1]; exact Blk.new _ 27 Z0 _ (by simp))
  have HRET := Lib.hid (fun (fn : Func) (hf : fn.results = #[.cell 4 27, .tmp 5, .tmp 6]) (tmps : Array Value) (L : List Value) (hl : L.length = 68) W (hW : Blk W (w.heap.size + 1) 27 L) (h4 : tmps.getD 4 undef = .pointer (some ⟨w.heap.size + 1, 0, none⟩)) => (results_mid3R (P := Tryd.prog) hf tmps W (w.heap.size + 1) L _ h4 hW.range Tryd.underlying27 rfl (by rw [hl]; exact infoRtC)))
  obtain ⟨B, hB⟩ : ∃ B, B = bst a b key := ⟨_, rfl⟩
  obtain ⟨PL, hPL⟩ : ∃ B, B = plc a b key := ⟨_, rfl⟩
  obtain ⟨ER, hER⟩ : ∃ B, B = err a b key := ⟨_, rfl⟩
  rw [← hB] at HG OB NS HZ0 HP0
  rw [← hPL] at HG NS HP0
  rw [← hER] at HG NS HP0
  clear hv ht hkey ha hb hKC hZ0 hB hPL hER
  go_enter Tryd.func30, Tryd.ntmps30
  go_upto_region 3 with fail
  rw [← hw1]
  clear hw1
  go_upto_region 4 with fail

  go_loopw [8, 9, 16] (fun p e i wr => ∃ (k : Nat) (pa : Option Addr) (pn pq : Nat), k ≤ 2 ∧ p = .int .i64 (PL k) ∧ e = .int .i64 (ER k) ∧ i = .int .i64 (k : Int) ∧ Below w.heap.size w wr ∧ Blk wr w.heap.size 28 KC ∧ Blk wr (w.heap.size + 1) 27 Z0 ∧ Blk wr (w.heap.size + 2) 27 (rtc (B k) (.slice pa pn pq)) ∧ wr.ownsRow (w.heap.size + 3) 45 33 (.slice pa pn pq) (B k).pages.length (pcs (B k).pages)) (fun _ _ i _ => 2 - (intOf i).toNat)
  case atStart => exact ⟨0, none, 0, 0, Nat.zero_le _, by rw [HP0.out.2.1], by rw [HP0.out.2.2], rfl, W1.out, K1.out, X1.out, by rw [← HZ0.out]; exact Y1.out, by rw [HP0.out.1]; exact owned_none _ _ _ _⟩
  case round =>
    clear W1 K1 X1 Y1
    obtain ⟨k, pa, pn, pq, hk, rfl, rfl, rfl, hw, hk1, hx1, hy1, ho1⟩ := hrel
    have W1 := Lib.hid hw
    have K1 := Lib.hid hk1
    have X1 := Lib.hid hx1
    have Y1 := Lib.hid hy1
    have O1 := Lib.hid ho1
    clear hw hk1 hx1 hy1 ho1
    obtain ⟨R0, hR0⟩ : ∃ x, x = B k := ⟨_, rfl⟩
    obtain ⟨P0, hP0⟩ : ∃ x, x = PL k := ⟨_, rfl⟩
    obtain ⟨E0, hE0⟩ : ∃ x, x = ER k := ⟨_, rfl⟩
    have OK0 := Lib.hid (OB.out k)
    rw [← hR0] at Y1 O1 OK0
    rw [← hP0, ← hE0]
    by_cases hlt : k < 2
    · have NK := NS.out k hlt
      have BY := HBY.out k hlt
      have GT := HGET.out k hlt
      obtain ⟨ad, x, rfl, hc, hr⟩ := (HV.out.below W1.out).at_ k hlt
      obtain ⟨S, hS⟩ : ∃ S, S = [a, b][k]'hlt := ⟨_, rfl⟩
      rw [← hS] at hr
      simp only [← hS] at NK BY GT
      rw [← hR0, ← hP0, ← hE0] at NK
      obtain ⟨xa, xc, rfl, _⟩ := hr.shape
      have HR := Lib.hid hr
      have GT := Lib.hid (GT _ wr HR.out W1.out)
      have OKR := Lib.hid (got_ok BY key)
      obtain ⟨R, hR⟩ : ∃ x, x = got S key := ⟨_, rfl⟩
      obtain ⟨g, hg⟩ : ∃ x, x = gerr S key := ⟨_, rfl⟩
      rw [← hR] at OKR GT NK
      rw [← hg] at GT NK
      have NK := Lib.hid NK
      obtain ⟨sl, hsl⟩ : ∃ n, n = S.length := ⟨_, rfl⟩
      rw [← hsl] at hc GT
      have hklt : (k : Int) < 2 := by omega
      have hk0 : (0 : Int) ≤ (k : Int) := by omega
      have SZ := Lib.hid (show w.heap.size + 3 ≤ wr.heap.size from Y1.out.lt)
      clear hS hr BY hR hg hsl hR0 hP0 hE0
      have RL := Lib.hid (fun u => rtc_len OKR.out u)
      have R0L := Lib.hid (fun u => rtc_len OK0.out u)
      go_upto_region 7 with (first
        | (refine wpList_load_mid rfl 28 (.tmp 2) rfl w.heap.size 0 rfl KC _ K1.out.range Tryd.underlying28 rfl (by rw [K32.out]; exact infoKeyN) ?_)
        | (go_at_call 15; (with_reducible refine GT.out.mono ?_); rintro e w2 ⟨pv, rfl, o2, b2⟩; obtain ⟨qa, qq, rfl, _⟩ := (owned_rd o2).shape; have W2 := Lib.hid (W1.out.on b2); have K2 := Lib.hid (K1.out.below b2 K1.out.lt); have X2 := Lib.hid (X1.out.below b2 X1.out.lt); have Y2 := Lib.hid (Y1.out.below b2 Y1.out.lt); have O2 := Lib.hid (ownsT_on O1.out b2); have Q2 := Lib.hid (ownT_lower o2 SZ.out); have SZ2 := Lib.hid (show w.heap.size + 3 ≤ w2.heap.size from Nat.le_trans SZ.out b2.size); clear o2 b2; have N2 := Lib.hid (Blk.new w2 27 Z0 _ rfl); have bA := (Below.refl w2.heap.size w2).alloc (Nat.le_refl _) (.cells Z0.toArray 27); have W3 := Lib.hid (W2.out.on bA); have K3 := Lib.hid (K2.out.below bA K2.out.lt); have X3 := Lib.hid (X2.out.below bA X2.out.lt); have Y3 := Lib.hid (Y2.out.below bA Y2.out.lt); have O3 := Lib.hid (ownsT_on O2.out bA); have Q3 := Lib.hid (ownsT_on Q2.out bA); clear bA)
        | (refine wpList_store_blk rfl 27 (.tmp 12) (.tmp 25) rfl w2.heap.size 0 (rtc R (.slice qa R.pages.length qq)) rfl rfl 27 Z0 N2.out (by have := RL.out (.slice qa R.pages.length qq); have := Z68.out; omega) (by rw [RL.out]; exact infoRtC) (rt_one _ _ _ _) ?_; intro w4 b4 g4; rw [splice_all _ _ (by have := RL.out (.slice qa R.pages.length qq); have := Z68.out; omega)] at b4; have N4 := Lib.hid b4; have W4 := Lib.hid (W3.out.grown g4 W3.out.size (fun q e => by have := SZ2.out; have := Option.some.inj e; omega)); have K4 := Lib.hid (K3.out.grown g4 (fun e => by have := SZ2.out; have := Option.some.inj e; omega)); have X4 := Lib.hid (X3.out.grown g4 (fun e => by have := SZ2.out; have := Option.some.inj e; omega)); have Y4 := Lib.hid (Y3.out.grown g4 (fun e => by have := SZ2.out; have := Option.some.inj e; omega)); have O4 := Lib.hid (ownsT_turn2 O2.out O3.out g4 (Nat.le_refl _)); have Q4 := Lib.hid (ownsT_turn2 Q2.out Q3.out g4 (Nat.le_refl _)); clear b4 g4))
      obtain ⟨nb, hnb⟩ : ∃ x, x = w2.heap.size := ⟨_, rfl⟩
      rw [← hnb] at N4 ⊢
      clear hnb W1 K1 X1 Y1 O1 W2 K2 X2 Y2 O2 Q2 N2 W3 K3 X3 Y3 O3 Q3 GT hc HR
      have c0 := N4.out.cell 0 _ (rtc_ver _ _)
      have d0 := Y4.out.cell 0 _ (rtc_ver _ _)
      obtain ⟨rv, hrv⟩ : ∃ x, x = R.ver := ⟨_, rfl⟩
      obtain ⟨bv, hbv⟩ : ∃ x, x = R0.ver := ⟨_, rfl⟩
      rw [← hrv] at c0 NK
      rw [← hbv] at d0 NK
      clear hrv hbv
      obtain ⟨XR, hXR⟩ : ∃ x, x = rtc R (.slice qa R.pages.length qq) := ⟨_, rfl⟩
      have HXR := Lib.hid hXR
      have XRL := Lib.hid (show XR.length = 68 by rw [hXR]; exact RL.out _)
      have XR1 := Lib.hid (show (XR.toArray.all (·.oneCell')) = true by rw [hXR]; exact rt_one _ _ _ _)
      rw [← hXR] at N4 ⊢
      clear hXR
      have STAY := Lib.hid (fun (h : B (k + 1) = R0 ∧ PL (k + 1) = P0 ∧ ER (k + 1) = E0) => (show ∃ (k' : Nat) (pa : Option Addr) (pn pq : Nat), k' = k + 1 ∧ P0 = PL k' ∧ E0 = ER k' ∧ Blk w4 (w.heap.size + 2) 27 (rtc (B k') (.slice pa pn pq)) ∧ w4.ownsRow (w.heap.size + 3) 45 33 (.slice pa pn pq) (B k').pages.length (pcs (B k').pages) from
        ⟨k + 1, pa, pn, pq, rfl, h.2.1.symm, h.2.2.symm, by rw [h.1]; exact Y4.out, by rw [h.1]; exact O4.out⟩))
      by_cases hg : g = 0
      · by_cases hE : E0 = 0
        · by_cases hv : bv < rv
          · have hvv : (bv : Int) < (rv : Int) := by omega
            have HH := Lib.hid (NK.out.2.1 hg (.inr hv))
            subst hg hE
            have HN := Lib.hid (HH.out)
            clear NK STAY
            go_wp2_with (first
              | (refine wpList_load_mid rfl 27 (.tmp 12) rfl nb 0 rfl XR _ N4.out.range Tryd.underlying27 rfl (by rw [XRL.out]; exact infoRtC) ?_)
              | (refine wpList_store_blk rfl 27 (.tmp 7) (.tmp 40) rfl (w.heap.size + 2) 0 XR rfl rfl 27 (rtc R0 (.slice pa pn pq)) Y4.out (by have := XRL.out; have := R0L.out (.slice pa pn pq); omega) (by rw [XRL.out]; exact infoRtC) XR1.out ?_; intro w5 b5 g5; rw [splice_all _ _ (by have := XRL.out; have := R0L.out (.slice pa pn pq); omega)] at b5; rw [HXR.out] at b5; have Y5 := Lib.hid b5; have W5 := Lib.hid (W4.out.grown g5 W4.out.size (fun q e => by have := Option.some.inj e; omega)); have K5 := Lib.hid (K4.out.grown g5 (fun e => by have := Option.some.inj e; omega)); have X5 := Lib.hid (X4.out.grown g5 (fun e => by have := Option.some.inj e; omega)); have Q5 := Lib.hid (ownsT_turn Q4.out g5 (.inl (Nat.lt_succ_self _))); clear b5 g5))
            exact ⟨⟨k + 1, qa, R.pages.length, qq, by omega, by rw [HN.out.2.1], by rw [HN.out.2.2], by go_num, W5.out, K5.out, X5.out, by rw [HN.out.1]; exact Y5.out, by rw [HN.out.1]; exact Q5.out⟩, by simp [intOf]; omega⟩
          · have hvv : ¬ (bv : Int) < (rv : Int) := by omega
            have HH := Lib.hid (NK.out.2.2 hg hE hv)
            subst hg hE
            obtain ⟨k', pa', pn', pq', rfl, h1, h2, h3, h4⟩ := STAY.out (HH.out)
            have HS1 := Lib.hid h1
            have HS2 := Lib.hid h2
            have HS3 := Lib.hid h3
            have HS4 := Lib.hid h4
            clear h1 h2 h3 h4 NK STAY
            go_wp2_with fail
            exact ⟨⟨k + 1, pa', pn', pq', by omega, by rw [HS1.out], by rw [HS2.out], by go_num, W4.out, K4.out, X4.out, HS3.out, HS4.out⟩, by simp [intOf]; omega⟩
        · have q1 : (E0 == 0) = false := by rw [beq_eq_false_iff_ne]; exact hE
          have q2 : (E0 != 0) = true := by rw [bne, q1]; rfl
          have HH := Lib.hid (NK.out.2.1 hg (.inl hE))
          subst hg
          have HN := Lib.hid (HH.out)
          clear NK STAY
          go_wp2_with (first
            | (refine wpList_load_mid rfl 27 (.tmp 12) rfl nb 0 rfl XR _ N4.out.range Tryd.underlying27 rfl (by rw [XRL.out]; exact infoRtC) ?_)
            | (refine wpList_store_blk rfl 27 (.tmp 7) (.tmp 40) rfl (w.heap.size + 2) 0 XR rfl rfl 27 (rtc R0 (.slice pa pn pq)) Y4.out (by have := XRL.out; have := R0L.out (.slice pa pn pq); omega) (by rw [XRL.out]; exact infoRtC) XR1.out ?_; intro w5 b5 g5; rw [splice_all _ _ (by have := XRL.out; have := R0L.out (.slice pa pn pq); omega)] at b5; rw [HXR.out] at b5; have Y5 := Lib.hid b5; have W5 := Lib.hid (W4.out.grown g5 W4.out.size (fun q e => by have := Option.some.inj e; omega)); have K5 := Lib.hid (K4.out.grown g5 (fun e => by have := Option.some.inj e; omega)); have X5 := Lib.hid (X4.out.grown g5 (fun e => by have := Option.some.inj e; omega)); have Q5 := Lib.hid (ownsT_turn Q4.out g5 (.inl (Nat.lt_succ_self _))); clear b5 g5))
          exact ⟨⟨k + 1, qa, R.pages.length, qq, by omega, by rw [HN.out.2.1], by rw [HN.out.2.2], by go_num, W5.out, K5.out, X5.out, by rw [HN.out.1]; exact Y5.out, by rw [HN.out.1]; exact Q5.out⟩, by simp [intOf]; omega⟩
      · have q1 : (g == 0) = false := by rw [beq_eq_false_iff_ne]; exact hg
        have q2 : (g != 0) = true := by rw [bne, q1]; rfl
        have HH := Lib.hid (NK.out.1 hg)
        obtain ⟨k', pa', pn', pq', rfl, h1, h2, h3, h4⟩ := STAY.out (HH.out)
        have HS1 := Lib.hid h1
        have HS2 := Lib.hid h2
        have HS3 := Lib.hid h3
        have HS4 := Lib.hid h4
        clear h1 h2 h3 h4 NK STAY
        go_wp2_with fail
        exact ⟨⟨k + 1, pa', pn', pq', by omega, by rw [HS1.out], by rw [HS2.out], by go_num, W4.out, K4.out, X4.out, HS3.out, HS4.out⟩, by simp [intOf]; omega⟩
    · obtain rfl : k = 2 := by omega
      have hkk : ¬ ((2 : Nat) : Int) < 2 := by omega
      have R0L := Lib.hid (rtc_len OK0.out (.slice pa pn pq))
      have HR0 := Lib.hid hR0
      obtain ⟨XR, hXR⟩ : ∃ x, x = rtc R0 (.slice pa pn pq) := ⟨_, rfl⟩
      have HXR := Lib.hid hXR
      have XR1 := Lib.hid (show (XR.toArray.all (·.oneCell')) = true by rw [hXR]; exact rt_one _ _ _ _)
      rw [← hXR] at Y1 R0L
      have HGR := Lib.hid (HG.out)
      rw [hP0, hE0]
      clear hXR hR0 hP0 hE0
      go_wp2_with (first
        | (refine wpList_load_mid rfl 27 (.tmp 7) rfl (w.heap.size + 2) 0 rfl XR _ Y1.out.range Tryd.underlying27 rfl (by rw [R0L.out]; exact infoRtC) ?_)
        | (refine wpList_store_blk rfl 27 (.tmp 4) (.tmp 43) rfl (w.heap.size + 1) 0 XR rfl rfl 27 Z0 X1.out (by have := R0L.out; have := Z68.out; omega) (by rw [R0L.out]; exact infoRtC) XR1.out ?_; intro w5 b5 g5; rw [splice_all _ _ (by have := R0L.out; have := Z68.out; omega)] at b5; have X5 := Lib.hid b5; have W5 := Lib.hid (W1.out.grown g5 W1.out.size (fun q e => by have := Option.some.inj e; omega)); have O5 := Lib.hid (ownT_lower (ownsT_turn O1.out g5 (.inl (by omega))) (show w.heap.size ≤ w.heap.size + 3 by omega)); clear b5 g5))
      refine bodyPost_ret (HRET.out _ rfl _ XR R0L.out _ X5.out rfl) rfl ?_
      have q := HGR.out (.slice pa pn pq) w5
      rw [← HR0.out, ← HXR.out] at q
      exact q O5.out W5.out
set_option maxRecDepth 100000 in
set_option maxHeartbeats 2000000 in
theorem pnewest_any (a b key : List Nat) (hkey : Bytes 32 key) (u v : Value) (w : World) (hu : Rd w u a) (hv : Rd w v b) (ht : TabP w) : Calls Tryd.prog 17 #[u, v, .agg (row8 key).toArray] w fun e w' => ∃ pv, e = .returned (.tuple #[.agg (rtc (newest a b key) pv).toArray, .int .i64 (newAt a b key), .int .i64 (newErr a b key)]) ∧ w'.ownsRow w.heap.size 45 33 pv (newest a b key).pages.length (pcs (newest a b key).pages) ∧ Below w.heap.size w w' := by
  obtain ⟨ua, uc, rfl, _⟩ := hu.shape
  obtain ⟨va, vc, rfl, _⟩ := hv.shape
  obtain ⟨Z0, hZ0⟩ : ∃ L, L = rtc zero (.slice none 0 0) := ⟨_, rfl⟩
  have hz : ∀ w, (zeroValue 27).run Tryd.prog w = .ok (.agg Z0.toArray) w := by rw [hZ0]; exact zeroRt
  have Z68 := Lib.hid (show Z0.length = 68 by rw [hZ0]; exact rtc_len zero_ok _)
  obtain ⟨w1, hw1⟩ : ∃ x, x = (w.alloc (.cells (row8 key).toArray 28)).alloc (.cells Z0.toArray 27) := ⟨_, rfl⟩
  have W1 := Lib.hid (show Below w.heap.size w w1 by rw [hw1]; exact ((Below.refl w.heap.size w).alloc (Nat.le_refl _) _).alloc (by simp) _)
  have K1 := Lib.hid (show Blk w1 w.heap.size 28 (row8 key) by rw [hw1]; exact (Blk.new w 28 _ _ rfl).alloc _)
  have X1 := Lib.hid (show Blk w1 (w.heap.size + 1) 27 Z0 by rw [hw1]; exact Blk.new _ 27 Z0 _ (by simp))
  obtain ⟨un, hun⟩ : ∃ n, n = a.length := ⟨_, rfl⟩
  obtain ⟨vn, hvn⟩ : ∃ n, n = b.length := ⟨_, rfl⟩
  have SB := Lib.hid ((Below.refl w1.heap.size w1).alloc (Nat.le_refl _) (.cells #[.slice ua a.length uc, .slice va b.length vc] 30))
  have HN := Lib.hid (pnew_any a b key hkey hu.byte hv.byte _ _ (rds_two (hu.below W1.out) (hv.below W1.out) rfl) (ht.below (W1.out.on SB.out)))
  have NL := Lib.hid (fun p => rtc_len (bst_ok hu.byte hv.byte key 2) p)
  obtain ⟨R, hR⟩ : ∃ x, x = newest a b key := ⟨_, rfl⟩
  have NL := Lib.hid (show ∀ p, (rtc R p).length = 68 by rw [hR]; exact NL.out)
  obtain ⟨at_, hat⟩ : ∃ x, x = newAt a b key := ⟨_, rfl⟩
  obtain ⟨er, her⟩ : ∃ x, x = newErr a b key := ⟨_, rfl⟩
  have K32 := Lib.hid (show (row8 key).length = 32 by rw [row8_len, hkey.1])
  obtain ⟨KC, hKC⟩ : ∃ x, x = row8 key := ⟨_, rfl⟩
  rw [← hR, ← hat, ← her] at HN
  rw [← hR, ← hat, ← her]
  rw [← hun, ← hvn] at HN SB
  rw [← hun, ← hvn]
  rw [← hKC] at HN K1 K32 hw1
  rw [← hKC]
  clear hZ0 hun hvn hR hat her hKC hu hv ht hkey
  go_enter Tryd.func17, Tryd.ntmps17
  go_upto_region 1 with fail
  rw [← hw1]
  clear hw1
  go_wp2_with (first
    | (refine wpList_load_mid rfl 28 (.tmp 5) rfl w.heap.size 0 rfl KC _ K1.out.range Tryd.underlying28 rfl (by rw [K32.out]; exact infoKeyN) ?_)
    | (go_at_call 30; (with_reducible refine HN.out.mono ?_); rintro e w2 ⟨pv, rfl, o2, b2⟩; obtain ⟨pa, pq, rfl, _⟩ := (owned_rd o2).shape; have b3 := SB.out.on b2; have W2 := Lib.hid (W1.out.on b3); have X2 := Lib.hid (X1.out.below b3 X1.out.lt); have O2 := Lib.hid (ownT_lower o2 (show w.heap.size + 2 ≤ _ from Nat.le_trans X1.out.lt SB.out.size)); clear o2 b2 b3)
    | (refine wpList_store_blk rfl 27 (.tmp 6) (.tmp 14) rfl (w.heap.size + 1) 0 (rtc R (.slice pa R.pages.length pq)) rfl rfl 27 Z0 X2.out (by have := NL.out (.slice pa R.pages.length pq); have := Z68.out; omega) (by rw [NL.out]; exact infoRtC) (rt_one _ _ _ _) ?_; intro w3 b3 g3; rw [splice_all _ _ (by have := NL.out (.slice pa R.pages.length pq); have := Z68.out; omega)] at b3; have X3 := Lib.hid b3; have W3 := Lib.hid (W2.out.grown g3 W2.out.size (fun q e => by have := Option.some.inj e; omega)); have O3 := Lib.hid (ownT_lower (ownsT_turn O2.out g3 (.inl (Nat.lt_succ_self _))) (show w.heap.size ≤ w.heap.size + 2 by omega)); clear b3 g3))
  refine bodyPost_ret (results_mid3R (P := Tryd.prog) rfl _ w3 (w.heap.size + 1) (rtc R (.slice pa R.pages.length pq)) _ rfl X3.out.range Tryd.underlying27 rfl (by rw [NL.out]; exact infoRtC)) rfl ?_
  exact ⟨_, rfl, O3.out, W3.out⟩
end Go.Proofs.YtenigdbnfepkeaaDoor

/- The document's answer takes a snapshot away: contract. Written by gen_ctacr.py. Own work. -/
import Derived.Test.YtkagapgganoomaaCtDrop
import Derived.Test.YtkagapgganoomaaFacG
namespace Go.Proofs.Ytkagapgganoomaa
open Go.ChangeShapes Go.WideShapes Go.ChangeAt Go.RowKit
open RT CT
set_option maxRecDepth 100000 in
set_option maxHeartbeats 8000000 in
theorem crdrop_any (c : Ct) (hc : CT.Ok c) (nm : ByteArray) (v : Value) (w : World) (hv : RdT 34 w v c.snaps.length (sncs c.snaps)) (hn1 : c.snaps.length ≤ 140737488355328) :
    Calls Try.prog 26 #[.agg (ctc c v).toArray, .string nm] w fun e w' => ∃ u, e = .returned (.tuple #[.agg (ctc (CT.drop c nm).1 u).toArray, .int .i64 (CT.drop c nm).2]) ∧ w'.ownsRow w.heap.size 60 34 u (CT.drop c nm).1.snaps.length (sncs (CT.drop c nm).1.snaps) ∧ Below w.heap.size w w' := by
  obtain ⟨ra, rq, rfl, hcap⟩ := hv.shape
  obtain ⟨L, hL⟩ : ∃ L, L = ctc c (.slice ra c.snaps.length rq) := ⟨_, rfl⟩
  obtain ⟨Z, hZ⟩ : ∃ Z, Z = ctc CT.zero (.slice none 0 0) := ⟨_, rfl⟩
  have hz : ∀ w, (zeroValue 29).run Try.prog w = .ok (.agg Z.toArray) w := by rw [hZ]; exact zeroCt
  have hbr : Try.prog.built 29 [] = some Z.toArray := by rw [hZ]; exact builtCt0
  have Z34 := Lib.hid (show Z.length = 34 by rw [hZ]; exact ctc_len CT.zp_ok _)
  have ZO := Lib.hid (show Z.toArray.all (·.oneCell') = true by rw [hZ]; exact ctc_all rfl)
  have L34 := Lib.hid (show L.length = 34 by rw [hL]; exact ctc_len hc.top _)
  have W1 := Lib.hid (((Below.refl w.heap.size w).alloc (Nat.le_refl _) (.cells L.toArray 29)).alloc (by simp) (.cells Z.toArray 29))
  have X1 := Lib.hid ((Blk.new w 29 L _ rfl).alloc (.cells Z.toArray 29))
  have Y1 := Lib.hid (Blk.new (w.alloc (.cells L.toArray 29)) 29 Z (w.heap.size + 1) (by simp))
  have C1 := Lib.hid (show L[33]? = some (.slice ra c.snaps.length rq) by rw [hL]; exact ctc_snaps hc.top _)
  have HV := Lib.hid hv
  have HL := Lib.hid hc.snaps
  have HCK := Lib.hid (fun W (h : RdT 34 W (.slice ra c.snaps.length rq) c.snaps.length (sncs c.snaps)) => rccheck_any c hc _ W h)
  have HPL := Lib.hid (fun W (h : RdT 34 W (.slice ra c.snaps.length rq) c.snaps.length (sncs c.snaps)) => rplace_any c hc nm _ W h hn1)
  rw [← hL] at HCK HPL
  have HZ := Lib.hid hZ
  clear hZ
  have HX := Lib.hid (show CT.drop c nm = if CT.check c ≠ 0 then (CT.zero, CT.check c) else if plc c.snaps nm < 0 then (CT.zero, 22) else (⟨c.top, without c.snaps (plc c.snaps nm).toNat⟩, 0) from rfl)
  by_cases hok : CT.check c = 0 ∧ 0 ≤ plc c.snaps nm
  · obtain ⟨k, hk, hp, -⟩ : ∃ (k : Nat) (hk : k < c.snaps.length), plc c.snaps nm = (k : Int) ∧ c.snaps[k].name = nm := by
      rcases plc_cases c.snaps nm with ⟨h, -⟩ | h
      · omega
      · exact h
    have h64 : c.snaps.length ≤ 64 := (check_zero.1 hok.1).1
    have hX : CT.drop c nm = (⟨c.top, without c.snaps (plc c.snaps nm).toNat⟩, 0) := by rw [HX.out, if_neg (by rw [hok.1]; decide), if_neg (by omega)]
    rw [hp, Int.toNat_natCast] at hX
    rw [hok.1] at HCK
    rw [hp] at HPL
    rw [hX]
    have hk0 : (0 : Int) ≤ (k : Int) := by omega
    have hkn : (k : Int) < (c.snaps.length : Int) := by omega
    clear HX hX hok hp
    have HKC := Lib.hid (show k ≤ rq by omega)
    have HK1 := Lib.hid (show k + 1 ≤ c.snaps.length by omega)
    have HNC := Lib.hid hcap
    have HAW := Lib.hid (show IntKind.i64.wrap ((k : Int) + 1) = ((k + 1 : Nat) : Int) by rw [IntKind.wrap_i64]; omega)
    have HRX := Lib.hid (fun W (h : Blk W w.heap.size 29 L) => ct_topE h hL)
    have P33 := Lib.hid (pc_len hc.top)
    have HPT := Lib.hid (fun u => show ctc ⟨c.top, without c.snaps k⟩ u = pc c.top ++ [u] from rfl)
    have PTO := Lib.hid (fun (a : Option Addr) (n q : Nat) => show (pc c.top ++ [Value.slice a n q]).toArray.all (·.oneCell') = true from ctc_all (c := ⟨c.top, []⟩) rfl)
    have H1 := Lib.hid (fun W (h : Below w.heap.size w W) => (HV.out.below h).take34 HL.out rfl (k := k) (by omega))
    have H2 := Lib.hid (fun W (h : Below w.heap.size w W) => (HV.out.below h).drop34 HL.out rfl hcap (k := k + 1) (by omega))
    have H1O := Lib.hid (sncs_one' (c.snaps.take k))
    have H2O := Lib.hid (sncs_one' (c.snaps.drop (k + 1)))
    obtain ⟨A2, hA2⟩ : ∃ x, x = (if rq = k + 1 then ra else ra.map (·.add ((k + 1) * 34))) := ⟨_, rfl⟩
    obtain ⟨N2, hN2⟩ : ∃ x, x = c.snaps.length - (k + 1) := ⟨_, rfl⟩
    obtain ⟨C2, hC2⟩ : ∃ x, x = rq - (k + 1) := ⟨_, rfl⟩
    have HSL := Lib.hid (show (Value.slice (if rq = k + 1 then ra else ra.map (·.add ((k + 1) * 34))) (c.snaps.length - (k + 1)) (rq - (k + 1))) = .slice A2 N2 C2 by rw [hA2, hN2, hC2])
    rw [HSL.out] at H2
    have HN12 := Lib.hid (show (c.snaps.take k).length + (c.snaps.drop (k + 1)).length ≤ 64 by rw [List.length_take, List.length_drop]; omega)
    have hwl : (without c.snaps k).length = (c.snaps.take k).length + (c.snaps.drop (k + 1)).length := by unfold without; rw [List.length_append]
    have hws : sncs (without c.snaps k) = sncs (c.snaps.take k) ++ sncs (c.snaps.drop (k + 1)) := by unfold without; rw [sncs_app]
    rw [show (⟨c.top, without c.snaps k⟩ : Ct).snaps = without c.snaps k from rfl, hwl, hws, ← hL]
    obtain ⟨N1, hN1⟩ : ∃ x, x = (c.snaps.take k).length := ⟨_, rfl⟩
    obtain ⟨M2, hM2⟩ : ∃ x, x = (c.snaps.drop (k + 1)).length := ⟨_, rfl⟩
    obtain ⟨T1, hT1⟩ : ∃ x, x = sncs (c.snaps.take k) := ⟨_, rfl⟩
    obtain ⟨T2, hT2⟩ : ∃ x, x = sncs (c.snaps.drop (k + 1)) := ⟨_, rfl⟩
    rw [← hN1, ← hT1] at H1
    rw [← hM2, ← hT2] at H2
    rw [← hN1, ← hM2] at HN12
    rw [← hT1] at H1O
    rw [← hT2] at H2O
    rw [← hN1, ← hM2, ← hT1, ← hT2]
    obtain ⟨PT, hPT⟩ : ∃ x, x = pc c.top := ⟨_, rfl⟩
    rw [← hPT] at HPT P33 HRX PTO
    have PTL := Lib.hid (fun_len P33.out)
    have HBC := Lib.hid (fun a n q => built_ct PT P33.out a n q)
    obtain ⟨CT0, hCT0⟩ : ∃ x, x = (⟨c.top, without c.snaps k⟩ : Ct) := ⟨_, rfl⟩
    rw [← hCT0] at HPT ⊢
    obtain ⟨n, hn⟩ : ∃ n, n = c.snaps.length := ⟨_, rfl⟩
    rw [← hn] at HCK HPL HV HSL HK1 HNC C1
    clear hL hA2 hN2 hC2 hN1 hM2 hT1 hT2 hwl hws hPT hCT0 hn hv hc hn1 HL hcap hk h64 hkn
    go_enter Try.func26, Try.ntmps26
    go_upto_region 8 with (first
      | (refine wpList_load_mid rfl 29 (.tmp 2) rfl w.heap.size 0 rfl L _ X1.out.range Try.underlying29 rfl (by rw [L34.out]; exact infoCtC) ?_)
      | (go_at_call 16; (with_reducible refine (HCK.out _ (HV.out.below W1.out)).mono ?_); rintro e w2 ⟨rfl, b2⟩; have W2 := Lib.hid (W1.out.on b2); have X2 := Lib.hid (X1.out.below b2 X1.out.lt); have Y2 := Lib.hid (Y1.out.below b2 Y1.out.lt); clear b2)
      | (refine wpList_load_mid rfl 29 (.tmp 2) rfl w.heap.size 0 rfl L _ X2.out.range Try.underlying29 rfl (by rw [L34.out]; exact infoCtC) ?_)
      | (go_at_call 53; (with_reducible refine (HPL.out _ (HV.out.below W2.out)).mono ?_); rintro e w4 ⟨rfl, b4⟩; have W4 := Lib.hid (W2.out.on b4); have X4 := Lib.hid (X2.out.below b4 X2.out.lt); have Y4 := Lib.hid (Y2.out.below b4 Y2.out.lt); have c4 := (X2.out.below b4 X2.out.lt).cell 33 _ C1.out; clear b4))
    clear HCK HPL X2 Y2 W2 X1 Y1 W1 c4
    have HSZ := Lib.hid (show w.heap.size + 1 < w4.heap.size from Y4.out.lt)
    refine wp_region_g (by kernel_rfl) 12 (by decide) (by kernel_rfl) (by kernel_rfl) (by kernel_rfl) (w4.heap.size) (Nat.le_refl _) [.val (.slice none 0 0), .val (.pointer (some ⟨w.heap.size, 33, none⟩)), .val (.slice ra n rq), .val (.int .i64 (k : Int)), .val (.slice ra k rq), .ownT 60 34 N1 T1, .val (.pointer (some ⟨w.heap.size, 33, none⟩)), .val (.slice ra n rq), .val (.int .i64 (k : Int)), .val (.int .i64 ((k + 1 : Nat) : Int)), .val (.slice A2 N2 C2), .ownT 60 34 (N1 + M2) (T1 ++ T2)] (fun j => if j = 5 then 11 else 13) ?_ ?_
    · refine ⟨?_, ?_, ?_, ?_, ?_, ?_, ?_, ?_, ?_, ?_, ?_, ?_, trivial⟩
      · intro a w' hF hB hd
        have e8 : a.eval (.tmp 8) = .slice none 0 0 := hF 8 (by decide +kernel)
        exact doesG_val rfl (ex_move rfl e8) rfl rfl
      · intro a w' hF hB hd
        have e2 : a.eval (.tmp 2) = .pointer (some ⟨w.heap.size, 0, none⟩) := hF 2 (by decide +kernel)
        exact doesG_val rfl (ex_fieldAddr rfl e2 (by go_simp)) rfl rfl
      · intro a w' hF hB hd
        have e24 : a.eval (.tmp 24) = .pointer (some ⟨w.heap.size, 33, none⟩) := hd 1 (by decide +kernel) (.inr (by decide))
        have cc := (X4.out.below hB X4.out.lt).cell 33 _ C1.out
        exact doesG_val rfl (v := .slice ra n rq) (by unfold execOp; simp only [e24]; go_simp) rfl rfl
      · intro a w' hF hB hd
        have e7 : a.eval (.tmp 7) = .int .i64 (k : Int) := hF 7 (by decide +kernel)
        exact doesG_val rfl (ex_move rfl e7) rfl rfl
      · intro a w' hF hB hd
        have e25 : a.eval (.tmp 25) = .slice ra n rq := hd 2 (by decide +kernel) (.inr (by decide))
        have e26 : a.eval (.tmp 26) = .int .i64 (k : Int) := hd 3 (by decide +kernel) (.inr (by decide))
        exact doesG_val rfl (ex_cutT_h rfl e25 e26 HKC.out) rfl rfl
      · intro a w' hF hB hd
        have e23 : a.eval (.tmp 23) = .slice none 0 0 := hd 0 (by decide +kernel) (.inr (by decide))
        have e27 : a.eval (.tmp 27) = .slice ra k rq := hd 4 (by decide +kernel) (.inr (by decide))
        exact doesG_appT rfl (.tmp 23) (.tmp 27) 27 60 34 56 zsn rfl Try.underlying27 infoSn rfl (by decide) (by decide) (.slice none 0 0) (.slice ra k rq) 0 N1 [] T1 0 (.inl rfl) e23 e27 (owned_none _ _ _ _) (H1.out _ (W4.out.on hB)) H1O.out (by have := HN12.out; omega) hB.size (fun v' w' h => by rw [Nat.zero_add, List.nil_append] at h; exact h)
      · intro a w' hF hB hd
        have e2 : a.eval (.tmp 2) = .pointer (some ⟨w.heap.size, 0, none⟩) := hF 2 (by decide +kernel)
        exact doesG_val rfl (ex_fieldAddr rfl e2 (by go_simp)) rfl rfl
      · intro a w' hF hB hd
        have e29 : a.eval (.tmp 29) = .pointer (some ⟨w.heap.size, 33, none⟩) := hd 6 (by decide +kernel) (.inr (by decide))
        have cc := (X4.out.below hB X4.out.lt).cell 33 _ C1.out
        exact doesG_val rfl (v := .slice ra n rq) (by unfold execOp; simp only [e29]; go_simp) rfl rfl
      · intro a w' hF hB hd
        have e7 : a.eval (.tmp 7) = .int .i64 (k : Int) := hF 7 (by decide +kernel)
        exact doesG_val rfl (ex_move rfl e7) rfl rfl
      · intro a w' hF hB hd
        have e31 : a.eval (.tmp 31) = .int .i64 (k : Int) := hd 8 (by decide +kernel) (.inr (by decide))
        exact doesG_val rfl (ex_binOp rfl e31 rfl (by go_simp) (by have aw := HAW.out; go_simp)) rfl rfl
      · intro a w' hF hB hd
        have e30 : a.eval (.tmp 30) = .slice ra n rq := hd 7 (by decide +kernel) (.inr (by decide))
        have e32 : a.eval (.tmp 32) = .int .i64 ((k + 1 : Nat) : Int) := hd 9 (by decide +kernel) (.inr (by decide))
        exact doesG_val rfl (by rw [← HSL.out]; exact ex_cutT_l rfl e30 e32 HK1.out HNC.out) rfl rfl
      · intro a w' hF hB hd
        have e33 : a.eval (.tmp 33) = .slice A2 N2 C2 := hd 10 (by decide +kernel) (.inr (by decide))
        have e28 : w'.ownsRow w4.heap.size 60 34 (a.eval (.tmp 28)) N1 T1 := hd 5 (by decide +kernel) (.inl (by decide))
        exact doesG_appT rfl (.tmp 28) (.tmp 33) 27 60 34 56 zsn rfl Try.underlying27 infoSn rfl (by decide) (by decide) _ (.slice A2 N2 C2) N1 M2 T1 T2 5 (.inr ⟨by decide +kernel, rfl, rfl, rfl⟩) rfl e33 e28 (H2.out _ (W4.out.on hB)) H2O.out (by have := HN12.out; omega) hB.size (fun v' w' h => h)
    · intro vs w5 hb hv hap
      have o5 : w5.ownsRow w4.heap.size 60 34 (vs 11) (N1 + M2) (T1 ++ T2) := hv 11 (by decide) (by decide)
      obtain ⟨a5, q5, hsh, -⟩ := (owned_rd o5).shape
      rw [hsh] at o5
      have O5 := Lib.hid o5
      have W5 := Lib.hid (W4.out.on hb)
      have X5 := Lib.hid (X4.out.below hb X4.out.lt)
      have Y5 := Lib.hid (Y4.out.below hb Y4.out.lt)
      simp only [List.take_succ_cons, List.take_zero, List.drop_succ_cons, List.drop_zero, putOps, Act.put, List.setIfInBounds_toArray, List.set_cons_zero, List.set_cons_succ, hsh]
      clear hv hap o5 hb hsh
      go_wp2_with ((fail_if_success (with_reducible show bodyPost _ _ _ _ _ _)); first
        | ((with_reducible show wpList _ _ _ (Oper.mk _ (.load _ (.tmp 35)) _ _ _ _ :: _) _ _); refine wpList_load_mid rfl 26 (.tmp 35) rfl w.heap.size 0 rfl PT _ (HRX.out _ X5.out) Try.underlying26 rfl (by rw [P33.out]; exact infoRfC) ?_)
        | ((with_reducible show wpList _ _ _ (Oper.mk (some 38) (.build _ _) _ _ _ _ :: _) _ _); refine wpList_wanted rfl (.agg (PT ++ [Value.slice a5 (N1 + M2) q5]).toArray) (ex_build rfl (by simp only [List.map_toArray, List.map_cons, List.map_nil]; exact HBC.out _ _ _)) ?_)
        | ((with_reducible show wpList _ _ _ (Oper.mk _ (.store _ (.tmp 4) (.tmp 38)) _ _ _ _ :: _) _ _); refine wpList_store_blk rfl 29 (.tmp 4) (.tmp 38) rfl (w.heap.size + 1) 0 (PT ++ [.slice a5 (N1 + M2) q5]) rfl rfl 29 Z Y5.out (by rw [PTL.out, Z34.out]; exact Nat.le_refl _) (by rw [PTL.out]; exact infoCtC) (PTO.out _ _ _) ?_; intro w8 b8 g8; rw [splice_all _ _ (by rw [PTL.out, Z34.out])] at b8; have Y8 := Lib.hid b8; have O8 := Lib.hid (World.ownsRow.kept O5.out g8 (ne_res O5.out HSZ.out)); have W8 := Lib.hid (W5.out.grown g8 W5.out.size (fun g hg => by have := Option.some.inj hg; omega)); clear b8 g8))
      refine bodyPost_ret (results_mid2 rfl _ _ (w.heap.size + 1) (PT ++ [.slice a5 (N1 + M2) q5]) _ rfl Y8.out.range Try.underlying29 rfl (by rw [PTL.out]; exact infoCtC)) rfl ⟨.slice a5 (N1 + M2) q5, by rw [HPT.out]; rfl, ownT_lower O8.out W4.out.size, W8.out⟩
  · rw [← hL]
    by_cases h0 : CT.check c = 0
    · have h1 : plc c.snaps nm < 0 := by
        rcases Int.lt_or_le (plc c.snaps nm) 0 with q | q
        · exact q
        · exact absurd ⟨h0, q⟩ hok
      have hX : CT.drop c nm = (CT.zero, 22) := by rw [HX.out, if_neg (by rw [h0]; decide), if_pos h1]
      rw [hX]
      rw [h0] at HCK
      clear HX hX h0 hok
      obtain ⟨PV, hPV⟩ : ∃ x, x = plc c.snaps nm := ⟨_, rfl⟩
      rw [← hPV] at HPL h1
      obtain ⟨CS, hCS⟩ : ∃ x, x = sncs c.snaps := ⟨_, rfl⟩
      rw [← hCS] at HCK HPL HV
      obtain ⟨n, hn⟩ : ∃ n, n = c.snaps.length := ⟨_, rfl⟩
      rw [← hn] at HCK HPL HV C1
      clear hL hCS hn hv hc hn1 HL hcap hPV
      go_enter Try.func26, Try.ntmps26
      go_wp2_with ((fail_if_success (with_reducible show bodyPost _ _ _ _ _ _)); first
        | (refine wpList_load_mid rfl 29 (.tmp 2) rfl w.heap.size 0 rfl L _ X1.out.range Try.underlying29 rfl (by rw [L34.out]; exact infoCtC) ?_)
        | (go_at_call 16; (with_reducible refine (HCK.out _ (HV.out.below W1.out)).mono ?_); rintro e w2 ⟨rfl, b2⟩; have W2 := Lib.hid (W1.out.on b2); have X2 := Lib.hid (X1.out.below b2 X1.out.lt); have Y2 := Lib.hid (Y1.out.below b2 Y1.out.lt); clear b2)
        | (refine wpList_load_mid rfl 29 (.tmp 2) rfl w.heap.size 0 rfl L _ X2.out.range Try.underlying29 rfl (by rw [L34.out]; exact infoCtC) ?_)
        | (go_at_call 53; (with_reducible refine (HPL.out _ (HV.out.below W2.out)).mono ?_); rintro e w4 ⟨rfl, b4⟩; have W4 := Lib.hid (W2.out.on b4); have X4 := Lib.hid (X2.out.below b4 X2.out.lt); have Y4 := Lib.hid (Y2.out.below b4 Y2.out.lt); have c4 := (X2.out.below b4 X2.out.lt).cell 33 _ C1.out; clear b4)
        | ((with_reducible show wpList _ _ _ (Oper.mk (some 22) (.build _ _) _ _ _ _ :: _) _ _); refine wpList_wanted rfl (.agg Z.toArray) (ex_buildN rfl hbr) ?_)
        | (refine wpList_store_blk rfl 29 (.tmp 4) (.tmp 22) rfl (w.heap.size + 1) 0 Z rfl rfl 29 Z Y4.out (by rw [Z34.out]; exact Nat.le_refl _) (by rw [Z34.out]; exact infoCtC) ZO.out ?_; intro w5 b5 g5; rw [splice_all _ _ rfl] at b5; have Y5 := Lib.hid b5; have W5 := Lib.hid (W4.out.grown g5 W4.out.size (fun g hg => by have := Option.some.inj hg; omega)); clear b5 g5))
      refine bodyPost_ret (results_mid2 rfl _ _ (w.heap.size + 1) Z _ rfl Y5.out.range Try.underlying29 rfl (by rw [Z34.out]; exact infoCtC)) rfl ⟨.slice none 0 0, by rw [HZ.out]; rfl, owned_none _ _ _ _, W5.out⟩
    · have hX : CT.drop c nm = (CT.zero, CT.check c) := by rw [HX.out, if_pos h0]
      rw [hX]
      obtain ⟨E, hE⟩ : ∃ x, x = CT.check c := ⟨_, rfl⟩
      rw [← hE] at h0 HCK ⊢
      have hE1 : (E == 0) = false := by simpa using h0
      have hE2 : (E != 0) = true := by rw [bne, hE1]; rfl
      clear HX hX hE hok
      obtain ⟨PV, hPV⟩ : ∃ x, x = plc c.snaps nm := ⟨_, rfl⟩
      rw [← hPV] at HPL
      obtain ⟨CS, hCS⟩ : ∃ x, x = sncs c.snaps := ⟨_, rfl⟩
      rw [← hCS] at HCK HPL HV
      obtain ⟨n, hn⟩ : ∃ n, n = c.snaps.length := ⟨_, rfl⟩
      rw [← hn] at HCK HPL HV C1
      clear hL hCS hn hv hc hn1 HL hcap hPV
      go_enter Try.func26, Try.ntmps26
      go_wp2_with ((fail_if_success (with_reducible show bodyPost _ _ _ _ _ _)); first
        | (refine wpList_load_mid rfl 29 (.tmp 2) rfl w.heap.size 0 rfl L _ X1.out.range Try.underlying29 rfl (by rw [L34.out]; exact infoCtC) ?_)
        | (go_at_call 16; (with_reducible refine (HCK.out _ (HV.out.below W1.out)).mono ?_); rintro e w2 ⟨rfl, b2⟩; have W2 := Lib.hid (W1.out.on b2); have X2 := Lib.hid (X1.out.below b2 X1.out.lt); have Y2 := Lib.hid (Y1.out.below b2 Y1.out.lt); clear b2)
        | (refine wpList_load_mid rfl 29 (.tmp 2) rfl w.heap.size 0 rfl L _ X2.out.range Try.underlying29 rfl (by rw [L34.out]; exact infoCtC) ?_)
        | (go_at_call 53; (with_reducible refine (HPL.out _ (HV.out.below W2.out)).mono ?_); rintro e w4 ⟨rfl, b4⟩; have W4 := Lib.hid (W2.out.on b4); have X4 := Lib.hid (X2.out.below b4 X2.out.lt); have Y4 := Lib.hid (Y2.out.below b4 Y2.out.lt); have c4 := (X2.out.below b4 X2.out.lt).cell 33 _ C1.out; clear b4)
        | ((with_reducible show wpList _ _ _ (Oper.mk (some 17) (.build _ _) _ _ _ _ :: _) _ _); refine wpList_wanted rfl (.agg Z.toArray) (ex_buildN rfl hbr) ?_)
        | (refine wpList_store_blk rfl 29 (.tmp 4) (.tmp 17) rfl (w.heap.size + 1) 0 Z rfl rfl 29 Z Y4.out (by rw [Z34.out]; exact Nat.le_refl _) (by rw [Z34.out]; exact infoCtC) ZO.out ?_; intro w5 b5 g5; rw [splice_all _ _ rfl] at b5; have Y5 := Lib.hid b5; have W5 := Lib.hid (W4.out.grown g5 W4.out.size (fun g hg => by have := Option.some.inj hg; omega)); clear b5 g5))
      refine bodyPost_ret (results_mid2 rfl _ _ (w.heap.size + 1) Z _ rfl Y5.out.range Try.underlying29 rfl (by rw [Z34.out]; exact infoCtC)) rfl ⟨.slice none 0 0, by rw [HZ.out]; rfl, owned_none _ _ _ _, W5.out⟩
end Go.Proofs.Ytkagapgganoomaa

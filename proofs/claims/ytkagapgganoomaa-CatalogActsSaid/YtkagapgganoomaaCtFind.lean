/- A snapshot's tree is looked for: contracts of the program and of the document's answer. Written by gen_ctact.py. Own work. -/
import Derived.Test.YtkagapgganoomaaCtPlR
namespace Go.Proofs.Ytkagapgganoomaa
open Go.ChangeShapes Go.WideShapes Go.ChangeAt Go.RowKit
open RT CT
set_option maxRecDepth 100000 in
set_option maxHeartbeats 2000000 in
theorem cpfind_any (c : Ct) (hc : CT.Ok c) (nm : ByteArray) (v : Value) (w : World) (hv : RdT 34 w v c.snaps.length (sncs c.snaps)) (hn1 : c.snaps.length ≤ 140737488355328) :
    Calls Try.prog 29 #[.agg (ctc c v).toArray, .string nm] w fun e w' => e = .returned (.tuple #[.agg (pc (CT.find c nm).1).toArray, .int .i64 (CT.find c nm).2]) ∧ Below w.heap.size w w' := by
  obtain ⟨ra, rq, rfl, -⟩ := hv.shape
  obtain ⟨L, hL⟩ : ∃ L, L = ctc c (.slice ra c.snaps.length rq) := ⟨_, rfl⟩
  obtain ⟨Z, hZ⟩ : ∃ Z, Z = pc CT.zp := ⟨_, rfl⟩
  have hz : ∀ w, (zeroValue 26).run Try.prog w = .ok (.agg Z.toArray) w := by rw [hZ]; exact zeroRf
  have hbr : Try.prog.built 26 [] = some Z.toArray := by rw [hZ]; exact builtRf0
  have Z33 := Lib.hid (show Z.length = 33 by rw [hZ]; exact pc_len CT.zp_ok)
  have ZO := Lib.hid (show Z.toArray.all (·.oneCell') = true by rw [hZ, List.all_toArray, List.all_eq_true]; exact pc_one' _)
  have L34 := Lib.hid (show L.length = 34 by rw [hL]; exact ctc_len hc.top _)
  have W1 := Lib.hid (((Below.refl w.heap.size w).alloc (Nat.le_refl _) (.cells L.toArray 29)).alloc (by simp) (.cells Z.toArray 26))
  have X1 := Lib.hid ((Blk.new w 29 L _ rfl).alloc (.cells Z.toArray 26))
  have Y1 := Lib.hid (Blk.new (w.alloc (.cells L.toArray 29)) 26 Z (w.heap.size + 1) (by simp))
  have C1 := Lib.hid (show L[33]? = some (.slice ra c.snaps.length rq) by rw [hL]; exact ctc_snaps hc.top _)
  have HV := Lib.hid hv
  have HL := Lib.hid hc.snaps
  have HPL := Lib.hid (fun W (h : RdT 34 W (.slice ra c.snaps.length rq) c.snaps.length (sncs c.snaps)) => pplace_any c hc nm _ W h hn1)
  rw [← hL] at HPL ⊢
  have HF := Lib.hid (show CT.find c nm = if plc c.snaps nm < 0 then (zp, 22) else (topAt c.snaps (plc c.snaps nm).toNat, 0) from rfl)
  have HC := plc_cases c.snaps nm
  obtain ⟨FD, hFD⟩ : ∃ x, x = CT.find c nm := ⟨_, rfl⟩
  rw [← hFD] at HF ⊢
  obtain ⟨l, hl⟩ : ∃ x, x = c.snaps := ⟨_, rfl⟩
  rw [← hl] at HPL HF HC HV HL C1
  obtain ⟨n, hn⟩ : ∃ n, n = l.length := ⟨_, rfl⟩
  rw [← hn] at HV C1 HPL
  have HN := Lib.hid hn
  have HZ := Lib.hid hZ
  clear hL hZ hFD hl hn hv hc hn1
  rcases HC with ⟨hp, -⟩ | ⟨k, hk, hp, -⟩
  · rw [hp] at HF HPL
    have hF : FD = (zp, 22) := by rw [HF.out, if_pos (by decide)]
    clear HF hp
    rw [hF]
    clear hF
    go_enter Try.func29, Try.ntmps29
    go_wp2_with ((fail_if_success (with_reducible show bodyPost _ _ _ _ _ _)); first
      | (refine wpList_load_mid rfl 29 (.tmp 2) rfl w.heap.size 0 rfl L _ X1.out.range Try.underlying29 rfl (by rw [L34.out]; exact infoCtC) ?_)
      | (go_at_call 48; (with_reducible refine (HPL.out _ (HV.out.below W1.out)).mono ?_); rintro e w2 ⟨rfl, b2⟩; have W2 := Lib.hid (W1.out.on b2); have Y2 := Lib.hid (Y1.out.below b2 Y1.out.lt); clear b2)
      | ((with_reducible show wpList _ _ _ (Oper.mk (some 12) (.build _ _) _ _ _ _ :: _) _ _); refine wpList_wanted rfl (.agg Z.toArray) (ex_buildN rfl hbr) ?_)
      | (refine wpList_store_blk rfl 26 (.tmp 4) (.tmp 12) rfl (w.heap.size + 1) 0 Z rfl rfl 26 Z Y2.out (by rw [Z33.out]; exact Nat.le_refl _) (by rw [Z33.out]; exact infoRfC) ZO.out ?_; intro w5 b5 g5; rw [splice_all _ _ rfl] at b5; have Y5 := Lib.hid b5; have W5 := Lib.hid (W2.out.grown g5 W2.out.size (fun g hg => by have := Option.some.inj hg; omega)); clear b5 g5))
    refine bodyPost_ret (results_mid2 rfl _ _ (w.heap.size + 1) Z _ rfl Y5.out.range Try.underlying26 rfl (by rw [Z33.out]; exact infoRfC)) rfl ⟨by rw [HZ.out]; rfl, W5.out⟩
  · rw [hp] at HF HPL
    have hF : FD = (l[k].top, 0) := by rw [HF.out, if_neg (by omega), Int.toNat_natCast, topAt_eq hk]
    clear HF hp
    rw [hF]
    clear hF
    have hkn : (k : Int) < (n : Int) := by rw [HN.out]; omega
    have hk0 : (0 : Int) ≤ (k : Int) := by omega
    have P33 := Lib.hid (pc_len (HL.out _ (List.getElem_mem hk)))
    have PO := Lib.hid (show (pc l[k].top).toArray.all (·.oneCell') = true by rw [List.all_toArray, List.all_eq_true]; exact pc_one' _)
    obtain ⟨pb, po, rfl, -, -, -⟩ := sn_range HV.out HL.out HN.out hk
    have RPd := Lib.hid (fun W (h : Below w.heap.size w W) => show W.rangeAt pb (po + k * 34 + 1) (pc l[k].top) by
      obtain ⟨b', o', e, -, -, hr⟩ := sn_range (HV.out.below h) HL.out HN.out hk
      cases e; exact hr)
    obtain ⟨Pk, hPk⟩ : ∃ x, x = pc l[k].top := ⟨_, rfl⟩
    have HPK := Lib.hid hPk
    rw [← hPk] at P33 PO RPd
    obtain ⟨tk, htk⟩ : ∃ x, x = l[k].top := ⟨_, rfl⟩
    rw [← htk] at HPK ⊢
    clear hPk htk
    go_enter Try.func29, Try.ntmps29
    go_wp2_with ((fail_if_success (with_reducible show bodyPost _ _ _ _ _ _)); first
      | (refine wpList_load_mid rfl 29 (.tmp 2) rfl w.heap.size 0 rfl L _ X1.out.range Try.underlying29 rfl (by rw [L34.out]; exact infoCtC) ?_)
      | (go_at_call 48; (with_reducible refine (HPL.out _ (HV.out.below W1.out)).mono ?_); rintro e w2 ⟨rfl, b2⟩; have W2 := Lib.hid (W1.out.on b2); have Y2 := Lib.hid (Y1.out.below b2 Y1.out.lt); have c2 := (X1.out.below b2 X1.out.lt).cell 33 _ C1.out; clear b2)
      | (refine wpList_load_mid rfl 26 (.tmp 17) rfl pb (po + k * 34 + 1) rfl Pk _ (RPd.out _ W2.out) Try.underlying26 rfl (by rw [P33.out]; exact infoRfC) ?_)
      | (refine wpList_store_blk rfl 26 (.tmp 4) (.tmp 18) rfl (w.heap.size + 1) 0 Pk rfl rfl 26 Z Y2.out (by rw [P33.out, Z33.out]; exact Nat.le_refl _) (by rw [P33.out]; exact infoRfC) PO.out ?_; intro w5 b5 g5; rw [splice_all _ _ (by rw [P33.out, Z33.out])] at b5; have Y5 := Lib.hid b5; have W5 := Lib.hid (W2.out.grown g5 W2.out.size (fun g hg => by have := Option.some.inj hg; omega)); clear b5 g5))
    refine bodyPost_ret (results_mid2 rfl _ _ (w.heap.size + 1) Pk _ rfl Y5.out.range Try.underlying26 rfl (by rw [P33.out]; exact infoRfC)) rfl ⟨by rw [HPK.out]; rfl, W5.out⟩
set_option maxRecDepth 100000 in
set_option maxHeartbeats 2000000 in
theorem crfind_any (c : Ct) (hc : CT.Ok c) (nm : ByteArray) (v : Value) (w : World) (hv : RdT 34 w v c.snaps.length (sncs c.snaps)) (hn1 : c.snaps.length ≤ 140737488355328) :
    Calls Try.prog 30 #[.agg (ctc c v).toArray, .string nm] w fun e w' => e = .returned (.tuple #[.agg (pc (CT.find c nm).1).toArray, .int .i64 (CT.find c nm).2]) ∧ Below w.heap.size w w' := by
  obtain ⟨ra, rq, rfl, -⟩ := hv.shape
  obtain ⟨L, hL⟩ : ∃ L, L = ctc c (.slice ra c.snaps.length rq) := ⟨_, rfl⟩
  obtain ⟨Z, hZ⟩ : ∃ Z, Z = pc CT.zp := ⟨_, rfl⟩
  have hz : ∀ w, (zeroValue 26).run Try.prog w = .ok (.agg Z.toArray) w := by rw [hZ]; exact zeroRf
  have hbr : Try.prog.built 26 [] = some Z.toArray := by rw [hZ]; exact builtRf0
  have Z33 := Lib.hid (show Z.length = 33 by rw [hZ]; exact pc_len CT.zp_ok)
  have ZO := Lib.hid (show Z.toArray.all (·.oneCell') = true by rw [hZ, List.all_toArray, List.all_eq_true]; exact pc_one' _)
  have L34 := Lib.hid (show L.length = 34 by rw [hL]; exact ctc_len hc.top _)
  have W1 := Lib.hid (((Below.refl w.heap.size w).alloc (Nat.le_refl _) (.cells L.toArray 29)).alloc (by simp) (.cells Z.toArray 26))
  have X1 := Lib.hid ((Blk.new w 29 L _ rfl).alloc (.cells Z.toArray 26))
  have Y1 := Lib.hid (Blk.new (w.alloc (.cells L.toArray 29)) 26 Z (w.heap.size + 1) (by simp))
  have C1 := Lib.hid (show L[33]? = some (.slice ra c.snaps.length rq) by rw [hL]; exact ctc_snaps hc.top _)
  have HV := Lib.hid hv
  have HL := Lib.hid hc.snaps
  have HPL := Lib.hid (fun W (h : RdT 34 W (.slice ra c.snaps.length rq) c.snaps.length (sncs c.snaps)) => rplace_any c hc nm _ W h hn1)
  rw [← hL] at HPL ⊢
  have HF := Lib.hid (show CT.find c nm = if plc c.snaps nm < 0 then (zp, 22) else (topAt c.snaps (plc c.snaps nm).toNat, 0) from rfl)
  have HC := plc_cases c.snaps nm
  obtain ⟨FD, hFD⟩ : ∃ x, x = CT.find c nm := ⟨_, rfl⟩
  rw [← hFD] at HF ⊢
  obtain ⟨l, hl⟩ : ∃ x, x = c.snaps := ⟨_, rfl⟩
  rw [← hl] at HPL HF HC HV HL C1
  obtain ⟨n, hn⟩ : ∃ n, n = l.length := ⟨_, rfl⟩
  rw [← hn] at HV C1 HPL
  have HN := Lib.hid hn
  have HZ := Lib.hid hZ
  clear hL hZ hFD hl hn hv hc hn1
  rcases HC with ⟨hp, -⟩ | ⟨k, hk, hp, -⟩
  · rw [hp] at HF HPL
    have hF : FD = (zp, 22) := by rw [HF.out, if_pos (by decide)]
    clear HF hp
    rw [hF]
    clear hF
    go_enter Try.func30, Try.ntmps30
    go_wp2_with ((fail_if_success (with_reducible show bodyPost _ _ _ _ _ _)); first
      | (refine wpList_load_mid rfl 29 (.tmp 2) rfl w.heap.size 0 rfl L _ X1.out.range Try.underlying29 rfl (by rw [L34.out]; exact infoCtC) ?_)
      | (go_at_call 53; (with_reducible refine (HPL.out _ (HV.out.below W1.out)).mono ?_); rintro e w2 ⟨rfl, b2⟩; have W2 := Lib.hid (W1.out.on b2); have Y2 := Lib.hid (Y1.out.below b2 Y1.out.lt); clear b2)
      | ((with_reducible show wpList _ _ _ (Oper.mk (some 12) (.build _ _) _ _ _ _ :: _) _ _); refine wpList_wanted rfl (.agg Z.toArray) (ex_buildN rfl hbr) ?_)
      | (refine wpList_store_blk rfl 26 (.tmp 4) (.tmp 12) rfl (w.heap.size + 1) 0 Z rfl rfl 26 Z Y2.out (by rw [Z33.out]; exact Nat.le_refl _) (by rw [Z33.out]; exact infoRfC) ZO.out ?_; intro w5 b5 g5; rw [splice_all _ _ rfl] at b5; have Y5 := Lib.hid b5; have W5 := Lib.hid (W2.out.grown g5 W2.out.size (fun g hg => by have := Option.some.inj hg; omega)); clear b5 g5))
    refine bodyPost_ret (results_mid2 rfl _ _ (w.heap.size + 1) Z _ rfl Y5.out.range Try.underlying26 rfl (by rw [Z33.out]; exact infoRfC)) rfl ⟨by rw [HZ.out]; rfl, W5.out⟩
  · rw [hp] at HF HPL
    have hF : FD = (l[k].top, 0) := by rw [HF.out, if_neg (by omega), Int.toNat_natCast, topAt_eq hk]
    clear HF hp
    rw [hF]
    clear hF
    have hkn : (k : Int) < (n : Int) := by rw [HN.out]; omega
    have hk0 : (0 : Int) ≤ (k : Int) := by omega
    have P33 := Lib.hid (pc_len (HL.out _ (List.getElem_mem hk)))
    have PO := Lib.hid (show (pc l[k].top).toArray.all (·.oneCell') = true by rw [List.all_toArray, List.all_eq_true]; exact pc_one' _)
    obtain ⟨pb, po, rfl, -, -, -⟩ := sn_range HV.out HL.out HN.out hk
    have RPd := Lib.hid (fun W (h : Below w.heap.size w W) => show W.rangeAt pb (po + k * 34 + 1) (pc l[k].top) by
      obtain ⟨b', o', e, -, -, hr⟩ := sn_range (HV.out.below h) HL.out HN.out hk
      cases e; exact hr)
    obtain ⟨Pk, hPk⟩ : ∃ x, x = pc l[k].top := ⟨_, rfl⟩
    have HPK := Lib.hid hPk
    rw [← hPk] at P33 PO RPd
    obtain ⟨tk, htk⟩ : ∃ x, x = l[k].top := ⟨_, rfl⟩
    rw [← htk] at HPK ⊢
    clear hPk htk
    go_enter Try.func30, Try.ntmps30
    go_wp2_with ((fail_if_success (with_reducible show bodyPost _ _ _ _ _ _)); first
      | (refine wpList_load_mid rfl 29 (.tmp 2) rfl w.heap.size 0 rfl L _ X1.out.range Try.underlying29 rfl (by rw [L34.out]; exact infoCtC) ?_)
      | (go_at_call 53; (with_reducible refine (HPL.out _ (HV.out.below W1.out)).mono ?_); rintro e w2 ⟨rfl, b2⟩; have W2 := Lib.hid (W1.out.on b2); have Y2 := Lib.hid (Y1.out.below b2 Y1.out.lt); have c2 := (X1.out.below b2 X1.out.lt).cell 33 _ C1.out; clear b2)
      | (refine wpList_load_mid rfl 26 (.tmp 17) rfl pb (po + k * 34 + 1) rfl Pk _ (RPd.out _ W2.out) Try.underlying26 rfl (by rw [P33.out]; exact infoRfC) ?_)
      | (refine wpList_store_blk rfl 26 (.tmp 4) (.tmp 18) rfl (w.heap.size + 1) 0 Pk rfl rfl 26 Z Y2.out (by rw [P33.out, Z33.out]; exact Nat.le_refl _) (by rw [P33.out]; exact infoRfC) PO.out ?_; intro w5 b5 g5; rw [splice_all _ _ (by rw [P33.out, Z33.out])] at b5; have Y5 := Lib.hid b5; have W5 := Lib.hid (W2.out.grown g5 W2.out.size (fun g hg => by have := Option.some.inj hg; omega)); clear b5 g5))
    refine bodyPost_ret (results_mid2 rfl _ _ (w.heap.size + 1) Pk _ rfl Y5.out.range Try.underlying26 rfl (by rw [P33.out]; exact infoRfC)) rfl ⟨by rw [HPK.out]; rfl, W5.out⟩
end Go.Proofs.Ytkagapgganoomaa

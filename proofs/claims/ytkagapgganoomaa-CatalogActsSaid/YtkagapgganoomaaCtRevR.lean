/- The document's answer goes back to a snapshot: contract. Written by gen_ctacr.py. Own work. -/
import Derived.Test.YtkagapgganoomaaCtRev
import Derived.Test.YtkagapgganoomaaCtCopy
namespace Go.Proofs.Ytkagapgganoomaa
open Go.ChangeShapes Go.WideShapes Go.ChangeAt Go.RowKit
open RT CT
set_option maxRecDepth 100000 in
set_option maxHeartbeats 8000000 in
theorem crrevert_any (c : Ct) (hc : CT.Ok c) (nm : ByteArray) (v : Value) (w : World) (hv : RdT 34 w v c.snaps.length (sncs c.snaps)) (hn1 : c.snaps.length ≤ 140737488355328) :
    Calls Try.prog 28 #[.agg (ctc c v).toArray, .string nm] w fun e w' => ∃ u, e = .returned (.tuple #[.agg (ctc (CT.revert c nm).1 u).toArray, .int .i64 (CT.revert c nm).2]) ∧ w'.ownsRow w.heap.size 60 34 u (CT.revert c nm).1.snaps.length (sncs (CT.revert c nm).1.snaps) ∧ Below w.heap.size w w' := by
  obtain ⟨ra, rq, rfl, hcap⟩ := hv.shape
  obtain ⟨L, hL⟩ : ∃ L, L = ctc c (.slice ra c.snaps.length rq) := ⟨_, rfl⟩
  obtain ⟨Z, hZ⟩ : ∃ Z, Z = ctc CT.zero (.slice none 0 0) := ⟨_, rfl⟩
  have hz : ∀ w, (zeroValue 29).run Try.prog w = .ok (.agg Z.toArray) w := by rw [hZ]; exact zeroCt
  have hbr : Try.prog.built 29 [] = some Z.toArray := by rw [hZ]; exact builtCt0
  have Z34 := Lib.hid (show Z.length = 34 by rw [hZ]; exact ctc_len CT.zp_ok _)
  have ZO := Lib.hid (show Z.toArray.all (·.oneCell') = true by rw [hZ]; exact ctc_all rfl)
  have L34 := Lib.hid (show L.length = 34 by rw [hL]; exact ctc_len hc.top _)
  have W1 := Lib.hid (((Below.refl w.heap.size w).alloc (Nat.le_refl _) (.cells L.toArray 29)).alloc (by simp) (.cells Z.toArray 29))
  have X1 := Lib.hid ((Blk.new w 29 L _ rfl).alloc (.cells Z.toArray 29))
  have Y1 := Lib.hid (Blk.new (w.alloc (.cells L.toArray 29)) 29 Z (w.heap.size + 1) (by simp))
  have C1 := Lib.hid (show L[33]? = some (.slice ra c.snaps.length rq) by rw [hL]; exact ctc_snaps hc.top _)
  have HV := Lib.hid hv
  have HL := Lib.hid hc.snaps
  have HCK := Lib.hid (fun W (h : RdT 34 W (.slice ra c.snaps.length rq) c.snaps.length (sncs c.snaps)) => rccheck_any c hc _ W h)
  have HPL := Lib.hid (fun W (h : RdT 34 W (.slice ra c.snaps.length rq) c.snaps.length (sncs c.snaps)) => rplace_any c hc nm _ W h hn1)
  rw [← hL] at HCK HPL
  have HZ := Lib.hid hZ
  clear hZ
  have HX := Lib.hid (show CT.revert c nm = if CT.check c ≠ 0 then (CT.zero, CT.check c) else if plc c.snaps nm < 0 then (CT.zero, 22) else (⟨topAt c.snaps (plc c.snaps nm).toNat, c.snaps⟩, 0) from rfl)
  by_cases hok : CT.check c = 0 ∧ 0 ≤ plc c.snaps nm
  · obtain ⟨k, hk, hp, -⟩ : ∃ (k : Nat) (hk : k < c.snaps.length), plc c.snaps nm = (k : Int) ∧ c.snaps[k].name = nm := by
      rcases plc_cases c.snaps nm with ⟨h, -⟩ | h
      · omega
      · exact h
    have h64 : c.snaps.length ≤ 64 := (check_zero.1 hok.1).1
    have hX : CT.revert c nm = (⟨topAt c.snaps (plc c.snaps nm).toNat, c.snaps⟩, 0) := by rw [HX.out, if_neg (by rw [hok.1]; decide), if_neg (by omega)]
    rw [hp, Int.toNat_natCast] at hX
    rw [hok.1] at HCK
    rw [hp] at HPL
    rw [hX]
    have hk0 : (0 : Int) ≤ (k : Int) := by omega
    have hkn : (k : Int) < (c.snaps.length : Int) := by omega
    clear HX hX hok hp
    have HRX := Lib.hid (fun W (h : Below w.heap.size w W) => show ∃ b off, ra = some ⟨b, off, none⟩ ∧ W.rangeAt b (off + k * 34 + 1) (pc c.snaps[k].top) by
      obtain ⟨b', o', e, -, -, hr⟩ := sn_range (HV.out.below h) HL.out rfl hk
      exact ⟨b', o', e, hr⟩)
    obtain ⟨pb, po, hra, -⟩ := HRX.out w (Below.refl _ _)
    subst hra
    have RPd := Lib.hid (fun W (h : Below w.heap.size w W) => show W.rangeAt pb (po + k * 34 + 1) (pc c.snaps[k].top) by
      obtain ⟨b', o', e, hr⟩ := HRX.out W h
      cases e; exact hr)
    have HCP := Lib.hid (fun W (h : RdT 34 W (.slice (some ⟨pb, po, none⟩) c.snaps.length rq) c.snaps.length (sncs c.snaps)) => rccopy_any c hc _ W h (by omega))
    rw [← hL] at HCP ⊢
    have P33 := Lib.hid (pc_len (HL.out _ (List.getElem_mem hk)))
    have PO := Lib.hid (show (pc c.snaps[k].top).toArray.all (·.oneCell') = true by rw [List.all_toArray, List.all_eq_true]; exact pc_one' _)
    have HCL := Lib.hid (fun u : Value => show (ctc c u).length = 34 from ctc_len hc.top u)
    have HCO := Lib.hid (fun (a : Option Addr) (n q : Nat) => show (ctc c (.slice a n q)).toArray.all (·.oneCell') = true from ctc_all rfl)
    have HSP := Lib.hid (fun u : Value => show splice (ctc c u) 0 (pc c.snaps[k].top) = ctc ⟨topAt c.snaps k, c.snaps⟩ u by
      unfold splice ctc; rw [topAt_eq hk, P33.out, List.take_zero, List.nil_append, List.drop_append, pc_len hc.top, List.drop_eq_nil_of_le (by rw [pc_len hc.top]; decide)]; rfl)
    have HNL := Lib.hid (fun u : Value => show (ctc ⟨topAt c.snaps k, c.snaps⟩ u).length = 34 from ctc_len (c := ⟨topAt c.snaps k, c.snaps⟩) (by show Pok (topAt c.snaps k); rw [topAt_eq hk]; exact HL.out _ (List.getElem_mem hk)) u)
    have HNO := Lib.hid (fun (a : Option Addr) (n q : Nat) => show (ctc ⟨topAt c.snaps k, c.snaps⟩ (.slice a n q)).toArray.all (·.oneCell') = true from ctc_all rfl)
    rw [show (⟨topAt c.snaps k, c.snaps⟩ : Ct).snaps = c.snaps from rfl]
    obtain ⟨D, hD⟩ : ∃ x, x = (⟨topAt c.snaps k, c.snaps⟩ : Ct) := ⟨_, rfl⟩
    rw [← hD] at HSP HNL HNO ⊢
    obtain ⟨Pk, hPk⟩ : ∃ x, x = pc c.snaps[k].top := ⟨_, rfl⟩
    rw [← hPk] at RPd P33 PO HSP
    obtain ⟨CS, hCS⟩ : ∃ x, x = sncs c.snaps := ⟨_, rfl⟩
    rw [← hCS] at HCK HPL HV HCP ⊢
    obtain ⟨n, hn⟩ : ∃ n, n = c.snaps.length := ⟨_, rfl⟩
    rw [← hn] at HCK HPL HV C1 HCP hkn ⊢
    clear hL hCS hn hv hc hn1 HL hcap hPk hD HRX hk h64
    go_enter Try.func28, Try.ntmps28
    go_wp2_with ((fail_if_success (with_reducible show bodyPost _ _ _ _ _ _)); first
      | (refine wpList_load_mid rfl 29 (.tmp 2) rfl w.heap.size 0 rfl L _ X1.out.range Try.underlying29 rfl (by rw [L34.out]; exact infoCtC) ?_)
      | (go_at_call 16; (with_reducible refine (HCK.out _ (HV.out.below W1.out)).mono ?_); rintro e w2 ⟨rfl, b2⟩; have W2 := Lib.hid (W1.out.on b2); have X2 := Lib.hid (X1.out.below b2 X1.out.lt); have Y2 := Lib.hid (Y1.out.below b2 Y1.out.lt); clear b2)
      | (refine wpList_load_mid rfl 29 (.tmp 2) rfl w.heap.size 0 rfl L _ X2.out.range Try.underlying29 rfl (by rw [L34.out]; exact infoCtC) ?_)
      | (go_at_call 53; (with_reducible refine (HPL.out _ (HV.out.below W2.out)).mono ?_); rintro e w4 ⟨rfl, b4⟩; have W4 := Lib.hid (W2.out.on b4); have X4 := Lib.hid (X2.out.below b4 X2.out.lt); have Y4 := Lib.hid (Y2.out.below b4 Y2.out.lt); have c4 := (X2.out.below b4 X2.out.lt).cell 33 _ C1.out; clear b4)
      | ((with_reducible show wpList _ _ _ (Oper.mk (some 23) (.load _ _) _ _ _ _ :: _) _ _); refine wpList_load_mid rfl 29 (.tmp 2) rfl w.heap.size 0 rfl L _ X4.out.range Try.underlying29 rfl (by rw [L34.out]; exact infoCtC) ?_)
      | (go_at_call 12; (with_reducible refine (HCP.out _ (HV.out.below W4.out)).mono ?_); rintro e w5 ⟨u5, rfl, o5, b5⟩; obtain ⟨a5, q5, hsh, _⟩ := (owned_rd o5).shape; subst hsh; have O5 := Lib.hid o5; have W5 := Lib.hid (W4.out.on b5); have X5 := Lib.hid (X4.out.below b5 X4.out.lt); have Y5 := Lib.hid (Y4.out.below b5 Y4.out.lt); clear o5 b5 c4)
      | ((with_reducible show wpList _ _ _ (Oper.mk _ (.store _ (.tmp 8) (.tmp 24)) _ _ _ _ :: _) _ _); refine wpList_store_blk rfl 29 (.tmp 8) (.tmp 24) rfl w5.heap.size 0 (ctc c (.slice a5 n q5)) rfl rfl 29 Z (Blk.new w5 29 Z _ rfl) (by rw [HCL.out, Z34.out]; exact Nat.le_refl _) (by rw [HCL.out]; exact infoCtC) (HCO.out _ _ _) ?_; intro w6 b6 g6; rw [splice_all _ _ (by rw [HCL.out, Z34.out])] at b6; have N6 := Lib.hid b6; have B6 := ((Below.refl w5.heap.size w5).alloc (Nat.le_refl _) (.cells Z.toArray 29)).grown g6 (by simp) (fun g hg => Nat.le_of_eq (Option.some.inj hg)); have O6 := Lib.hid (owned_below O5.out B6); have W6 := Lib.hid (W5.out.on B6); have Y6 := Lib.hid (Y5.out.below B6 Y5.out.lt); have c6 := (X5.out.below B6 X5.out.lt).cell 33 _ C1.out; have HSZ6 := Lib.hid (show w.heap.size + 1 < w5.heap.size from Y5.out.lt); have HNE6 := Lib.hid (show (Value.slice a5 n q5).ownBlock = none ∨ (Value.slice a5 n q5).ownBlock ≠ some w5.heap.size by cases e : (Value.slice a5 n q5).ownBlock with | none => exact .inl rfl | some g => exact .inr (fun q => by have := (World.ownsRow.lt O5.out g e).2; have := Option.some.inj q; omega)); clear b6 g6 B6)
      | ((with_reducible show wpList _ _ _ (Oper.mk _ (.load _ (.tmp 29)) _ _ _ _ :: _) _ _); refine wpList_load_mid rfl 26 (.tmp 29) rfl pb (po + k * 34 + 1) rfl Pk _ (RPd.out _ W6.out) Try.underlying26 rfl (by rw [P33.out]; exact infoRfC) ?_)
      | ((with_reducible show wpList _ _ _ (Oper.mk _ (.store _ (.tmp 31) (.tmp 30)) _ _ _ _ :: _) _ _); refine wpList_store_blk rfl 26 (.tmp 31) (.tmp 30) rfl w5.heap.size 0 Pk rfl rfl 29 (ctc c (.slice a5 n q5)) N6.out (by rw [HCL.out, P33.out]; decide) (by rw [P33.out]; exact infoRfC) PO.out ?_; intro w7 b7 g7; rw [HSP.out] at b7; have N7 := Lib.hid b7; have O7 := Lib.hid (World.ownsRow.kept O6.out g7 HNE6.out); have Y7 := Lib.hid (Y6.out.grown g7 (fun e => by have := Option.some.inj e; have := HSZ6.out; omega)); have W7 := Lib.hid (W6.out.grown g7 W6.out.size (fun g hg => by have := Option.some.inj hg; have := HSZ6.out; omega)); clear b7 g7 c6)
      | ((with_reducible show wpList _ _ _ (Oper.mk (some 32) (.load _ _) _ _ _ _ :: _) _ _); refine wpList_load_mid rfl 29 (.tmp 8) rfl w5.heap.size 0 rfl (ctc D (.slice a5 n q5)) _ N7.out.range Try.underlying29 rfl (by rw [HNL.out]; exact infoCtC) ?_)
      | ((with_reducible show wpList _ _ _ (Oper.mk _ (.store _ (.tmp 4) (.tmp 32)) _ _ _ _ :: _) _ _); refine wpList_store_blk rfl 29 (.tmp 4) (.tmp 32) rfl (w.heap.size + 1) 0 (ctc D (.slice a5 n q5)) rfl rfl 29 Z Y7.out (by rw [HNL.out, Z34.out]; exact Nat.le_refl _) (by rw [HNL.out]; exact infoCtC) (HNO.out _ _ _) ?_; intro w8 b8 g8; rw [splice_all _ _ (by rw [HNL.out, Z34.out])] at b8; have Y8 := Lib.hid b8; have O8 := Lib.hid (World.ownsRow.kept O7.out g8 (ne_res O7.out Y4.out.lt)); have W8 := Lib.hid (W7.out.grown g8 W7.out.size (fun g hg => by have := Option.some.inj hg; omega)); clear b8 g8))
    refine bodyPost_ret (results_mid2 rfl _ _ (w.heap.size + 1) (ctc D (.slice a5 n q5)) _ rfl Y8.out.range Try.underlying29 rfl (by rw [HNL.out]; exact infoCtC)) rfl ⟨.slice a5 n q5, rfl, ownT_lower O8.out W4.out.size, W8.out⟩
  · rw [← hL]
    by_cases h0 : CT.check c = 0
    · have h1 : plc c.snaps nm < 0 := by
        rcases Int.lt_or_le (plc c.snaps nm) 0 with q | q
        · exact q
        · exact absurd ⟨h0, q⟩ hok
      have hX : CT.revert c nm = (CT.zero, 22) := by rw [HX.out, if_neg (by rw [h0]; decide), if_pos h1]
      rw [hX]
      rw [h0] at HCK
      clear HX hX h0 hok
      obtain ⟨PV, hPV⟩ : ∃ x, x = plc c.snaps nm := ⟨_, rfl⟩
      rw [← hPV] at HPL h1
      obtain ⟨CS, hCS⟩ : ∃ x, x = sncs c.snaps := ⟨_, rfl⟩
      rw [← hCS] at HCK HPL HV
      obtain ⟨n, hn⟩ : ∃ n, n = c.snaps.length := ⟨_, rfl⟩
      rw [← hn] at HCK HPL HV C1
      clear hL hCS hn hv hc hn1 HL hcap hPV
      go_enter Try.func28, Try.ntmps28
      go_wp2_with ((fail_if_success (with_reducible show bodyPost _ _ _ _ _ _)); first
        | (refine wpList_load_mid rfl 29 (.tmp 2) rfl w.heap.size 0 rfl L _ X1.out.range Try.underlying29 rfl (by rw [L34.out]; exact infoCtC) ?_)
        | (go_at_call 16; (with_reducible refine (HCK.out _ (HV.out.below W1.out)).mono ?_); rintro e w2 ⟨rfl, b2⟩; have W2 := Lib.hid (W1.out.on b2); have X2 := Lib.hid (X1.out.below b2 X1.out.lt); have Y2 := Lib.hid (Y1.out.below b2 Y1.out.lt); clear b2)
        | (refine wpList_load_mid rfl 29 (.tmp 2) rfl w.heap.size 0 rfl L _ X2.out.range Try.underlying29 rfl (by rw [L34.out]; exact infoCtC) ?_)
        | (go_at_call 53; (with_reducible refine (HPL.out _ (HV.out.below W2.out)).mono ?_); rintro e w4 ⟨rfl, b4⟩; have W4 := Lib.hid (W2.out.on b4); have X4 := Lib.hid (X2.out.below b4 X2.out.lt); have Y4 := Lib.hid (Y2.out.below b4 Y2.out.lt); have c4 := (X2.out.below b4 X2.out.lt).cell 33 _ C1.out; clear b4)
        | ((with_reducible show wpList _ _ _ (Oper.mk (some 22) (.build _ _) _ _ _ _ :: _) _ _); refine wpList_wanted rfl (.agg Z.toArray) (ex_buildN rfl hbr) ?_)
        | (refine wpList_store_blk rfl 29 (.tmp 4) (.tmp 22) rfl (w.heap.size + 1) 0 Z rfl rfl 29 Z Y4.out (by rw [Z34.out]; exact Nat.le_refl _) (by rw [Z34.out]; exact infoCtC) ZO.out ?_; intro w5 b5 g5; rw [splice_all _ _ rfl] at b5; have Y5 := Lib.hid b5; have W5 := Lib.hid (W4.out.grown g5 W4.out.size (fun g hg => by have := Option.some.inj hg; omega)); clear b5 g5))
      refine bodyPost_ret (results_mid2 rfl _ _ (w.heap.size + 1) Z _ rfl Y5.out.range Try.underlying29 rfl (by rw [Z34.out]; exact infoCtC)) rfl ⟨.slice none 0 0, by rw [HZ.out]; rfl, owned_none _ _ _ _, W5.out⟩
    · have hX : CT.revert c nm = (CT.zero, CT.check c) := by rw [HX.out, if_pos h0]
      rw [hX]
      obtain ⟨E, hE⟩ : ∃ x, x = CT.check c := ⟨_, rfl⟩
      rw [← hE] at h0 HCK ⊢
      have hE1 : (E == 0) = false := by simpa using h0
      have hE2 : (E != 0) = true := by rw [bne, hE1]; rfl
      clear HX hX hE hok
      obtain ⟨PV, hPV⟩ : ∃ x, x = plc c.snaps nm := ⟨_, rfl⟩
      rw [← hPV] at HPL
      obtain ⟨CS, hCS⟩ : ∃ x, x = sncs c.snaps := ⟨_, rfl⟩
      rw [← hCS] at HCK HPL HV
      obtain ⟨n, hn⟩ : ∃ n, n = c.snaps.length := ⟨_, rfl⟩
      rw [← hn] at HCK HPL HV C1
      clear hL hCS hn hv hc hn1 HL hcap hPV
      go_enter Try.func28, Try.ntmps28
      go_wp2_with ((fail_if_success (with_reducible show bodyPost _ _ _ _ _ _)); first
        | (refine wpList_load_mid rfl 29 (.tmp 2) rfl w.heap.size 0 rfl L _ X1.out.range Try.underlying29 rfl (by rw [L34.out]; exact infoCtC) ?_)
        | (go_at_call 16; (with_reducible refine (HCK.out _ (HV.out.below W1.out)).mono ?_); rintro e w2 ⟨rfl, b2⟩; have W2 := Lib.hid (W1.out.on b2); have X2 := Lib.hid (X1.out.below b2 X1.out.lt); have Y2 := Lib.hid (Y1.out.below b2 Y1.out.lt); clear b2)
        | (refine wpList_load_mid rfl 29 (.tmp 2) rfl w.heap.size 0 rfl L _ X2.out.range Try.underlying29 rfl (by rw [L34.out]; exact infoCtC) ?_)
        | (go_at_call 53; (with_reducible refine (HPL.out _ (HV.out.below W2.out)).mono ?_); rintro e w4 ⟨rfl, b4⟩; have W4 := Lib.hid (W2.out.on b4); have X4 := Lib.hid (X2.out.below b4 X2.out.lt); have Y4 := Lib.hid (Y2.out.below b4 Y2.out.lt); have c4 := (X2.out.below b4 X2.out.lt).cell 33 _ C1.out; clear b4)
        | ((with_reducible show wpList _ _ _ (Oper.mk (some 17) (.build _ _) _ _ _ _ :: _) _ _); refine wpList_wanted rfl (.agg Z.toArray) (ex_buildN rfl hbr) ?_)
        | (refine wpList_store_blk rfl 29 (.tmp 4) (.tmp 17) rfl (w.heap.size + 1) 0 Z rfl rfl 29 Z Y4.out (by rw [Z34.out]; exact Nat.le_refl _) (by rw [Z34.out]; exact infoCtC) ZO.out ?_; intro w5 b5 g5; rw [splice_all _ _ rfl] at b5; have Y5 := Lib.hid b5; have W5 := Lib.hid (W4.out.grown g5 W4.out.size (fun g hg => by have := Option.some.inj hg; omega)); clear b5 g5))
      refine bodyPost_ret (results_mid2 rfl _ _ (w.heap.size + 1) Z _ rfl Y5.out.range Try.underlying29 rfl (by rw [Z34.out]; exact infoCtC)) rfl ⟨.slice none 0 0, by rw [HZ.out]; rfl, owned_none _ _ _ _, W5.out⟩
end Go.Proofs.Ytkagapgganoomaa

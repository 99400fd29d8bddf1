/- May a catalog be: contract of the document's answer. Own work. -/
import Derived.Test.YtkagapgganoomaaCtNm
import Derived.BigQuiet
namespace Go.Proofs.Ytkagapgganoomaa
open Go.ChangeShapes Go.WideShapes Go.ChangeAt Go.RowKit
open RT CT
theorem quiet_N {P : Program} {f : FuncId} {args : Array Value} {w : World} {n : Nat} {v : Value}
    (h : Calls P f args (w.drewN n) fun e w' => e = .returned v ∧ w' = w.drewN n) : Calls P f args (w.drewN n) fun e w' => e = .returned v ∧ ∃ m, w' = w.drewN m :=
  h.mono fun _ _ ⟨he, hw⟩ => ⟨he, n, hw⟩
/-- Are the top and the first k snapshots' tops such as may be? -/
def okTo (c : Ct) (k : Nat) : Bool := mayP c.top && (c.snaps.take k).all (mayP ·.top)
theorem okTo_zero (c : Ct) : okTo c 0 = mayP c.top := by unfold okTo; simp
theorem okTo_succ (c : Ct) {k : Nat} (h : k < c.snaps.length) : okTo c (k + 1) = (okTo c k && mayP c.snaps[k].top) := by
  unfold okTo
  rw [List.take_succ_eq_append_getElem h, List.all_append, Bool.and_assoc]
  simp
theorem okTo_all (c : Ct) {k : Nat} (h : k = c.snaps.length) : okTo c k = tops c := by unfold okTo tops; rw [h, List.take_length]
theorem check_long {c : Ct} (h : 64 < c.snaps.length) : CT.check c = 45 := by unfold CT.check; rw [if_pos h]
theorem check_name {c : Ct} (h : ¬ 64 < c.snaps.length) {j : Nat} (hj : j < c.snaps.length) (hs : stepOk c.snaps j = false) : CT.check c = 44 := by
  unfold CT.check; rw [if_neg h, if_neg (by rw [rises_not hj hs]; decide)]
theorem check_top {c : Ct} (h : ¬ 64 < c.snaps.length) (hr : ∀ j, j < c.snaps.length → stepOk c.snaps j = true) : CT.check c = if tops c = true then 0 else 2 := by
  unfold CT.check; rw [if_neg h, if_pos (rises_iff.2 hr)]
set_option maxRecDepth 100000 in
set_option maxHeartbeats 4000000 in
theorem rccheck_any (c : Ct) (hc : CT.Ok c) (v : Value) (w : World) (hv : RdT 34 w v c.snaps.length (sncs c.snaps)) :
    Calls Try.prog 16 #[.agg (ctc c v).toArray] w fun e w' => e = .returned (.int .i64 (CT.check c)) ∧ Below w.heap.size w w' := by
  obtain ⟨ra, rq, rfl, -⟩ := hv.shape
  obtain ⟨L, hL⟩ : ∃ L, L = ctc c (.slice ra c.snaps.length rq) := ⟨_, rfl⟩
  have b1 := Blk.new w 29 L _ rfl
  have W1 := Lib.hid ((Below.refl w.heap.size w).alloc (Nat.le_refl _) (.cells L.toArray 29))
  have X1 := Lib.hid b1
  have RX := Lib.hid (ct_topE b1 hL)
  have C1 := Lib.hid (show L[33]? = some (.slice ra c.snaps.length rq) by rw [hL]; exact ctc_snaps hc.top _)
  have c1 := b1.cell 33 _ C1.out
  have HV := Lib.hid (hv.below W1.out)
  have HP := Lib.hid hc.snaps
  have P33 := Lib.hid (pc_len hc.top)
  have HM0 := Lib.hid (fun W => crmay_any c.top hc.top W)
  have HLG := Lib.hid (check_long (c := c))
  have HNM := Lib.hid (check_name (c := c))
  have HTP := Lib.hid (check_top (c := c))
  have H0 := Lib.hid (okTo_zero c)
  have HS := Lib.hid (fun k h => okTo_succ c (k := k) h)
  have HA := Lib.hid (fun k h => okTo_all c (k := k) h)
  obtain ⟨R, hR⟩ : ∃ R, R = CT.check c := ⟨_, rfl⟩
  rw [← hL, ← hR]
  rw [← hR] at HLG HNM HTP
  obtain ⟨Pc, hPc⟩ : ∃ P, P = pc c.top := ⟨_, rfl⟩
  rw [← hPc] at RX P33 HM0
  obtain ⟨M0, hM0⟩ : ∃ M, M = mayP c.top := ⟨_, rfl⟩
  rw [← hM0] at HM0 H0
  obtain ⟨K, hK⟩ : ∃ K, K = okTo c := ⟨_, rfl⟩
  rw [← hK] at H0 HS HA
  obtain ⟨TP, hTP⟩ : ∃ K, K = tops c := ⟨_, rfl⟩
  rw [← hTP] at HTP HA
  obtain ⟨ps, hps⟩ : ∃ x, x = c.snaps := ⟨_, rfl⟩
  rw [← hps] at HV HP HLG HNM HTP HS HA c1 C1
  obtain ⟨n, hn⟩ : ∃ n, n = ps.length := ⟨_, rfl⟩
  rw [← hn] at HV c1 C1 HLG HNM HTP
  have HN := Lib.hid hn
  clear hL hR hPc hM0 hK hTP hps hn hv hc b1
  by_cases h64 : 64 < n
  · obtain rfl : R = 45 := HLG.out h64
    have h64' : (64 : Int) < (n : Int) := by omega
    clear HLG HNM HTP
    go_enter Try.func16, Try.ntmps16
    go_wp2_with fail
    go_ret
    exact ⟨rfl, W1.out⟩
  · have h64' : ¬ (64 : Int) < (n : Int) := by omega
    have HL := Lib.hid h64
    go_enter Try.func16, Try.ntmps16
    go_wp2_with ((fail_if_success (with_reducible show bodyPost _ _ _ _ _ _)); first
      | (refine wpList_load_mid rfl 26 (.tmp 9) rfl w.heap.size 0 rfl Pc _ RX.out Try.underlying26 rfl (by rw [P33.out]; exact infoRfC) ?_)
      | (go_at_call 40; (with_reducible refine (HM0.out _).mono ?_); rintro e w2 ⟨rfl, b2⟩; have W2 := Lib.hid (W1.out.on b2); have X2 := Lib.hid (X1.out.below b2 X1.out.lt); have V2 := Lib.hid (HV.out.below b2); clear b2 c1))
    go_loopw [3, 4] (fun x i wr => ∃ k : Nat, k ≤ n ∧ i = .int .i64 (k : Int) ∧ x = .bool (K k) ∧ Below w2.heap.size w2 wr ∧ ∀ j, j < k → stepOk ps j = true) (fun _ i _ => n - (intOf i).toNat)
    case atStart => exact ⟨0, Nat.zero_le _, rfl, by rw [H0.out], Below.refl _ _, fun j h => absurd h (Nat.not_lt_zero j)⟩
    case round =>
      obtain ⟨k, hk, rfl, rfl, hw, hz⟩ := hrel
      have HZ := Lib.hid hz
      have W3 := Lib.hid (W2.out.on hw)
      have X3 := Lib.hid (X2.out.below hw X2.out.lt)
      have V3 := Lib.hid (V2.out.below hw)
      have B3 := Lib.hid hw
      have c1 := X3.out.cell 33 _ C1.out
      clear hz hw
      by_cases hlt : k < n
      · have hkp : k < ps.length := by rw [← HN.out]; exact hlt
        have hklt : (k : Int) < (n : Int) := by omega
        have hk0 : (0 : Int) ≤ (k : Int) := by omega
        have HPK := Lib.hid (HP.out _ (List.getElem_mem hkp))
        have HMK := Lib.hid (fun W => crmay_any ps[k].top HPK.out W)
        have HNAME := Lib.hid (fun W => rname_same ps[k].name W)
        have HST := Lib.hid (show stepOk ps k = (isName ps[k].name && (decide (k = 0) || nlt (nm ps (k - 1)) ps[k].name)) by unfold stepOk; rw [nm_eq hkp])
        obtain ⟨pb, po, rfl, -, hnm, hrt⟩ := sn_range V3.out HP.out HN.out hkp
        have RTP := Lib.hid hrt
        have PK33 := Lib.hid (pc_len HPK.out)
        obtain ⟨PK, hPK⟩ : ∃ P, P = pc ps[k].top := ⟨_, rfl⟩
        obtain ⟨MK, hMK⟩ : ∃ P, P = mayP ps[k].top := ⟨_, rfl⟩
        have HSK := HS.out k (by rw [← HN.out]; exact hlt)
        rw [← hPK] at RTP PK33 HMK
        rw [← hMK] at HMK
        have HSK' := Lib.hid (show K (k + 1) = (K k && MK) by rw [HSK, ← hMK])
        clear HSK hrt
        obtain ⟨nk, hnk⟩ : ∃ x, x = ps[k].name := ⟨_, rfl⟩
        rw [← hnk] at HNAME HST hnm
        obtain ⟨ik, hik⟩ : ∃ x, x = isName nk := ⟨_, rfl⟩
        rw [← hik] at HNAME HST
        clear hPK hMK hnk hik HPK
        cases ik with
        | false =>
          have BAD := Lib.hid (show stepOk ps k = false by rw [HST.out]; rfl)
          go_wp2_with fail
          refine wp_region_quiet_lit (by kernel_rfl) (by kernel_rfl) ?_
          repeat (first
            | ((with_reducible show wpQuiet _ _ _ _ (Oper.mk _ (.binOp _ _ (.tmp 36) _ _) _ _ _ _ :: _) _); refine wpQuiet_told _ rfl _ (fun n' => ex_binOp (x := .tmp 36) (y := .tmp 43) (b := .leq) (t := 9) rfl rfl rfl (eqG_str .leq (.tmp 36) (.tmp 43) nk nq0 _) (HLQ.out _)) ?_; simp only [Act.put, List.setIfInBounds_toArray, List.set_cons_zero, List.set_cons_succ])
            | go_big_quiet_step ((go_at_call 21; exact quiet_N (HNAME.out _))))
          refine wpQuiet_nil ?_
          intro _ hw'
          obtain ⟨nq, hw''⟩ := hw'
          subst hw''
          have hR44 : R = 44 := HNM.out HL.out hlt BAD.out
          clear HLG HNM HTP
          subst hR44
          go_wp2_with fail
          go_ret
          exact ⟨rfl, below_dN W3.out _⟩
        | true =>
          cases k with
          | zero =>
            have GOOD := Lib.hid (show stepOk ps 0 = true by rw [HST.out]; rfl)
            rw [Nat.zero_mul, Nat.add_zero] at hnm RTP
            go_wp2_with fail
            refine wp_region_quiet_lit (by kernel_rfl) (by kernel_rfl) ?_
            repeat (first
              | ((with_reducible show wpQuiet _ _ _ _ (Oper.mk _ (.binOp _ _ (.tmp 36) _ _) _ _ _ _ :: _) _); refine wpQuiet_told _ rfl _ (fun n' => ex_binOp (x := .tmp 36) (y := .tmp 43) (b := .leq) (t := 9) rfl rfl rfl (eqG_str .leq (.tmp 36) (.tmp 43) nk nq0 _) (HLQ.out _)) ?_; simp only [Act.put, List.setIfInBounds_toArray, List.set_cons_zero, List.set_cons_succ])
              | go_big_quiet_step ((go_at_call 21; exact quiet_N (HNAME.out _))))
            refine wpQuiet_nil ?_
            intro _ hw'
            obtain ⟨nq, hw''⟩ := hw'
            subst hw''
            have c1 := (X3.out.below (below_dN (Below.refl _ _) nq) X3.out.lt).cell 33 _ C1.out
            have W4 := Lib.hid (below_dN W3.out nq)
            have B4 := Lib.hid (below_dN B3.out nq)
            have RT4 := Lib.hid (range_dN RTP.out nq)
            obtain ⟨w4, hw4⟩ : ∃ x, x = wr.drewN nq := ⟨_, rfl⟩
            rw [← hw4] at c1 W4 B4 RT4 ⊢
            clear hw4
            cases hkk : K 0 with
            | true =>
              have HKK := Lib.hid (show K (0 + 1) = MK by rw [HSK'.out, hkk]; rfl)
              clear hkk
              go_wp2_with ((fail_if_success (with_reducible show bodyPost _ _ _ _ _ _)); first
                | ((with_reducible show wpList _ _ _ (Oper.mk _ (.load _ (.tmp 53)) _ _ _ _ :: _) _ _); refine wpList_loadW 26 (.tmp 53) rfl pb (po + 1) rfl PK _ RT4.out Try.underlying26 rfl (by rw [PK33.out]; exact infoRfC) rfl ?_)
                | (go_at_call 40; (with_reducible refine (HMK.out _).mono ?_); rintro e w5 ⟨rfl, b5⟩; have W5 := Lib.hid (W4.out.on b5); have B5 := Lib.hid (B4.out.on b5); clear b5))
              refine ⟨⟨0 + 1, by omega, by go_num, by rw [HKK.out], B5.out, fun j hj => ?_⟩, by simp [intOf]; omega⟩
              by_cases e : j = 0
              · subst e; exact GOOD.out
              · exact HZ.out j (by omega)
            | false =>
              have HKK := Lib.hid (show K (0 + 1) = false by rw [HSK'.out, hkk]; rfl)
              clear hkk
              go_wp2_with fail
              refine ⟨⟨0 + 1, by omega, by go_num, by rw [HKK.out], B4.out, fun j hj => ?_⟩, by simp [intOf]; omega⟩
              by_cases e : j = 0
              · subst e; exact GOOD.out
              · exact HZ.out j (by omega)
          | succ k =>
            have hkq : k < ps.length := by omega
            obtain ⟨qb, qo, he, -, hnq, -⟩ := sn_range V3.out HP.out HN.out hkq
            cases he
            obtain ⟨lt, hlt2⟩ : ∃ x, x = nlt (nm ps (k + 1 - 1)) nk := ⟨_, rfl⟩
            rw [← hlt2] at HST
            have NL := Lib.hid (show nlt ps[k].name nk = lt by rw [hlt2, show k + 1 - 1 = k from rfl, nm_eq hkq])
            obtain ⟨nq0, hnq0⟩ : ∃ x, x = ps[k].name := ⟨_, rfl⟩
            rw [← hnq0] at NL hnq
            have HLQ := Lib.hid (fun W => show (binOp .leq 9 (.string nk) (.string nq0)).run Try.prog W = .ok (.bool (!lt)) W by rw [run_str_leq, NL.out])
            clear hlt2 hnq0
            cases lt with
            | false =>
              have BAD := Lib.hid (show stepOk ps (k + 1) = false by rw [HST.out]; simp)
              go_wp2_with fail
              refine wp_region_quiet_lit (by kernel_rfl) (by kernel_rfl) ?_
              repeat (first
                | ((with_reducible show wpQuiet _ _ _ _ (Oper.mk _ (.binOp _ _ (.tmp 36) _ _) _ _ _ _ :: _) _); refine wpQuiet_told _ rfl _ (fun n' => ex_binOp (x := .tmp 36) (y := .tmp 43) (b := .leq) (t := 9) rfl rfl rfl (eqG_str .leq (.tmp 36) (.tmp 43) nk nq0 _) (HLQ.out _)) ?_; simp only [Act.put, List.setIfInBounds_toArray, List.set_cons_zero, List.set_cons_succ])
                | go_big_quiet_step ((go_at_call 21; exact quiet_N (HNAME.out _))))
              refine wpQuiet_nil ?_
              intro _ hw'
              obtain ⟨nq, hw''⟩ := hw'
              subst hw''
              have hR44 : R = 44 := HNM.out HL.out hlt BAD.out
              clear HLG HNM HTP
              subst hR44
              go_wp2_with fail
              go_ret
              exact ⟨rfl, below_dN W3.out _⟩
            | true =>
              have GOOD := Lib.hid (show stepOk ps (k + 1) = true by rw [HST.out]; simp)
              go_wp2_with fail
              refine wp_region_quiet_lit (by kernel_rfl) (by kernel_rfl) ?_
              repeat (first
                | ((with_reducible show wpQuiet _ _ _ _ (Oper.mk _ (.binOp _ _ (.tmp 36) _ _) _ _ _ _ :: _) _); refine wpQuiet_told _ rfl _ (fun n' => ex_binOp (x := .tmp 36) (y := .tmp 43) (b := .leq) (t := 9) rfl rfl rfl (eqG_str .leq (.tmp 36) (.tmp 43) nk nq0 _) (HLQ.out _)) ?_; simp only [Act.put, List.setIfInBounds_toArray, List.set_cons_zero, List.set_cons_succ])
                | go_big_quiet_step ((go_at_call 21; exact quiet_N (HNAME.out _))))
              refine wpQuiet_nil ?_
              intro _ hw'
              obtain ⟨nq, hw''⟩ := hw'
              subst hw''
              have c1 := (X3.out.below (below_dN (Below.refl _ _) nq) X3.out.lt).cell 33 _ C1.out
              have W4 := Lib.hid (below_dN W3.out nq)
              have B4 := Lib.hid (below_dN B3.out nq)
              have RT4 := Lib.hid (range_dN RTP.out nq)
              obtain ⟨w4, hw4⟩ : ∃ x, x = wr.drewN nq := ⟨_, rfl⟩
              rw [← hw4] at c1 W4 B4 RT4 ⊢
              clear hw4
              cases hkk : K (k + 1) with
              | true =>
                have HKK := Lib.hid (show K (k + 1 + 1) = MK by rw [HSK'.out, hkk]; rfl)
                clear hkk
                go_wp2_with ((fail_if_success (with_reducible show bodyPost _ _ _ _ _ _)); first
                  | ((with_reducible show wpList _ _ _ (Oper.mk _ (.load _ (.tmp 53)) _ _ _ _ :: _) _ _); refine wpList_loadW 26 (.tmp 53) rfl pb (po + (k + 1) * 34 + 1) rfl PK _ RT4.out Try.underlying26 rfl (by rw [PK33.out]; exact infoRfC) rfl ?_)
                  | (go_at_call 40; (with_reducible refine (HMK.out _).mono ?_); rintro e w5 ⟨rfl, b5⟩; have W5 := Lib.hid (W4.out.on b5); have B5 := Lib.hid (B4.out.on b5); clear b5))
                refine ⟨⟨(k + 1) + 1, by omega, by go_num, by rw [HKK.out], B5.out, fun j hj => ?_⟩, by simp [intOf]; omega⟩
                by_cases e : j = (k + 1)
                · subst e; exact GOOD.out
                · exact HZ.out j (by omega)
              | false =>
                have HKK := Lib.hid (show K (k + 1 + 1) = false by rw [HSK'.out, hkk]; rfl)
                clear hkk
                go_wp2_with fail
                refine ⟨⟨(k + 1) + 1, by omega, by go_num, by rw [HKK.out], B4.out, fun j hj => ?_⟩, by simp [intOf]; omega⟩
                by_cases e : j = (k + 1)
                · subst e; exact GOOD.out
                · exact HZ.out j (by omega)
      · obtain rfl : k = n := by omega
        have hkk : ¬ (k : Int) < (k : Int) := by omega
        have hR := HTP.out HL.out (fun j hj => HZ.out j hj)
        have hK := HA.out k HN.out
        rw [hK]
        cases TP with
        | true =>
          have hR0 : R = 0 := by rw [hR]; rfl
          clear HLG HNM HTP hR hK HA
          subst hR0
          go_wp2_with fail
          go_ret
          exact ⟨rfl, W3.out⟩
        | false =>
          have hR2 : R = 2 := by rw [hR]; rfl
          clear HLG HNM HTP hR hK HA
          subst hR2
          go_wp2_with fail
          go_ret
          exact ⟨rfl, W3.out⟩
end Go.Proofs.Ytkagapgganoomaa

/- May a catalog be: contracts of the program (names that rise, tops, Check). Written by gen_ctchp.py. Own work. -/
import Derived.Test.YtkagapgganoomaaCtChR
import Derived.BigQuiet
namespace Go.Proofs.Ytkagapgganoomaa
open Go.ChangeShapes Go.WideShapes Go.ChangeAt Go.RowKit
open RT CT
/-- A snapshot's cells where it stands alone. -/
theorem sn_name {w : World} {b : Nat} {t : TypeId} {s : Sn} {L : List Value} (h : Blk w b t L) (hL : L = snc s) : w.cell? ⟨b, 0, none⟩ = some (.string s.name) := by subst hL; exact h.cell 0 _ rfl
theorem sn_top {w : World} {b : Nat} {t : TypeId} {s : Sn} {L : List Value} (h : Blk w b t L) (hL : L = snc s) : w.rangeAt b 1 (pc s.top) := by
  subst hL
  exact fun i u hu => h.cell (1 + i) u (by unfold snc; rw [Nat.add_comm, List.getElem?_cons_succ]; exact hu)
set_option maxHeartbeats 1000000 in
theorem wrong_any (s : Sn) (hs : Pok s.top) (w : World) : Calls Try.prog 58 #[.agg (snc s).toArray] w fun e w' => e = .returned (.bool (!mayP s.top)) ∧ Below w.heap.size w w' := by
  obtain ⟨L, hL⟩ : ∃ L, L = snc s := ⟨_, rfl⟩
  rw [← hL]
  have b1 := Blk.new w 60 L _ rfl
  have RX := Lib.hid (sn_top b1 hL)
  have W1 := Lib.hid ((Below.refl w.heap.size w).alloc (Nat.le_refl _) (.cells L.toArray 60))
  have HM := Lib.hid (fun W => cpmay_any s.top hs W)
  have P33 := Lib.hid (pc_len hs)
  obtain ⟨M, hM⟩ : ∃ M, M = mayP s.top := ⟨_, rfl⟩
  obtain ⟨Pc, hPc⟩ : ∃ P, P = pc s.top := ⟨_, rfl⟩
  rw [← hM, ← hPc] at HM
  rw [← hPc] at RX P33
  rw [← hM]
  clear hL b1 hM hPc hs
  go_enter Try.func58, Try.ntmps58
  go_wp2_with ((fail_if_success (with_reducible show bodyPost _ _ _ _ _ _)); first
    | (refine wpList_load_mid rfl 26 (.tmp 3) rfl w.heap.size 1 rfl Pc _ RX.out Try.underlying26 rfl (by rw [P33.out]; exact infoRfC) ?_)
    | (go_at_call 59; (with_reducible refine (HM.out _).mono ?_); rintro e w2 ⟨rfl, b2⟩; have W2 := Lib.hid (W1.out.on b2); clear b2))
  go_ret
  exact ⟨rfl, W2.out⟩
set_option maxRecDepth 100000 in
set_option maxHeartbeats 1000000 in
theorem wrongAt_any (l : List Sn) (hl : ∀ s ∈ l, Pok s.top) (v : Value) (w : World) (hv : RdT 34 w v l.length (sncs l)) (hn1 : l.length ≤ 140737488355328) :
    Calls Try.prog 67 #[v, .func (.func 58) #[] #[]] w fun e w' => (∃ (k : Nat) (s : Sn), e = .returned (.int .i64 (k : Int)) ∧ l[k]? = some s ∧ (!mayP s.top) = true ∧ ∀ (j : Nat) (t : Sn), j < k → l[j]? = some t → (!mayP t.top) = false) ∧ Below w.heap.size w w' ∨ (e = .returned (.int .i64 (-1)) ∧ ∀ (j : Nat) (t : Sn), l[j]? = some t → (!mayP t.top) = false) ∧ Below w.heap.size w w' := by
  obtain ⟨ra, rq, rfl, -⟩ := hv.shape
  have HV := Lib.hid hv
  have HL := Lib.hid hl
  obtain ⟨n, hn⟩ : ∃ n, n = l.length := ⟨_, rfl⟩
  rw [← hn] at hn1 HV
  rw [← hn]
  have HN := Lib.hid hn
  clear hv hl hn
  go_enter Try.func67, Try.ntmps67
  go_wp2_with fail
  go_loopw [8] (fun i wr => ∃ k : Nat, k ≤ n ∧ i = .int .i64 (k : Int) ∧ Below w.heap.size w wr ∧ ∀ (j : Nat) (t : Sn), j < k → l[j]? = some t → (!mayP t.top) = false) (fun i _ => n - (intOf i).toNat)
  case atStart => exact ⟨0, Nat.zero_le _, rfl, Below.refl _ _, fun j _ h _ => absurd h (Nat.not_lt_zero j)⟩
  case round =>
    obtain ⟨k, hk, rfl, hw, hz⟩ := hrel
    have HZ := Lib.hid hz
    have W1 := Lib.hid hw
    clear hz hw
    by_cases hlt : k < n
    · have hkp : k < l.length := by rw [← HN.out]; exact hlt
      have HK := Lib.hid (List.getElem?_eq_getElem hkp)
      obtain ⟨pb, po, rfl, hpc, -, -⟩ := sn_range (HV.out.below W1.out) HL.out HN.out hkp
      have PC := Lib.hid hpc
      have PL := Lib.hid (snc_len (HL.out _ (List.getElem_mem hkp)))
      have HF := Lib.hid (fun W => wrong_any l[k] (HL.out _ (List.getElem_mem hkp)) W)
      obtain ⟨B, hB⟩ : ∃ B, B = !mayP l[k].top := ⟨_, rfl⟩
      rw [← hB] at HF
      have HB := Lib.hid hB
      have hklt : (k : Int) < (n : Int) := by omega
      have hk0 : (0 : Int) ≤ (k : Int) := by omega
      clear hpc hB
      cases B with
      | true =>
        go_wp2_with ((fail_if_success (with_reducible show bodyPost _ _ _ _ _ _)); first
          | (refine wpList_load_mid rfl 60 (.tmp 14) rfl pb (po + k * 34) rfl (snc l[k]) _ PC.out Try.underlying60 rfl (by rw [PL.out]; exact infoSnC) ?_)
          | (go_at_call 58; (with_reducible refine (HF.out _).mono ?_); rintro e w2 ⟨rfl, b2⟩; have W2 := Lib.hid (W1.out.on b2); clear b2))
        go_ret
        exact .inl ⟨⟨k, _, rfl, HK.out, HB.out.symm, HZ.out⟩, W2.out⟩
      | false =>
        go_wp2_with ((fail_if_success (with_reducible show bodyPost _ _ _ _ _ _)); first
          | (refine wpList_load_mid rfl 60 (.tmp 14) rfl pb (po + k * 34) rfl (snc l[k]) _ PC.out Try.underlying60 rfl (by rw [PL.out]; exact infoSnC) ?_)
          | (go_at_call 58; (with_reducible refine (HF.out _).mono ?_); rintro e w2 ⟨rfl, b2⟩; have W2 := Lib.hid (W1.out.on b2); clear b2))
        refine ⟨⟨k + 1, by omega, by go_num, W2.out, fun j t hjk ht => ?_⟩, by simp [intOf]; omega⟩
        by_cases e : j = k
        · subst e
          obtain rfl : l[j] = t := Option.some.inj (HK.out.symm.trans ht)
          exact HB.out.symm
        · exact HZ.out j t (by omega) ht
    · obtain rfl : k = n := by omega
      have hkk : ¬ (k : Int) < (k : Int) := by omega
      go_wp2_with fail
      go_ret
      exact .inr ⟨⟨rfl, fun j t ht => by simpa using HZ.out j t (by rw [HN.out]; exact (List.getElem?_eq_some_iff.1 ht).1) ht⟩, W1.out⟩
set_option maxHeartbeats 1000000 in
theorem anyWrong_any (l : List Sn) (hl : ∀ s ∈ l, Pok s.top) (v : Value) (w : World) (hv : RdT 34 w v l.length (sncs l)) (hn1 : l.length ≤ 140737488355328) :
    Calls Try.prog 60 #[v, .func (.func 58) #[] #[]] w fun e w' => e = .returned (.bool (!l.all (mayP ·.top))) ∧ Below w.heap.size w w' := by
  obtain ⟨ra, rq, rfl, -⟩ := hv.shape
  have HC := Lib.hid (wrongAt_any l hl _ w hv hn1)
  have HT := Lib.hid (fun (h : ∀ (j : Nat) t, l[j]? = some t → (!mayP t.top) = false) => show l.all (mayP ·.top) = true from List.all_eq_true.2 fun s hs => by
    obtain ⟨j, hj, rfl⟩ := List.getElem_of_mem hs
    simpa using h j _ (List.getElem?_eq_getElem hj))
  have HF := Lib.hid (fun (k : Nat) s (hk : l[k]? = some s) (h : (!mayP s.top) = true) => show l.all (mayP ·.top) = false from Bool.eq_false_iff.2 fun e => by
    have := List.all_eq_true.1 e _ (List.mem_of_getElem? hk)
    rw [this] at h; cases h)
  obtain ⟨R, hR⟩ : ∃ R, R = l.all (mayP ·.top) := ⟨_, rfl⟩
  rw [← hR] at HT HF ⊢
  obtain ⟨n, hn⟩ : ∃ n, n = l.length := ⟨_, rfl⟩
  rw [← hn] at HC ⊢
  clear hv hl hR hn hn1
  go_enter Try.func60, Try.ntmps60
  go_wp2_with (go_at_call 67; (with_reducible refine HC.out.mono ?_); rintro e w2 hb; rcases hb with ⟨⟨k, s, rfl, hk, hb, -⟩, b2⟩ | ⟨⟨rfl, hb⟩, b2⟩ <;> (have HB := Lib.hid hb; have W2 := Lib.hid b2; clear hb b2))
  · have hR := HF.out k s hk HB.out
    have hk0 : (0 : Int) ≤ (k : Int) := by omega
    clear HF HT
    subst hR
    go_wp2_with fail
    go_ret
    exact ⟨rfl, W2.out⟩
  · have hR := HT.out HB.out
    clear HF HT
    subst hR
    go_wp2_with fail
    go_ret
    exact ⟨rfl, W2.out⟩
set_option maxRecDepth 100000 in
set_option maxHeartbeats 1000000 in
theorem ptops_any (c : Ct) (hc : CT.Ok c) (v : Value) (w : World) (hv : RdT 34 w v c.snaps.length (sncs c.snaps)) (hn1 : c.snaps.length ≤ 140737488355328) :
    Calls Try.prog 39 #[.agg (ctc c v).toArray] w fun e w' => e = .returned (.bool (tops c)) ∧ Below w.heap.size w w' := by
  obtain ⟨ra, rq, rfl, -⟩ := hv.shape
  obtain ⟨L, hL⟩ : ∃ L, L = ctc c (.slice ra c.snaps.length rq) := ⟨_, rfl⟩
  have b1 := Blk.new w 29 L _ rfl
  have W1 := Lib.hid ((Below.refl w.heap.size w).alloc (Nat.le_refl _) (.cells L.toArray 29))
  have X1 := Lib.hid b1
  have C1 := Lib.hid (show L[33]? = some (.slice ra c.snaps.length rq) by rw [hL]; exact ctc_snaps hc.top _)
  have c1 := b1.cell 33 _ C1.out
  have HV := Lib.hid (hv.below W1.out)
  have RX := Lib.hid (ct_topE b1 hL)
  have P33 := Lib.hid (pc_len hc.top)
  have HM0 := Lib.hid (fun W => cpmay_any c.top hc.top W)
  have HAW := Lib.hid (fun W (h : RdT 34 W (.slice ra c.snaps.length rq) c.snaps.length (sncs c.snaps)) => anyWrong_any c.snaps hc.snaps _ W h hn1)
  have HTP := Lib.hid (show tops c = (mayP c.top && c.snaps.all (mayP ·.top)) from rfl)
  obtain ⟨TP, hTP⟩ : ∃ K, K = tops c := ⟨_, rfl⟩
  rw [← hTP] at HTP
  obtain ⟨Pc, hPc⟩ : ∃ P, P = pc c.top := ⟨_, rfl⟩
  obtain ⟨M0, hM0⟩ : ∃ M, M = mayP c.top := ⟨_, rfl⟩
  obtain ⟨AL, hAL⟩ : ∃ M, M = c.snaps.all (mayP ·.top) := ⟨_, rfl⟩
  obtain ⟨CS, hCS⟩ : ∃ M, M = sncs c.snaps := ⟨_, rfl⟩
  rw [← hPc] at RX P33
  rw [← hPc, ← hM0] at HM0
  rw [← hM0, ← hAL] at HTP
  rw [← hAL, ← hCS] at HAW
  rw [← hCS] at HV
  rw [← hL, ← hTP]
  obtain ⟨n, hn⟩ : ∃ n, n = c.snaps.length := ⟨_, rfl⟩
  rw [← hn] at HV c1 C1 HAW
  clear hL hPc hM0 hAL hTP hn hCS b1 hv hc hn1
  cases M0 with
  | false =>
    have hTf : TP = false := by rw [HTP.out]; rfl
    clear HTP
    subst hTf
    go_enter Try.func39, Try.ntmps39
    go_wp2_with ((fail_if_success (with_reducible show bodyPost _ _ _ _ _ _)); first
      | (refine wpList_load_mid rfl 26 (.tmp 4) rfl w.heap.size 0 rfl Pc _ RX.out Try.underlying26 rfl (by rw [P33.out]; exact infoRfC) ?_)
      | (go_at_call 59; (with_reducible refine (HM0.out _).mono ?_); rintro e w2 ⟨rfl, b2⟩; have W2 := Lib.hid (W1.out.on b2); clear b2 c1))
    go_ret
    exact ⟨rfl, W2.out⟩
  | true =>
    have hTf : TP = AL := by rw [HTP.out]; rfl
    clear HTP
    subst hTf
    go_enter Try.func39, Try.ntmps39
    go_wp2_with ((fail_if_success (with_reducible show bodyPost _ _ _ _ _ _)); first
      | (refine wpList_load_mid rfl 26 (.tmp 4) rfl w.heap.size 0 rfl Pc _ RX.out Try.underlying26 rfl (by rw [P33.out]; exact infoRfC) ?_)
      | (go_at_call 59; (with_reducible refine (HM0.out _).mono ?_); rintro e w2 ⟨rfl, b2⟩; have W2 := Lib.hid (W1.out.on b2); have V2 := Lib.hid (HV.out.below b2); have d1 := (X1.out.below b2 X1.out.lt).cell 33 _ C1.out; clear b2 c1)
      | (go_at_call 60; (with_reducible refine (HAW.out _ V2.out).mono ?_); rintro e w3 ⟨rfl, b3⟩; have W3 := Lib.hid (W2.out.on b3); clear b3))
    go_ret
    exact ⟨by simp, W3.out⟩
set_option maxRecDepth 100000 in
set_option maxHeartbeats 2000000 in
theorem prises_any (l : List Sn) (hl : ∀ s ∈ l, Pok s.top) (v : Value) (w : World) (hv : RdT 34 w v l.length (sncs l)) (hn1 : l.length ≤ 140737488355328) :
    Calls Try.prog 38 #[v] w fun e w' => e = .returned (.bool (rises l)) ∧ Below w.heap.size w w' := by
  obtain ⟨ra, rq, rfl, -⟩ := hv.shape
  have HV := Lib.hid hv
  have HL := Lib.hid hl
  have HRT := Lib.hid (rises_iff (l := l))
  have HRF := Lib.hid (fun j hj h => rises_not (l := l) (j := j) hj h)
  obtain ⟨R, hR⟩ : ∃ R, R = rises l := ⟨_, rfl⟩
  rw [← hR] at HRT HRF ⊢
  obtain ⟨n, hn⟩ : ∃ n, n = l.length := ⟨_, rfl⟩
  rw [← hn] at hn1 HV
  rw [← hn]
  have HN := Lib.hid hn
  clear hv hl hn hR
  go_enter Try.func38, Try.ntmps38
  go_wp2_with fail
  go_loopw [3, 8] (fun x i wr => ∃ k : Nat, k ≤ n ∧ i = .int .i64 (k : Int) ∧ x = .string (if k = 0 then ⟨#[]⟩ else nm l (k - 1)) ∧ Below w.heap.size w wr ∧ ∀ j, j < k → stepOk l j = true) (fun _ i _ => n - (intOf i).toNat)
  case atStart => exact ⟨0, Nat.zero_le _, rfl, rfl, Below.refl _ _, fun j h => absurd h (Nat.not_lt_zero j)⟩
  case round =>
    obtain ⟨k, hk, rfl, rfl, hw, hz⟩ := hrel
    have HZ := Lib.hid hz
    have W1 := Lib.hid hw
    clear hz hw
    by_cases hlt : k < n
    · have hkp : k < l.length := by rw [← HN.out]; exact hlt
      have hklt : (k : Int) < (n : Int) := by omega
      have hk0 : (0 : Int) ≤ (k : Int) := by omega
      have HST := Lib.hid (show stepOk l k = (isName l[k].name && (decide (k = 0) || nlt (nm l (k - 1)) l[k].name)) by unfold stepOk; rw [nm_eq hkp])
      have HNX := Lib.hid (show (if k + 1 = 0 then ⟨#[]⟩ else nm l (k + 1 - 1)) = l[k].name by rw [if_neg (by omega), Nat.add_sub_cancel, nm_eq hkp])
      have HNAME := Lib.hid (fun W => pname_any l[k].name W)
      have HEQ := Lib.hid (fun (h : isName l[k].name = true) => show stepOk l k = nlt (if k = 0 then ⟨#[]⟩ else nm l (k - 1)) l[k].name by
        rw [HST.out, h]
        by_cases e : k = 0
        · subst e; rw [if_pos rfl, nlt_empty (isName_iff.1 h).1]; rfl
        · rw [if_neg e, decide_eq_false e]; rfl)
      obtain ⟨pb, po, rfl, hpc, -, -⟩ := sn_range (HV.out.below W1.out) HL.out HN.out hkp
      have PC := Lib.hid hpc
      have PL := Lib.hid (snc_len (HL.out _ (List.getElem_mem hkp)))
      have PO := Lib.hid (show (snc l[k]).toArray.all (·.oneCell') = true by rw [List.all_toArray, List.all_eq_true]; exact snc_one' _)
      have ZP := Lib.hid (fun b : Nat => (show ∀ (X : World) (L : List Value), Blk X b 60 L → L = snc l[k] → X.cell? ⟨b, 0, none⟩ = some (.string l[k].name) from fun X L h q => sn_name h q))
      obtain ⟨AH, hAH⟩ : ∃ x, x = (if k = 0 then ⟨#[]⟩ else nm l (k - 1)) := ⟨_, rfl⟩
      rw [← hAH] at HEQ ⊢
      obtain ⟨nk, hnk⟩ : ∃ x, x = l[k].name := ⟨_, rfl⟩
      rw [← hnk] at HNAME HEQ HNX ZP
      obtain ⟨Sk, hSk⟩ : ∃ x, x = snc l[k] := ⟨_, rfl⟩
      rw [← hSk] at PC PL PO ZP
      obtain ⟨ik, hik⟩ : ∃ x, x = isName nk := ⟨_, rfl⟩
      rw [← hik] at HNAME HEQ
      have HBD := Lib.hid (show ik = false → stepOk l k = false from fun e => by rw [HST.out, ← hnk, ← hik, e]; rfl)
      have X2 := Lib.hid (Blk.new wr 60 zsn _ rfl)
      have W2 := Lib.hid (W1.out.alloc W1.out.size (.cells zsn.toArray 60))
      have Z34 := Lib.hid (show zsn.length = 34 by decide)
      have hz : ∀ w, (zeroValue 60).run Try.prog w = .ok (.agg zsn.toArray) w := zeroSn
      obtain ⟨Zs, hZs⟩ : ∃ x, x = zsn := ⟨_, rfl⟩
      rw [← hZs] at X2 W2 Z34 hz
      clear hpc hAH hnk hSk hik HST hZs
      cases ik with
      | false =>
        go_wp2_with ((fail_if_success (with_reducible show bodyPost _ _ _ _ _ _)); first
          | (refine wpList_load_mid rfl 60 (.tmp 10) rfl pb (po + k * 34) rfl Sk _ PC.out Try.underlying60 rfl (by rw [PL.out]; exact infoSnC) ?_)
          | (refine wpList_store_blk rfl 60 (.tmp 5) (.tmp 11) rfl wr.heap.size 0 Sk rfl rfl 60 Zs X2.out (by rw [PL.out, Z34.out]; exact Nat.le_refl _) (by rw [PL.out]; exact infoSnC) PO.out ?_; intro w5 b5 g5; rw [splice_all _ _ (by rw [PL.out, Z34.out])] at b5; have Y5 := Lib.hid b5; have W5 := Lib.hid (W2.out.grown g5 W2.out.size (fun g hg => by have := Option.some.inj hg; have := W1.out.size; omega)); have d0 := ZP.out wr.heap.size w5 Sk b5 rfl; clear b5 g5)
          | (go_at_call 20; (with_reducible refine (HNAME.out _).mono ?_); rintro e w6 ⟨rfl, b6⟩; have W6 := Lib.hid (W5.out.on b6); have d1 := ZP.out wr.heap.size w6 Sk (Y5.out.below b6 Y5.out.lt) rfl; clear b6 d0))
        have hR := HRF.out k hkp (HBD.out (by first | rfl | trivial))
        clear HRF HRT
        subst hR
        go_wp2_with fail
        go_ret
        exact ⟨rfl, W6.out⟩
      | true =>
        have HEV := HEQ.out (by first | rfl | trivial)
        cases hb : nlt AH nk with
        | false =>
          have hR := HRF.out k hkp (by rw [HEV, hb])
          have HLQ := Lib.hid (fun W => show (binOp .leq 9 (.string nk) (.string AH)).run Try.prog W = .ok (.bool true) W by rw [run_str_leq, hb]; rfl)
          clear HRF HRT HEV hb HEQ
          subst hR
          go_wp2_with ((fail_if_success (with_reducible show bodyPost _ _ _ _ _ _)); first
            | (refine wpList_load_mid rfl 60 (.tmp 10) rfl pb (po + k * 34) rfl Sk _ PC.out Try.underlying60 rfl (by rw [PL.out]; exact infoSnC) ?_)
            | (refine wpList_store_blk rfl 60 (.tmp 5) (.tmp 11) rfl wr.heap.size 0 Sk rfl rfl 60 Zs X2.out (by rw [PL.out, Z34.out]; exact Nat.le_refl _) (by rw [PL.out]; exact infoSnC) PO.out ?_; intro w5 b5 g5; rw [splice_all _ _ (by rw [PL.out, Z34.out])] at b5; have Y5 := Lib.hid b5; have W5 := Lib.hid (W2.out.grown g5 W2.out.size (fun g hg => by have := Option.some.inj hg; have := W1.out.size; omega)); have d0 := ZP.out wr.heap.size w5 Sk b5 rfl; clear b5 g5)
            | (go_at_call 20; (with_reducible refine (HNAME.out _).mono ?_); rintro e w6 ⟨rfl, b6⟩; have W6 := Lib.hid (W5.out.on b6); have d1 := ZP.out wr.heap.size w6 Sk (Y5.out.below b6 Y5.out.lt) rfl; clear b6 d0)
            | ((with_reducible show wpList _ _ _ (Oper.mk _ (.binOp _ _ (.tmp 18) (.tmp 19) _) _ _ _ _ :: _) _ _); refine wpList_binW (.tmp 18) (.tmp 19) .leq 9 9 rfl (.string nk) (.string AH) _ rfl rfl (eqG_str .leq (.tmp 18) (.tmp 19) nk AH _) (HLQ.out _) rfl ?_))
          go_ret
          exact ⟨rfl, W6.out⟩
        | true =>
          have HLQ := Lib.hid (fun W => show (binOp .leq 9 (.string nk) (.string AH)).run Try.prog W = .ok (.bool false) W by rw [run_str_leq, hb]; rfl)
          have HGD := Lib.hid (show stepOk l k = true by rw [HEV, hb])
          clear HEV hb HEQ
          go_wp2_with ((fail_if_success (with_reducible show bodyPost _ _ _ _ _ _)); first
            | (refine wpList_load_mid rfl 60 (.tmp 10) rfl pb (po + k * 34) rfl Sk _ PC.out Try.underlying60 rfl (by rw [PL.out]; exact infoSnC) ?_)
            | (refine wpList_store_blk rfl 60 (.tmp 5) (.tmp 11) rfl wr.heap.size 0 Sk rfl rfl 60 Zs X2.out (by rw [PL.out, Z34.out]; exact Nat.le_refl _) (by rw [PL.out]; exact infoSnC) PO.out ?_; intro w5 b5 g5; rw [splice_all _ _ (by rw [PL.out, Z34.out])] at b5; have Y5 := Lib.hid b5; have W5 := Lib.hid (W2.out.grown g5 W2.out.size (fun g hg => by have := Option.some.inj hg; have := W1.out.size; omega)); have d0 := ZP.out wr.heap.size w5 Sk b5 rfl; clear b5 g5)
            | (go_at_call 20; (with_reducible refine (HNAME.out _).mono ?_); rintro e w6 ⟨rfl, b6⟩; have W6 := Lib.hid (W5.out.on b6); have d1 := ZP.out wr.heap.size w6 Sk (Y5.out.below b6 Y5.out.lt) rfl; clear b6 d0)
            | ((with_reducible show wpList _ _ _ (Oper.mk _ (.binOp _ _ (.tmp 18) (.tmp 19) _) _ _ _ _ :: _) _ _); refine wpList_binW (.tmp 18) (.tmp 19) .leq 9 9 rfl (.string nk) (.string AH) _ rfl rfl (eqG_str .leq (.tmp 18) (.tmp 19) nk AH _) (HLQ.out _) rfl ?_))
          refine ⟨⟨k + 1, by omega, by go_num, by rw [HNX.out], W6.out, fun j hj => ?_⟩, by simp [intOf]; omega⟩
          by_cases e : j = k
          · subst e; exact HGD.out
          · exact HZ.out j (by omega)
    · obtain rfl : k = n := by omega
      have hkk : ¬ (k : Int) < (k : Int) := by omega
      have hR : R = true := HRT.out.2 (fun j hj => HZ.out j (by rw [HN.out]; exact hj))
      obtain ⟨AH, hAH⟩ : ∃ x, x = (if k = 0 then ⟨#[]⟩ else nm l (k - 1)) := ⟨_, rfl⟩
      rw [← hAH]
      clear HRF HRT hAH
      subst hR
      go_wp2_with fail
      go_ret
      exact ⟨rfl, W1.out⟩
theorem check_eq (c : Ct) : CT.check c = if 64 < c.snaps.length then 45 else if rises c.snaps = true then (if tops c = true then 0 else 2) else 44 := rfl
set_option maxRecDepth 100000 in
set_option maxHeartbeats 1000000 in
theorem pccheck_any (c : Ct) (hc : CT.Ok c) (v : Value) (w : World) (hv : RdT 34 w v c.snaps.length (sncs c.snaps)) (hn1 : c.snaps.length ≤ 140737488355328) :
    Calls Try.prog 15 #[.agg (ctc c v).toArray] w fun e w' => e = .returned (.int .i64 (CT.check c)) ∧ Below w.heap.size w w' := by
  obtain ⟨ra, rq, rfl, -⟩ := hv.shape
  obtain ⟨L, hL⟩ : ∃ L, L = ctc c (.slice ra c.snaps.length rq) := ⟨_, rfl⟩
  have b1 := Blk.new w 29 L _ rfl
  have W1 := Lib.hid ((Below.refl w.heap.size w).alloc (Nat.le_refl _) (.cells L.toArray 29))
  have X1 := Lib.hid b1
  have C1 := Lib.hid (show L[33]? = some (.slice ra c.snaps.length rq) by rw [hL]; exact ctc_snaps hc.top _)
  have c1 := b1.cell 33 _ C1.out
  have HV := Lib.hid (hv.below W1.out)
  have L34 := Lib.hid (show L.length = 34 by rw [hL]; exact ctc_len hc.top _)
  have HNR := Lib.hid (fun W (h : RdT 34 W (.slice ra c.snaps.length rq) c.snaps.length (sncs c.snaps)) => prises_any c.snaps hc.snaps _ W h hn1)
  have HTP := Lib.hid (fun W (h : RdT 34 W (.slice ra c.snaps.length rq) c.snaps.length (sncs c.snaps)) => ptops_any c hc _ W h hn1)
  have HCK := check_eq c
  obtain ⟨R, hR⟩ : ∃ R, R = CT.check c := ⟨_, rfl⟩
  rw [← hR] at HCK
  rw [← hL, ← hR]
  rw [← hL] at HTP
  obtain ⟨RS, hRS⟩ : ∃ R, R = rises c.snaps := ⟨_, rfl⟩
  obtain ⟨TP, hTP⟩ : ∃ R, R = tops c := ⟨_, rfl⟩
  obtain ⟨CS, hCS⟩ : ∃ M, M = sncs c.snaps := ⟨_, rfl⟩
  rw [← hRS, ← hCS] at HNR
  rw [← hTP, ← hCS] at HTP
  rw [← hRS, ← hTP] at HCK
  rw [← hCS] at HV
  obtain ⟨n, hn⟩ : ∃ n, n = c.snaps.length := ⟨_, rfl⟩
  rw [← hn] at HV c1 C1 HNR HTP HCK
  clear hL hR hRS hTP hCS hn b1 hv hc hn1
  by_cases h64 : 64 < n
  · rw [if_pos h64] at HCK
    subst HCK
    have h64' : (64 : Int) < (n : Int) := by omega
    go_enter Try.func15, Try.ntmps15
    go_wp2_with fail
    go_ret
    exact ⟨rfl, W1.out⟩
  · rw [if_neg h64] at HCK
    have h64' : ¬ (64 : Int) < (n : Int) := by omega
    cases RS with
    | false =>
      rw [if_neg (by decide)] at HCK
      subst HCK
      go_enter Try.func15, Try.ntmps15
      go_wp2_with (go_at_call 38; (with_reducible refine (HNR.out _ HV.out).mono ?_); rintro e w2 ⟨rfl, b2⟩; have W2 := Lib.hid (W1.out.on b2); clear b2)
      go_ret
      exact ⟨rfl, W2.out⟩
    | true =>
      rw [if_pos rfl] at HCK
      cases TP with
      | false =>
        rw [if_neg (by decide)] at HCK
        subst HCK
        go_enter Try.func15, Try.ntmps15
        go_wp2_with ((fail_if_success (with_reducible show bodyPost _ _ _ _ _ _)); first
          | (go_at_call 38; (with_reducible refine (HNR.out _ HV.out).mono ?_); rintro e w2 ⟨rfl, b2⟩; have W2 := Lib.hid (W1.out.on b2); have X2 := Lib.hid (X1.out.below b2 X1.out.lt); have V2 := Lib.hid (HV.out.below b2); clear b2 c1)
          | (refine wpList_load_mid rfl 29 (.tmp 1) rfl w.heap.size 0 rfl L _ X2.out.range Try.underlying29 rfl (by rw [L34.out]; exact infoCtC) ?_)
          | (go_at_call 39; (with_reducible refine (HTP.out _ V2.out).mono ?_); rintro e w3 ⟨rfl, b3⟩; have W3 := Lib.hid (W2.out.on b3); clear b3))
        go_ret
        exact ⟨rfl, W3.out⟩
      | true =>
        rw [if_pos rfl] at HCK
        subst HCK
        go_enter Try.func15, Try.ntmps15
        go_wp2_with ((fail_if_success (with_reducible show bodyPost _ _ _ _ _ _)); first
          | (go_at_call 38; (with_reducible refine (HNR.out _ HV.out).mono ?_); rintro e w2 ⟨rfl, b2⟩; have W2 := Lib.hid (W1.out.on b2); have X2 := Lib.hid (X1.out.below b2 X1.out.lt); have V2 := Lib.hid (HV.out.below b2); clear b2 c1)
          | (refine wpList_load_mid rfl 29 (.tmp 1) rfl w.heap.size 0 rfl L _ X2.out.range Try.underlying29 rfl (by rw [L34.out]; exact infoCtC) ?_)
          | (go_at_call 39; (with_reducible refine (HTP.out _ V2.out).mono ?_); rintro e w3 ⟨rfl, b3⟩; have W3 := Lib.hid (W2.out.on b3); clear b3))
        go_ret
        exact ⟨rfl, W3.out⟩
end Go.Proofs.Ytkagapgganoomaa

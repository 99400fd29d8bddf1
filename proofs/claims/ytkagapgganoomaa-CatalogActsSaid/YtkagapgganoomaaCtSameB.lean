/- Are two catalogs one: contracts of the program and of the document's answer. Own work. -/
import Derived.Test.YtkagapgganoomaaCtSame
import Derived.BigQuiet
namespace Go.Proofs.Ytkagapgganoomaa
open Go.ChangeShapes Go.WideShapes Go.ChangeAt Go.RowKit
open RT CT
set_option maxRecDepth 100000 in
set_option maxHeartbeats 1000000 in
theorem psame_any (c d : Ct) (hc : CT.Ok c) (hd : CT.Ok d) (v u : Value) (w : World) (hv : RdT 34 w v c.snaps.length (sncs c.snaps)) (hu : RdT 34 w u d.snaps.length (sncs d.snaps)) (hn1 : c.snaps.length ≤ 140737488355328) :
    Calls Try.prog 22 #[.agg (ctc c v).toArray, .agg (ctc d u).toArray] w fun e w' => e = .returned (.bool (ctEq c d)) ∧ Below w.heap.size w w' := by
  obtain ⟨ra, rq, rfl, -⟩ := hv.shape
  obtain ⟨sa, sq, rfl, -⟩ := hu.shape
  obtain ⟨L, hL⟩ : ∃ L, L = ctc c (.slice ra c.snaps.length rq) := ⟨_, rfl⟩
  obtain ⟨M, hM⟩ : ∃ L, L = ctc d (.slice sa d.snaps.length sq) := ⟨_, rfl⟩
  have b1 := Blk.new w 29 L _ rfl
  have W2 := Lib.hid (((Below.refl w.heap.size w).alloc (Nat.le_refl _) (.cells L.toArray 29)).alloc (by simp) (.cells M.toArray 29))
  have X2 := Lib.hid (b1.alloc (.cells M.toArray 29))
  have Y2 := Lib.hid (Blk.new (w.alloc (.cells L.toArray 29)) 29 M (w.heap.size + 1) (by simp))
  have RX := Lib.hid (ct_topE X2.out hL)
  have RY := Lib.hid (ct_topE Y2.out hM)
  have c1 := X2.out.cell 33 _ (by rw [hL]; exact ctc_snaps hc.top _)
  have c2 := Y2.out.cell 33 _ (by rw [hM]; exact ctc_snaps hd.top _)
  have HS := Lib.hid (snsEqual_any c.snaps d.snaps hc.snaps hd.snaps _ _ _ (hv.below W2.out) (hu.below W2.out) hn1)
  have E6 := Lib.hid (fun W => run_eql_ref hc.top hd.top W)
  have P33 := Lib.hid (pc_len hc.top)
  have Q33 := Lib.hid (pc_len hd.top)
  obtain ⟨B, hB⟩ : ∃ B, B = ctEq c d := ⟨_, rfl⟩
  obtain ⟨S, hS⟩ : ∃ S, S = snsEq c.snaps d.snaps := ⟨_, rfl⟩
  obtain ⟨T, hT⟩ : ∃ T, T = pgEq c.top d.top := ⟨_, rfl⟩
  have hBB : B = (T && S) := by rw [hB, hS, hT]; rfl
  rw [← hL, ← hM, ← hB]
  rw [← hS] at HS
  rw [← hT] at E6
  obtain ⟨Pc, hPc⟩ : ∃ P, P = pc c.top := ⟨_, rfl⟩
  obtain ⟨Qc, hQc⟩ : ∃ P, P = pc d.top := ⟨_, rfl⟩
  rw [← hPc] at RX P33 E6
  rw [← hQc] at RY Q33 E6
  obtain ⟨n, hn⟩ : ∃ n, n = c.snaps.length := ⟨_, rfl⟩
  obtain ⟨m, hm⟩ : ∃ n, n = d.snaps.length := ⟨_, rfl⟩
  rw [← hn] at HS c1
  rw [← hm] at HS c2
  clear hL hM hB hS hT hPc hQc hn hm hv hu hc hd b1 hn1
  cases T with
  | false =>
    (have hBf : B = false := by rw [hBB]; rfl); clear hBB; subst hBf
    go_enter Try.func22, Try.ntmps22
    go_wp2_with ((fail_if_success (with_reducible show bodyPost _ _ _ _ _ _)); first
      | ((with_reducible show wpList _ _ _ (Oper.mk _ (.load _ (.tmp 5)) _ _ _ _ :: _) _ _); refine wpList_loadW 26 (.tmp 5) rfl w.heap.size 0 rfl Pc _ RX.out Try.underlying26 rfl (by rw [P33.out]; exact infoRfC) rfl ?_)
      | ((with_reducible show wpList _ _ _ (Oper.mk _ (.load _ (.tmp 7)) _ _ _ _ :: _) _ _); refine wpList_loadW 26 (.tmp 7) rfl (w.heap.size + 1) 0 rfl Qc _ RY.out Try.underlying26 rfl (by rw [Q33.out]; exact infoRfC) rfl ?_)
      | ((with_reducible show wpList _ _ _ (Oper.mk _ (.binOp _ _ (.tmp 6) (.tmp 8) _) _ _ _ _ :: _) _ _); refine wpList_binW (.tmp 6) (.tmp 8) .eql 26 26 rfl (.agg Pc.toArray) (.agg Qc.toArray) _ rfl rfl (run_eqGuard_agg (P := Try.prog) (w := _) .eql 26 _ _ _ _ eqTypeRf) (E6.out _) rfl ?_))
    go_ret
    exact ⟨rfl, W2.out⟩
  | true =>
    have hBS : B = S := by rw [hBB]; rfl
    clear hBB
    subst hBS
    go_enter Try.func22, Try.ntmps22
    go_wp2_with ((fail_if_success (with_reducible show bodyPost _ _ _ _ _ _)); first
      | ((with_reducible show wpList _ _ _ (Oper.mk _ (.load _ (.tmp 5)) _ _ _ _ :: _) _ _); refine wpList_loadW 26 (.tmp 5) rfl w.heap.size 0 rfl Pc _ RX.out Try.underlying26 rfl (by rw [P33.out]; exact infoRfC) rfl ?_)
      | ((with_reducible show wpList _ _ _ (Oper.mk _ (.load _ (.tmp 7)) _ _ _ _ :: _) _ _); refine wpList_loadW 26 (.tmp 7) rfl (w.heap.size + 1) 0 rfl Qc _ RY.out Try.underlying26 rfl (by rw [Q33.out]; exact infoRfC) rfl ?_)
      | ((with_reducible show wpList _ _ _ (Oper.mk _ (.binOp _ _ (.tmp 6) (.tmp 8) _) _ _ _ _ :: _) _ _); refine wpList_binW (.tmp 6) (.tmp 8) .eql 26 26 rfl (.agg Pc.toArray) (.agg Qc.toArray) _ rfl rfl (run_eqGuard_agg (P := Try.prog) (w := _) .eql 26 _ _ _ _ eqTypeRf) (E6.out _) rfl ?_)
      | (go_at_call 47; (with_reducible refine HS.out.mono ?_); rintro e w3 ⟨rfl, b3⟩; have W3 := Lib.hid (W2.out.on b3); clear b3))
    go_ret
    exact ⟨rfl, W3.out⟩
set_option maxRecDepth 100000 in
set_option maxHeartbeats 1000000 in
theorem rsame_any (c d : Ct) (hc : CT.Ok c) (hd : CT.Ok d) (v u : Value) (w : World) (hv : RdT 34 w v c.snaps.length (sncs c.snaps)) (hu : RdT 34 w u d.snaps.length (sncs d.snaps)) (hn1 : c.snaps.length ≤ 140737488355328) :
    Calls Try.prog 17 #[.agg (ctc c v).toArray, .agg (ctc d u).toArray] w fun e w' => e = .returned (.bool (ctEq c d)) ∧ Below w.heap.size w w' := by
  obtain ⟨ra, rq, rfl, -⟩ := hv.shape
  obtain ⟨sa, sq, rfl, -⟩ := hu.shape
  obtain ⟨L, hL⟩ : ∃ L, L = ctc c (.slice ra c.snaps.length rq) := ⟨_, rfl⟩
  obtain ⟨M, hM⟩ : ∃ L, L = ctc d (.slice sa d.snaps.length sq) := ⟨_, rfl⟩
  have b1 := Blk.new w 29 L _ rfl
  have W2 := Lib.hid (((Below.refl w.heap.size w).alloc (Nat.le_refl _) (.cells L.toArray 29)).alloc (by simp) (.cells M.toArray 29))
  have X2 := Lib.hid (b1.alloc (.cells M.toArray 29))
  have Y2 := Lib.hid (Blk.new (w.alloc (.cells L.toArray 29)) 29 M (w.heap.size + 1) (by simp))
  have RX := Lib.hid (ct_topE X2.out hL)
  have RY := Lib.hid (ct_topE Y2.out hM)
  have C1 := Lib.hid (show L[33]? = some (.slice ra c.snaps.length rq) by rw [hL]; exact ctc_snaps hc.top _)
  have c1 := X2.out.cell 33 _ C1.out
  have C2 := Lib.hid (show M[33]? = some (.slice sa d.snaps.length sq) by rw [hM]; exact ctc_snaps hd.top _)
  have c2 := Y2.out.cell 33 _ C2.out
  have HV := Lib.hid (hv.below W2.out)
  have HU := Lib.hid (hu.below W2.out)
  have HP := Lib.hid hc.snaps
  have HQ := Lib.hid hd.snaps
  have E6 := Lib.hid (fun W => run_neq_ref hc.top hd.top W)
  have P33 := Lib.hid (pc_len hc.top)
  have Q33 := Lib.hid (pc_len hd.top)
  obtain ⟨B, hB⟩ : ∃ B, B = ctEq c d := ⟨_, rfl⟩
  obtain ⟨S, hS⟩ : ∃ S, S = snsEq c.snaps d.snaps := ⟨_, rfl⟩
  obtain ⟨T, hT⟩ : ∃ T, T = pgEq c.top d.top := ⟨_, rfl⟩
  have hBB : B = (T && S) := by rw [hB, hS, hT]; rfl
  rw [← hL, ← hM, ← hB]
  have HSI := Lib.hid (snsEq_iff (l := c.snaps) (m := d.snaps))
  rw [← hS] at HSI
  rw [← hT] at E6
  obtain ⟨Pc, hPc⟩ : ∃ P, P = pc c.top := ⟨_, rfl⟩
  obtain ⟨Qc, hQc⟩ : ∃ P, P = pc d.top := ⟨_, rfl⟩
  rw [← hPc] at RX P33 E6
  rw [← hQc] at RY Q33 E6
  obtain ⟨n, hn⟩ : ∃ n, n = c.snaps.length := ⟨_, rfl⟩
  obtain ⟨m, hm⟩ : ∃ n, n = d.snaps.length := ⟨_, rfl⟩
  rw [← hn] at HV c1 C1 hn1
  rw [← hm] at HU c2 C2
  obtain ⟨ps, hps⟩ : ∃ x, x = c.snaps := ⟨_, rfl⟩
  obtain ⟨qs, hqs⟩ : ∃ x, x = d.snaps := ⟨_, rfl⟩
  rw [← hps] at HV HP HSI hn
  rw [← hqs] at HU HQ HSI hm
  have HN := Lib.hid hn
  have HM := Lib.hid hm
  obtain ⟨w2, hw2⟩ : ∃ x, x = (w.alloc (.cells L.toArray 29)).alloc (.cells M.toArray 29) := ⟨_, rfl⟩
  have E2 := Lib.hid hw2
  clear hL hM hB hS hT hPc hQc hn hm hv hu hc hd b1 hps hqs hw2
  cases T with
  | false =>
    (have hBf : B = false := by rw [hBB]; rfl); clear hBB; subst hBf
    go_enter Try.func17, Try.ntmps17
    go_wp2_with ((fail_if_success (with_reducible show bodyPost _ _ _ _ _ _)); first
      | ((with_reducible show wpList _ _ _ (Oper.mk _ (.load _ (.tmp 6)) _ _ _ _ :: _) _ _); refine wpList_loadW 26 (.tmp 6) rfl w.heap.size 0 rfl Pc _ RX.out Try.underlying26 rfl (by rw [P33.out]; exact infoRfC) rfl ?_)
      | ((with_reducible show wpList _ _ _ (Oper.mk _ (.load _ (.tmp 8)) _ _ _ _ :: _) _ _); refine wpList_loadW 26 (.tmp 8) rfl (w.heap.size + 1) 0 rfl Qc _ RY.out Try.underlying26 rfl (by rw [Q33.out]; exact infoRfC) rfl ?_)
      | ((with_reducible show wpList _ _ _ (Oper.mk _ (.binOp _ _ (.tmp 7) (.tmp 9) _) _ _ _ _ :: _) _ _); refine wpList_binW (.tmp 7) (.tmp 9) .neq 26 26 rfl (.agg Pc.toArray) (.agg Qc.toArray) _ rfl rfl (run_eqGuard_agg (P := Try.prog) (w := _) .neq 26 _ _ _ _ eqTypeRf) (E6.out _) rfl ?_))
    go_ret
    exact ⟨rfl, W2.out⟩
  | true =>
    have hBS : B = S := by rw [hBB]; rfl
    clear hBB
    subst hBS
    by_cases g5 : n = m
    · subst g5
      go_enter Try.func17, Try.ntmps17
      go_wp2_with ((fail_if_success (with_reducible show bodyPost _ _ _ _ _ _)); first
      | ((with_reducible show wpList _ _ _ (Oper.mk _ (.load _ (.tmp 6)) _ _ _ _ :: _) _ _); refine wpList_loadW 26 (.tmp 6) rfl w.heap.size 0 rfl Pc _ RX.out Try.underlying26 rfl (by rw [P33.out]; exact infoRfC) rfl ?_)
      | ((with_reducible show wpList _ _ _ (Oper.mk _ (.load _ (.tmp 8)) _ _ _ _ :: _) _ _); refine wpList_loadW 26 (.tmp 8) rfl (w.heap.size + 1) 0 rfl Qc _ RY.out Try.underlying26 rfl (by rw [Q33.out]; exact infoRfC) rfl ?_)
      | ((with_reducible show wpList _ _ _ (Oper.mk _ (.binOp _ _ (.tmp 7) (.tmp 9) _) _ _ _ _ :: _) _ _); refine wpList_binW (.tmp 7) (.tmp 9) .neq 26 26 rfl (.agg Pc.toArray) (.agg Qc.toArray) _ rfl rfl (run_eqGuard_agg (P := Try.prog) (w := _) .neq 26 _ _ _ _ eqTypeRf) (E6.out _) rfl ?_))
      rw [← E2.out]
      rw [← E2.out] at HV HU X2 Y2 W2
      clear c1 c2
      go_loopw [5] (fun i wr => ∃ k : Nat, k ≤ n ∧ i = .int .i64 (k : Int) ∧ Below w2.heap.size w2 wr ∧ ∀ j (h1 : j < ps.length) (h2 : j < qs.length), j < k → ps[j] = qs[j]) (fun i _ => n - (intOf i).toNat)
      case atStart => exact ⟨0, Nat.zero_le _, rfl, Below.refl _ _, fun j _ _ h => absurd h (Nat.not_lt_zero j)⟩
      case round =>
        obtain ⟨k, hk, rfl, hw, hz⟩ := hrel
        have HZ := Lib.hid hz
        have W3 := Lib.hid hw
        have c1 := (X2.out.below hw X2.out.lt).cell 33 _ C1.out
        have c2 := (Y2.out.below hw Y2.out.lt).cell 33 _ C2.out
        clear hz hw
        by_cases hlt : k < n
        · have hkp : k < ps.length := by rw [← HN.out]; exact hlt
          have hkq : k < qs.length := by rw [← HM.out]; exact hlt
          obtain ⟨pb, po, rfl, hpc, -, -⟩ := sn_range (HV.out.below W3.out) HP.out HN.out hkp
          obtain ⟨qb, qo, rfl, hqc, -, -⟩ := sn_range (HU.out.below W3.out) HQ.out HM.out hkq
          have PC := Lib.hid hpc
          have QC := Lib.hid hqc
          have EQ := fun W => run_neq_snap (HP.out _ (List.getElem_mem hkp)) (HQ.out _ (List.getElem_mem hkq)) W
          have PL := Lib.hid (snc_len (HP.out _ (List.getElem_mem hkp)))
          have QL := Lib.hid (snc_len (HQ.out _ (List.getElem_mem hkq)))
          have hklt : (k : Int) < (n : Int) := by omega
          have hk0 : (0 : Int) ≤ (k : Int) := by omega
          clear hpc hqc
          have H6 := Lib.hid (fun W => EQ W)
          clear EQ
          by_cases he : ps[k] = qs[k]
          · rw [snEq_iff.2 he] at H6
            have HE := Lib.hid he
            clear he
            go_wp2_with fail
            refine wp_region_quiet_lit (by kernel_rfl) (by kernel_rfl) ?_
            repeat (first
              | go_big_quiet_step (fail)
              | (refine wpQuiet_told _ rfl _ (fun n' => ex_load_part 60 (.tmp 30) rfl pb (po + k * 34) rfl (snc ps[k]) _ (range_dN PC.out n') Try.underlying60 rfl (by rw [PL.out]; exact infoSnC)) ?_; simp only [Act.put, List.setIfInBounds_toArray, List.set_cons_zero, List.set_cons_succ])
              | (refine wpQuiet_told _ rfl _ (fun n' => ex_load_part 60 (.tmp 35) rfl qb (qo + k * 34) rfl (snc qs[k]) _ (range_dN QC.out n') Try.underlying60 rfl (by rw [QL.out]; exact infoSnC)) ?_; simp only [Act.put, List.setIfInBounds_toArray, List.set_cons_zero, List.set_cons_succ])
              | (refine wpQuiet_told _ rfl _ (fun n' => ex_binOp (x := .tmp 31) (y := .tmp 36) (b := .neq) (t := 60) rfl rfl rfl (run_eqGuard_agg (P := Try.prog) (w := _) .neq 60 _ _ _ _ eqTypeSn) (H6.out _)) ?_; simp only [Act.put, List.setIfInBounds_toArray, List.set_cons_zero, List.set_cons_succ]))
            refine wpQuiet_nil ?_
            intro _ hw'
            obtain ⟨nq, hw''⟩ := hw'
            subst hw''
            go_wp2_with fail
            refine ⟨⟨k + 1, by omega, by go_num, (below_dN W3.out _), fun j h1 h2 hjk => ?_⟩, by simp [intOf]; omega⟩
            by_cases e : j = k
            · subst e; exact HE.out
            · exact HZ.out j h1 h2 (by omega)
          · rw [Bool.eq_false_iff.2 (fun h => he (snEq_iff.1 h))] at H6
            have hBf : B = false := Bool.eq_false_iff.2 (fun h => he (by have := HSI.out.1 h; subst this; rfl))
            clear he HSI
            subst hBf
            go_wp2_with fail
            refine wp_region_quiet_lit (by kernel_rfl) (by kernel_rfl) ?_
            repeat (first
              | go_big_quiet_step (fail)
              | (refine wpQuiet_told _ rfl _ (fun n' => ex_load_part 60 (.tmp 30) rfl pb (po + k * 34) rfl (snc ps[k]) _ (range_dN PC.out n') Try.underlying60 rfl (by rw [PL.out]; exact infoSnC)) ?_; simp only [Act.put, List.setIfInBounds_toArray, List.set_cons_zero, List.set_cons_succ])
              | (refine wpQuiet_told _ rfl _ (fun n' => ex_load_part 60 (.tmp 35) rfl qb (qo + k * 34) rfl (snc qs[k]) _ (range_dN QC.out n') Try.underlying60 rfl (by rw [QL.out]; exact infoSnC)) ?_; simp only [Act.put, List.setIfInBounds_toArray, List.set_cons_zero, List.set_cons_succ])
              | (refine wpQuiet_told _ rfl _ (fun n' => ex_binOp (x := .tmp 31) (y := .tmp 36) (b := .neq) (t := 60) rfl rfl rfl (run_eqGuard_agg (P := Try.prog) (w := _) .neq 60 _ _ _ _ eqTypeSn) (H6.out _)) ?_; simp only [Act.put, List.setIfInBounds_toArray, List.set_cons_zero, List.set_cons_succ]))
            refine wpQuiet_nil ?_
            intro _ hw'
            obtain ⟨nq, hw''⟩ := hw'
            subst hw''
            go_wp2_with fail
            go_ret
            exact ⟨rfl, W2.out.on (below_dN W3.out _)⟩
        · obtain rfl : k = n := by omega
          have hBt : B = true := HSI.out.2 (List.ext_getElem (by rw [← HN.out, ← HM.out]) fun j h1 h2 => HZ.out j h1 h2 (by rw [HN.out]; exact h1))
          clear HSI
          subst hBt
          have hkk : ¬ (k : Int) < (k : Int) := by omega
          go_wp2_with fail
          go_ret
          exact ⟨rfl, W2.out.on W3.out⟩
    · have q1 : ((n : Int) == (m : Int)) = false := by rw [beq_eq_false_iff_ne]; omega
      have q2 : ((n : Int) != (m : Int)) = true := by rw [bne, q1]; rfl
      have q3 : ¬ (n : Int) = (m : Int) := by omega
      have hBf : B = false := Bool.eq_false_iff.2 (fun h => g5 (by rw [HN.out, HM.out, HSI.out.1 h]))
      clear g5 HSI
      subst hBf
      go_enter Try.func17, Try.ntmps17
      go_wp2_with ((fail_if_success (with_reducible show bodyPost _ _ _ _ _ _)); first
      | ((with_reducible show wpList _ _ _ (Oper.mk _ (.load _ (.tmp 6)) _ _ _ _ :: _) _ _); refine wpList_loadW 26 (.tmp 6) rfl w.heap.size 0 rfl Pc _ RX.out Try.underlying26 rfl (by rw [P33.out]; exact infoRfC) rfl ?_)
      | ((with_reducible show wpList _ _ _ (Oper.mk _ (.load _ (.tmp 8)) _ _ _ _ :: _) _ _); refine wpList_loadW 26 (.tmp 8) rfl (w.heap.size + 1) 0 rfl Qc _ RY.out Try.underlying26 rfl (by rw [Q33.out]; exact infoRfC) rfl ?_)
      | ((with_reducible show wpList _ _ _ (Oper.mk _ (.binOp _ _ (.tmp 7) (.tmp 9) _) _ _ _ _ :: _) _ _); refine wpList_binW (.tmp 7) (.tmp 9) .neq 26 26 rfl (.agg Pc.toArray) (.agg Qc.toArray) _ rfl rfl (run_eqGuard_agg (P := Try.prog) (w := _) .neq 26 _ _ _ _ eqTypeRf) (E6.out _) rfl ?_))
      go_ret
      exact ⟨rfl, W2.out⟩
end Go.Proofs.Ytkagapgganoomaa

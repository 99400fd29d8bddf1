/- '==' on rows of snapshots and on catalogs: contracts of the program and of the document's answer. Own work. -/
import Derived.Test.YtkagapgganoomaaCtNm
import Derived.BigQuiet
namespace Go.Proofs.Ytkagapgganoomaa
open Go.ChangeShapes Go.WideShapes Go.ChangeAt Go.RowKit
open RT CT
def snsEq : List Sn → List Sn → Bool
  | [], [] => true
  | a :: r, b :: s => snEq a b && snsEq r s
  | _, _ => false
theorem snsEq_iff : ∀ {l m : List Sn}, snsEq l m = true ↔ l = m
  | [], [] => by simp [snsEq]
  | [], _ :: _ => by simp [snsEq]
  | _ :: _, [] => by simp [snsEq]
  | a :: r, b :: s => by
    show (snEq a b && snsEq r s) = true ↔ _
    rw [Bool.and_eq_true, snEq_iff, snsEq_iff, List.cons.injEq]
def ctEq (c d : Ct) : Bool := pgEq c.top d.top && snsEq c.snaps d.snaps
theorem ctEq_iff {c d : Ct} : ctEq c d = true ↔ c = d := by
  unfold ctEq
  rw [Bool.and_eq_true, pgEq_iff, snsEq_iff]
  constructor
  · rintro ⟨h1, h2⟩; cases c; cases d; simp only at h1 h2; rw [h1, h2]
  · rintro rfl; exact ⟨rfl, rfl⟩
set_option maxRecDepth 100000 in
set_option maxHeartbeats 1000000 in
theorem snsEqual_raw (ps qs : List Sn) (hp : ∀ p ∈ ps, Pok p.top) (hq : ∀ p ∈ qs, Pok p.top) (v u : Value) (w : World) (hv : RdT 34 w v ps.length (sncs ps)) (hu : RdT 34 w u qs.length (sncs qs)) (hn1 : ps.length ≤ 140737488355328) :
    Calls Try.prog 47 #[v, u] w fun e w' => ∃ b, e = .returned b ∧ (b = .bool true ∧ ps = qs ∨ b = .bool false ∧ ps ≠ qs) ∧ Below w.heap.size w w' := by
  obtain ⟨ra, rq, rfl, hrq⟩ := hv.shape
  obtain ⟨sa, sq, rfl, hsq⟩ := hu.shape
  have HV := Lib.hid hv
  have HU := Lib.hid hu
  have HPR := Lib.hid hp
  have HPS := Lib.hid hq
  obtain ⟨n, hn⟩ : ∃ n, n = ps.length := ⟨_, rfl⟩
  obtain ⟨m, hm⟩ : ∃ n, n = qs.length := ⟨_, rfl⟩
  rw [← hn] at hn1
  rw [← hn, ← hm]
  have HN := Lib.hid hn
  have HM := Lib.hid hm
  clear hv hu hp hq hrq hsq hn hm
  by_cases g5 : n = m
  · subst g5
    go_enter Try.func47, Try.ntmps47
    go_wp2_with fail
    go_loopw [13] (fun i wr => ∃ k : Nat, k ≤ n ∧ i = .int .i64 (k : Int) ∧ Below w.heap.size w wr ∧ ∀ j (h1 : j < ps.length) (h2 : j < qs.length), j < k → ps[j] = qs[j]) (fun i _ => n - (intOf i).toNat)
    case atStart => exact ⟨0, Nat.zero_le _, rfl, Below.refl _ _, fun j _ _ h => absurd h (Nat.not_lt_zero j)⟩
    case round =>
      obtain ⟨k, hk, rfl, hw, hz⟩ := hrel
      have HZ := Lib.hid hz
      have W1 := Lib.hid hw
      clear hz hw
      by_cases hlt : k < n
      · have hkp : k < ps.length := by rw [← HN.out]; exact hlt
        have hkq : k < qs.length := by rw [← HM.out]; exact hlt
        obtain ⟨pb, po, rfl, hpc, -, -⟩ := sn_range (HV.out.below W1.out) HPR.out rfl hkp
        obtain ⟨qb, qo, rfl, hqc, -, -⟩ := sn_range (HU.out.below W1.out) HPS.out rfl hkq
        have PC := Lib.hid hpc
        have QC := Lib.hid hqc
        have EQ := fun W => run_neq_snap (HPR.out _ (List.getElem_mem hkp)) (HPS.out _ (List.getElem_mem hkq)) W
        have PL := Lib.hid (snc_len (HPR.out _ (List.getElem_mem hkp)))
        have QL := Lib.hid (snc_len (HPS.out _ (List.getElem_mem hkq)))
        have hklt : (k : Int) < (n : Int) := by omega
        have hk0 : (0 : Int) ≤ (k : Int) := by omega
        clear hpc hqc
        have H6 := Lib.hid (fun W => EQ W)
        clear EQ
        by_cases he : ps[k] = qs[k]
        · rw [snEq_iff.2 he] at H6
          have HQ := Lib.hid he
          clear he
          go_wp2_with fail
          refine wp_region_quiet_lit (by kernel_rfl) (by kernel_rfl) ?_
          repeat (first
            | go_big_quiet_step (fail)
            | (refine wpQuiet_told _ rfl _ (fun n' => ex_load_part 60 (.tmp 18) rfl pb (po + k * 34) rfl (snc ps[k]) _ (range_dN PC.out n') Try.underlying60 rfl (by rw [PL.out]; exact infoSnC)) ?_; simp only [Act.put, List.setIfInBounds_toArray, List.set_cons_zero, List.set_cons_succ])
            | (refine wpQuiet_told _ rfl _ (fun n' => ex_load_part 60 (.tmp 22) rfl qb (qo + k * 34) rfl (snc qs[k]) _ (range_dN QC.out n') Try.underlying60 rfl (by rw [QL.out]; exact infoSnC)) ?_; simp only [Act.put, List.setIfInBounds_toArray, List.set_cons_zero, List.set_cons_succ])
            | (refine wpQuiet_told _ rfl _ (fun n' => ex_binOp (x := .tmp 19) (y := .tmp 23) (b := .neq) (t := 60) rfl rfl rfl (run_eqGuard_agg (P := Try.prog) (w := _) .neq 60 _ _ _ _ eqTypeSn) (H6.out _)) ?_; simp only [Act.put, List.setIfInBounds_toArray, List.set_cons_zero, List.set_cons_succ]))
          refine wpQuiet_nil ?_
          intro _ hw'
          obtain ⟨nq, hw''⟩ := hw'
          subst hw''
          go_wp2_with fail
          refine ⟨⟨k + 1, by omega, by go_num, (below_dN W1.out _), fun j h1 h2 hjk => ?_⟩, by simp [intOf]; omega⟩
          by_cases e : j = k
          · subst e; exact HQ.out
          · exact HZ.out j h1 h2 (by omega)
        · rw [Bool.eq_false_iff.2 (fun h => he (snEq_iff.1 h))] at H6
          have HQ := Lib.hid (fun e : ps = qs => he (by subst e; rfl))
          clear he
          go_wp2_with fail
          refine wp_region_quiet_lit (by kernel_rfl) (by kernel_rfl) ?_
          repeat (first
            | go_big_quiet_step (fail)
            | (refine wpQuiet_told _ rfl _ (fun n' => ex_load_part 60 (.tmp 18) rfl pb (po + k * 34) rfl (snc ps[k]) _ (range_dN PC.out n') Try.underlying60 rfl (by rw [PL.out]; exact infoSnC)) ?_; simp only [Act.put, List.setIfInBounds_toArray, List.set_cons_zero, List.set_cons_succ])
            | (refine wpQuiet_told _ rfl _ (fun n' => ex_load_part 60 (.tmp 22) rfl qb (qo + k * 34) rfl (snc qs[k]) _ (range_dN QC.out n') Try.underlying60 rfl (by rw [QL.out]; exact infoSnC)) ?_; simp only [Act.put, List.setIfInBounds_toArray, List.set_cons_zero, List.set_cons_succ])
            | (refine wpQuiet_told _ rfl _ (fun n' => ex_binOp (x := .tmp 19) (y := .tmp 23) (b := .neq) (t := 60) rfl rfl rfl (run_eqGuard_agg (P := Try.prog) (w := _) .neq 60 _ _ _ _ eqTypeSn) (H6.out _)) ?_; simp only [Act.put, List.setIfInBounds_toArray, List.set_cons_zero, List.set_cons_succ]))
          refine wpQuiet_nil ?_
          intro _ hw'
          obtain ⟨nq, hw''⟩ := hw'
          subst hw''
          go_wp2_with fail
          go_ret
          exact ⟨.bool false, rfl, .inr ⟨rfl, HQ.out⟩, (below_dN W1.out _)⟩
      · obtain rfl : k = n := by omega
        have HA := Lib.hid (show ps = qs from List.ext_getElem (by rw [← HN.out, ← HM.out]) fun j h1 h2 => HZ.out j h1 h2 (by rw [HN.out]; exact h1))
        have hkk : ¬ (k : Int) < (k : Int) := by omega
        go_wp2_with fail
        go_ret
        exact ⟨.bool true, rfl, .inl ⟨rfl, HA.out⟩, W1.out⟩
  · have q1 : ((n : Int) == (m : Int)) = false := by rw [beq_eq_false_iff_ne]; omega
    have q2 : ((n : Int) != (m : Int)) = true := by rw [bne, q1]; rfl
    have q3 : ¬ (n : Int) = (m : Int) := by omega
    have HG := Lib.hid (fun e : ps = qs => g5 (by rw [HN.out, HM.out, e]))
    clear g5
    go_enter Try.func47, Try.ntmps47
    go_wp2_with fail
    go_ret
    exact ⟨.bool false, rfl, .inr ⟨rfl, HG.out⟩, Below.refl _ _⟩
theorem snsEqual_any (ps qs : List Sn) (hp : ∀ p ∈ ps, Pok p.top) (hq : ∀ p ∈ qs, Pok p.top) (v u : Value) (w : World) (hv : RdT 34 w v ps.length (sncs ps)) (hu : RdT 34 w u qs.length (sncs qs)) (hn1 : ps.length ≤ 140737488355328) :
    Calls Try.prog 47 #[v, u] w fun e w' => e = .returned (.bool (snsEq ps qs)) ∧ Below w.heap.size w w' := by
  refine (snsEqual_raw ps qs hp hq v u w hv hu hn1).mono ?_
  rintro e w' ⟨b, rfl, h, hb⟩
  refine ⟨?_, hb⟩
  rcases h with ⟨rfl, h⟩ | ⟨rfl, h⟩
  · rw [snsEq_iff.2 h]
  · rw [Bool.eq_false_iff.2 (fun e => h (snsEq_iff.1 e))]
end Go.Proofs.Ytkagapgganoomaa

/- AllocLowest: what is taken was free, and all below it were used; when nothing is told to be free, nothing is taken; what is used and what is free are all there are; and the law's closed case holds. No condition. -/
import Derived.Test.YtlckhlcccifbfaaDoorRows
import Derived.Test.YtlckhlcccifbfaaDoorAlAw
import Derived.Test.YtlckhlcccifbfaaDoorActsA
import Derived.Test.YtlckhlcccifbfaaDoorDoorBits
import Derived.Test.YtlckhlcccifbfaaDoorTie
import Derived.Test.YtlckhlcccifbfaaDoorCards
import Derived.SevenTiedAt
import Derived.Test.YtlckhlcccifbfaaDoorMem
import Derived.WalkKit
import Derived.ProofKit
import Derived.OpenShut
import Derived.SizedLaws
import Derived.Carry
import Derived.Deep.DeepHandedRow
import Derived.Deep.DeepWitnessRowRef
namespace Go.Proofs.YtlckhlcccifbfaaDoor.allocLowest
open Go.ChangeShapes Go.WideShapes Go.ChangeAt Go.RowKit

theorem own : ownKnob Tryd.prog.godebug = none := by kernel_rfl
set_option linter.unusedVariables false in
set_option maxHeartbeats 8000000 in
set_option maxRecDepth 100000 in
theorem walk (w : World) (ht : TabD w) (a0 : Int) (w0 : (Lit.int .u8 a0).wf = true) (v1 : Value) (l1 : List Nat) (h1 : Rd w v1 l1) :
    Calls Tryd.prog 6 #[.int .u8 a0, v1] w fun e w' => e = .returned (.bool true) ∧ Below w.heap.size w w' := by
  obtain ⟨t, ht8, rfl⟩ := u8_of w0
  have HT := Lib.hid ht
  obtain ⟨N, hN⟩ : ∃ N, N = t % 65 := ⟨_, rfl⟩
  have hN2 : N < 65 := by omega
  have hNI : (t : Int) % 65 = (N : Int) := by omega
  have em : most (N : Int) = N := by unfold most; omega
  have HN := Lib.hid (anew_any (N : Int) w)
  rw [em] at HN
  obtain ⟨ao, cap, rfl, hcap⟩ := h1.shape
  have hfit := h1.fits
  have HI := Lib.hid h1
  clear ht em hN h1
  go_enter Tryd.func6, Tryd.ntmps6
  go_upto_region 5 with (go_at_call 10; (with_reducible refine HN.out.mono ?_); rintro e1 w1 ⟨b, g, rfl, qb, qg, s1, b1⟩; have QG := Lib.hid qg; have B1 := Lib.hid b1; have S1 := Lib.hid s1; clear s1 b1 qb qg)
  clear hNI
  go_wp2_with fail
  go_loopw [7] (fun x wr => ∃ (i : Nat) (u : Nat → Bool), i ≤ l1.length ∧ x = .int .i64 (i : Int) ∧ Sets wr b g N u ∧ Below w.heap.size w wr) (fun x _ => l1.length - (intOf x).toNat)
  case atStart => exact ⟨0, _, Nat.zero_le _, rfl, S1.out, B1.out⟩
  case round =>
    obtain ⟨i, u, hi, hx, ss, bw⟩ := hrel
    subst hx
    have SS := Lib.hid ss
    have BW := Lib.hid bw
    clear ss bw S1 B1 HN
    by_cases hlt : i < l1.length
    · obtain ⟨ad, rfl, hc⟩ := (HI.out.below BW.out).at_ i hlt
      have hb8 := HI.out.byte i
      have hlI : (i : Int) < (l1.length : Int) := by omega
      obtain ⟨n, hn⟩ : ∃ n, n = gb l1 i / 3 := ⟨_, rfl⟩
      have hnI : (gb l1 i : Int) / 3 = (n : Int) := by omega
      clear hn
      by_cases hk0 : gb l1 i % 3 = 0
      · have hkI : ((gb l1 i : Int) % 3 == 0) = true := by simp; omega
        clear hk0
        have HM := Lib.hid (amark_any b g N n u wr SS.out)
        go_wp2_with (go_at_call 16; (with_reducible refine HM.out.mono ?_); rintro e2 w2 ⟨rfl, s2, g2⟩; have S2 := Lib.hid s2; have B2 := Lib.hid (below_then BW.out g2 QG.out); clear s2 g2)
        exact ⟨⟨i + 1, _, by omega, by go_num, S2.out, B2.out⟩, by simp [intOf]; omega⟩
      · by_cases hk1 : gb l1 i % 3 = 1
        · have hkI : ((gb l1 i : Int) % 3 == 0) = false := by simp; omega
          have hkJ : ((gb l1 i : Int) % 3 == 1) = true := by simp; omega
          clear hk0 hk1
          have HM := Lib.hid (aclear_any b g N n u wr SS.out)
          go_wp2_with (go_at_call 17; (with_reducible refine HM.out.mono ?_); rintro e2 w2 ⟨rfl, s2, g2⟩; have S2 := Lib.hid s2; have B2 := Lib.hid (below_then BW.out g2 QG.out); clear s2 g2)
          exact ⟨⟨i + 1, _, by omega, by go_num, S2.out, B2.out⟩, by simp [intOf]; omega⟩
        · have hkI : ((gb l1 i : Int) % 3 == 0) = false := by simp; omega
          have hkJ : ((gb l1 i : Int) % 3 == 1) = false := by simp; omega
          clear hk0 hk1
          obtain ⟨k, hk⟩ : ∃ k, k = (AL.lst N u).length := ⟨_, rfl⟩
          have hkN := AL.lst_len N u
          rw [← hk] at hkN
          have HFR := Lib.hid (free_at b g N u wr SS.out ((N - k : Nat) : Int) (by rw [← hk]))
          obtain ⟨F, hF⟩ : ∃ F, F = N - k := ⟨_, rfl⟩
          rw [← hF] at HFR
          have HFK := Lib.hid (afork_any b g N u wr SS.out)
          have HK := Lib.hid hk
          have HFF := Lib.hid hF
          clear hk hF
          go_upto_region 14 with (first
            | (go_at_call 20; (with_reducible refine HFR.out.mono ?_); rintro e1 w3 ⟨rfl, hw1⟩; subst w3)
            | (go_at_call 14; (with_reducible refine HFK.out.mono ?_); rintro e1 w2 ⟨b2, g2, rfl, qb2, qg2, s2, hb2⟩; have F2 := Lib.hid s2; have B2 := Lib.hid (BW.out.on hb2); have S2 := Lib.hid (SS.out.below hb2); have HQ := Lib.hid (show g < g2 ∧ g < b2 by have := SS.out.lt; omega); clear s2 hb2 qb2 qg2))
          have HTK := Lib.hid (atake_any b g N u w2 S2.out (HT.out.below B2.out))
          clear HFR HFK hc
          go_upto_region 15 with (go_at_call 15; (with_reducible refine HTK.out.mono ?_); rintro e1 w4 ⟨m, lm, rfl, s4, g4⟩; have LM := Lib.hid lm; have S4 := Lib.hid s4; have B4 := Lib.hid (below_then B2.out g4 QG.out); have F4 := Lib.hid (F2.out.grown g4 (fun e => by have := Option.some.inj e; have := HQ.out; omega) (fun e => by have := Option.some.inj e; have := HQ.out; omega)); clear lm s4 g4)
          have hmN : m ≤ N := by obtain ⟨ws, _, hR⟩ := F4.out; exact hR.low LM.out
          by_cases hm : m < N
          · have e1 : tnum N m = m := by unfold tnum; rw [if_pos hm]
            have e2 : terr N m = 0 := by unfold terr; rw [if_pos hm]
            have hcnt := AL.mark_more N u m hm LM.out.1
            have hcl := AL.lst_len N (AL.mark N u m)
            rw [← HK.out] at hcnt
            have hF1 : 0 < F := by have := HFF.out; omega
            have hF1I : (0 : Int) < (F : Int) := by omega
            have hF64 : F ≤ 64 := by have := HFF.out; omega
            have hFd : decide (0 < F) = true := by simp; omega
            have HH1 := Lib.hid (fun W (hW : Below w4.heap.size w4 W) => ahas_any b2 g2 N m u W (by omega) (F4.out.below hW))
            have HH2 := Lib.hid (fun W (hW : Below w4.heap.size w4 W) => ahas_any b g N m (AL.mark N u m) W (by omega) (S4.out.below hW))
            have hmm : AL.mark N u m m = true := by unfold AL.mark; simp [hm]
            rw [LM.out.1] at HH1
            rw [hmm] at HH2
            have HF3 := Lib.hid (fun W (hW : Below w4.heap.size w4 W) => free_at b g N (AL.mark N u m) W (S4.out.below hW) ((F : Int) - 1) (by rw [hcnt]; have := HFF.out; omega))
            have hNm : decide (N ≤ m) = false := by simp; omega
            have hNm2 : decide ((N : Int) ≤ (m : Int)) = false := by simp; omega
            rw [e1, e2]
            clear hcnt hcl e1 e2 hmm
            go_upto_region 17 with (first
              | (go_at_call 18; (with_reducible refine (HH1.out w4 (Below.refl _ _)).mono ?_); rintro e1 w5 ⟨rfl, m5, hw5⟩; have B5 := Lib.hid (show Below w4.heap.size w4 w5 by rw [hw5]; exact below_dN (Below.refl _ _) _); clear hw5)
              | (go_at_call 18; (with_reducible refine (HH2.out w5 B5.out).mono ?_); rintro e1 w6 ⟨rfl, m6, hw6⟩; have B6 := Lib.hid (show Below w4.heap.size w4 w6 by rw [hw6]; exact below_dN B5.out _); clear hw6)
              | (go_at_call 20; (with_reducible refine (HF3.out w6 B6.out).mono ?_); rintro e1 w3 ⟨rfl, hw1⟩; subst w3))
            have S6 := Lib.hid (S4.out.below B6.out)
            have F6 := Lib.hid (F4.out.below B6.out)
            have E6 := Lib.hid (B4.out.on B6.out)
            clear HH1 HH2 HF3 S4 F4 B5 B6 S2 F2 HTK
            go_wp2_with fail
            go_loopw [12] (fun y wr => ∃ j : Nat, j ≤ m ∧ y = .int .i64 (j : Int) ∧ Sets wr b g N (AL.mark N u m) ∧ Sets wr b2 g2 N u ∧ Below w.heap.size w wr) (fun y _ => m - (intOf y).toNat)
            case atStart => exact ⟨0, Nat.zero_le _, rfl, S6.out, F6.out, E6.out⟩
            case round =>
              obtain ⟨j, hj, hx, ss, ff, ee⟩ := hrel
              subst hx
              clear S6 F6 E6
              have S6 := Lib.hid ss
              have F6 := Lib.hid ff
              have E6 := Lib.hid ee
              clear ss ff ee
              by_cases hjm : j < m
              · have hjI : (j : Int) < (m : Int) := by omega
                have hj65 : j < 65 := by omega
                have HJ := Lib.hid (ahas_any b2 g2 N j u wr (by omega) F6.out)
                rw [LM.out.2 j hjm] at HJ
                go_wp2_with (go_at_call 18; (with_reducible refine HJ.out.mono ?_); rintro e1 w7 ⟨rfl, m7, hw7⟩; have B7 := Lib.hid (show Below wr.heap.size wr w7 by rw [hw7]; exact below_dN (Below.refl _ _) _); clear hw7)
                exact ⟨⟨j + 1, by omega, by go_num, S6.out.below B7.out, F6.out.below B7.out, E6.out.on B7.out⟩, by simp [intOf]; omega⟩
              · have hjI : ¬ (j : Int) < (m : Int) := by omega
                go_wp2_with fail
                exact ⟨⟨i + 1, _, by omega, by go_num, S6.out, E6.out⟩, by simp [intOf]; omega⟩
          · obtain rfl : m = N := by omega
            have e1 : tnum m m = 0 := by unfold tnum; rw [if_neg hm]
            have e2 : terr m m = 21 := by unfold terr; rw [if_neg hm]
            have hF0 : F = 0 := by
              have h1 := AL.full_lst m u LM.out.2
              have h2 := HK.out
              rw [h1, List.length_range] at h2
              have := HFF.out
              omega
            rw [e1, e2]
            subst hF0
            clear e1 e2 HFF
            go_upto_region 17 with (fail)
            clear S2 F2 HTK F4
            go_wp2_with fail
            go_loopw [12] (fun y wr => y = .int .i64 0 ∧ w4 = wr) (fun _ _ => 0)
            case atStart => exact ⟨rfl, rfl⟩
            case round =>
              obtain ⟨hx, hw⟩ := hrel
              subst hx; subst hw
              go_wp2_with fail
              exact ⟨⟨i + 1, _, by omega, by go_num, S4.out, B4.out⟩, by simp [intOf]; omega⟩
    · obtain rfl : i = l1.length := by omega
      have hlI : ¬ (l1.length : Int) < (l1.length : Int) := by omega
      have hll := AL.lst_len N u
      obtain ⟨k, hk⟩ : ∃ k, k = (AL.lst N u).length := ⟨_, rfl⟩
      have HUS := Lib.hid (used_at b g N u wr SS.out (k : Int) (by rw [hk]))
      have HFR := Lib.hid (free_at b g N u wr SS.out ((N : Int) - (k : Int)) (by rw [← hk]; omega))
      have HTO := Lib.hid (atotal_any b g N u wr SS.out)
      rw [← hk] at hll
      have hsum : (k : Int) + ((N : Int) - (k : Int)) = (N : Int) := by omega
      clear hk
      go_wp2_with (first
        | (go_at_call 19; (with_reducible refine HUS.out.mono ?_); rintro e1 w3 ⟨rfl, hw1⟩; subst w3)
        | (go_at_call 20; (with_reducible refine HFR.out.mono ?_); rintro e1 w3 ⟨rfl, hw1⟩; subst w3)
        | (go_at_call 21; (with_reducible refine HTO.out.mono ?_); rintro e1 w3 ⟨rfl, hw1⟩; subst w3)
        | (go_at_call 9; refine (aawake_any wr (HT.out.below BW.out)).mono ?_; rintro e1 w9 ⟨rfl, hb⟩; have B9 := Lib.hid (BW.out.on hb); clear hb))
      go_ret
      exact ⟨rfl, B9.out⟩
set_option maxRecDepth 100000 in
theorem reads (os : Os) {H : Type} (enc : TypeId × Value → H) : ∃ places, DataW.whole enc Tryd.prog ((World.doorLaid Tryd.prog 400 os).forCall (fun _ _ => 0) ⟨#[], #[.int .u8 0, .slice none 0 0], []⟩).memory Tryd.f6.params.toList Rows.allocLowestSpec.vars false (#[.int .u8 0, .slice none 0 0] : Array Value).toList 8 = some ([.lit (.int .u8 0), .nil], [], places) :=
  ⟨[], by kernel_rfl⟩
set_option linter.unusedVariables false in
set_option maxHeartbeats 1000000 in
set_option maxRecDepth 100000 in
theorem lifted (os : Os) (started : os.Started) (H : Type) (enc : TypeId × Value → H) (F : Stop.Interp) :
    ReturnsInHanded {} Tryd.checked os 6 .any ((OpenSpec.ofChange Rows.allocLowestSpec).preRow enc Tryd.prog Tryd.f6 Rows.allocLowestRow.domain false laidD) (((OpenSpec.ofChange Rows.allocLowestSpec).at F).post enc Tryd.prog Tryd.f6 false true false false) := by
  obtain ⟨places, hx⟩ := reads os enc
  refine returnsInHanded_of_row (C := Tryd.checked) (s := OpenSpec.ofChange Rows.allocLowestSpec) own started (by kernel_rfl) Tryd.func6
    (witness_row_atRef (enc := enc) (C := Tryd.checked) false (World.doorLaid Tryd.prog 400 os) #[.int .u8 0, .slice none 0 0] rfl (by kernel_rfl) (by kernel_rfl) (by kernel_rfl)
      (OpenSpec.preRow_of_cond 8 hx (by kernel_rfl) (fun k hk => by cases hk) (by kernel_rfl) (doorD_met os _))) ?_
  intro W base args ds gs before hval0 hW _ hcond hsz0 hL _ _
  have hsz : (DataW.weightsEach Tryd.prog (Tryd.f6.params.toList ++ Rows.allocLowestSpec.plain.varTypes Tryd.prog) (ds ++ gs)).all (· ≤ reachBytes) = true := hsz0
  clear hsz0
  have hval : ∀ (j : Nat) t v, Tryd.f6.params[j]? = some t → args[j]? = some v → Value.okWide Tryd.prog W .any base t v := hval0
  have hW' := hW
  obtain ⟨p, q, hA0, hV, rfl, _, _⟩ := hW
  have hA : DataW.TrodAll enc Tryd.prog W 0 (fun _ => true) true Tryd.f6.params.toList args.toList ds p := hA0
  rw [Tryd.params6] at hA hval hsz
  obtain ⟨v0, vs0, d0, ds0, p0, q0, hargs, rfl, rfl, g0, r0⟩ := trodAll_cons hA
  obtain ⟨v1, vs1, d1, ds1, p1, q1, rfl, rfl, rfl, g1, r1⟩ := trodAll_cons r0
  obtain ⟨rfl, rfl, rfl⟩ := trodAll_nil r1
  obtain rfl : args = #[v0, v1] := by cases args; simp_all
  obtain ⟨rfl, rfl⟩ := trodVars_none hV
  obtain ⟨a0, rfl, rfl, rfl, w0⟩ := open_int Tryd.underlying5 (hval 0 5 v0 rfl rfl) g0
  obtain ⟨l1, h1⟩ := open_bytes (hval 1 47 v1 rfl rfl) g1 (fun elems spare e => sized_slice hsz (j := 1) (t := 47) (e := 5) rfl (by rw [← e]; rfl) Tryd.underlying47)
  clear hA0 hval0
  have hlt := hW'.lt
  refine (walk W (tabD_of_laid hL) a0 w0 v1 l1 h1).mono fun e W' ⟨he, hb⟩ => ?_
  subst he
  have hargs : DataW.TrodAll enc Tryd.prog W' 0 (fun b => decide (b < W.heap.size)) true _ _ _ _ := (trodAll_cons_mk (shut_int Tryd.underlying5 w0) (trodAll_cons_mk (Below.trod laidOut (by kernel_rfl) (of_decide_eq_true (by kernel_rfl)) g1 hb (fun x hx => hlt x (by simp [hx]))) trodAll_mk0))
  simp only [List.append_nil] at hW' hargs
  exact ⟨_, rfl, post_law hW' (trodAll_cons_mk (shut_bool Tryd.underlying4 _) trodAll_mk0) hargs rfl hb⟩
theorem over : Rows.allocLowestRow.holds Tryd.pinned (OpenSpec.ofChange Rows.allocLowestSpec) :=
  OpenClaim.holds_of_cond 6 Tryd.f6 rfl rfl rfl rfl rfl rfl rfl ⟨rfl, rfl, rfl, rfl, rfl⟩ rfl rfl rfl rfl rfl (by kernel_rfl) Tryd.func6 (by kernel_rfl)
    (of_decide_eq_true (by kernel_rfl)) (by unfold Func.isWrapper; first | (rw [if_pos (by decide +kernel)]; kernel_rfl) | (rw [if_neg (by decide +kernel)]; exact ⟨rfl, rfl⟩))
    (fun os started H enc _ F => by rw [OpenClaim.pre_eq_preRow]; exact lifted os started H enc F)

/-- The given statement. -/
theorem proved : Rows.AllocLowestCardSaid :=
  Claim7.holds_tied_plain_at .later [] _ _ _ _
    over (fun _ h => by cases h) (by kernel_rfl) (fun _ h => by cases h) allocLowest_row_tie rfl ⟨rfl, rfl⟩ (by kernel_rfl) rfl
    (fun f fn hf hfn => by
      obtain rfl : f = 6 := Option.some.inj ((show Tryd.prog.funcNamed "reliquary/reliquarylaw17.AllocLowest" = some 6 by kernel_rfl).symm.trans hf) |>.symm
      obtain rfl : fn = Tryd.f6 := (Option.some.inj (Tryd.func6.symm.trans hfn)).symm
      exact ⟨by kernel_rfl, fun j t ht => by
        rw [Tryd.params6] at ht
        have hm : t ∈ [5, 47] := by simpa using Array.mem_of_getElem? ht
        have hall : ([5, 47].all fun u => !Tryd.prog.wantsStandIn u) = true := by kernel_rfl
        exact (show Tryd.prog.wantsStandIn t = false by simpa using List.all_eq_true.1 hall t hm)⟩)
    (by kernel_rfl)
end Go.Proofs.YtlckhlcccifbfaaDoor.allocLowest

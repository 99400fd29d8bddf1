/- AllocLists: what is told to be used is rising, and it is just what was marked and is there, as Has tells it too; there are as many as Used tells; and the law's closed case holds. No condition. -/
import Derived.Test.YtlckhlcccifbfaaDoorRows
import Derived.Test.YtlckhlcccifbfaaDoorAlAw
import Derived.Test.YtlckhlcccifbfaaDoorU16
import Derived.Test.YtlckhlcccifbfaaDoorInts
import Derived.Test.YtlckhlcccifbfaaDoorActsA
import Derived.Test.YtlckhlcccifbfaaDoorDoorBits
import Derived.Test.YtlckhlcccifbfaaDoorTie
import Derived.Test.YtlckhlcccifbfaaDoorCards
import Derived.SevenTiedAt
import Derived.WalkKit
import Derived.ProofKit
import Derived.OpenShut
import Derived.SizedLaws
import Derived.Carry
import Derived.Deep.DeepHandedRow
import Derived.Deep.DeepWitnessRowRef
namespace Go.Proofs.YtlckhlcccifbfaaDoor.allocLists
open Go.ChangeShapes Go.WideShapes Go.ChangeAt Go.RowKit

theorem own : ownKnob Tryd.prog.godebug = none := by kernel_rfl
theorem cells31 : Tryd.prog.cellsOf 31 = 1 := by kernel_rfl
set_option linter.unusedVariables false in
set_option maxHeartbeats 4000000 in
theorem walk (w : World) (ht : TabD w) (a0 : Int) (w0 : (Lit.int .u16 a0).wf = true) (v1 : Value) (l1 : List Int) (h1 : Ints .u32 w v1 l1) :
    Calls Tryd.prog 8 #[.int .u16 a0, v1] w fun e w' => e = .returned (.bool true) ∧ Below w.heap.size w w' := by
  obtain ⟨T, hT16, rfl⟩ := u16_nat w0
  have HT := Lib.hid ht
  have em : most (T : Int) = T := by unfold most; omega
  have HN := Lib.hid (anew_any (T : Int) w)
  rw [em] at HN
  obtain ⟨ao, cap, rfl, hcap⟩ := h1.shape
  have HI := Lib.hid h1
  clear ht em h1
  go_enter Tryd.func8, Tryd.ntmps8
  by_cases hlen : 200 < l1.length
  · have hI : (200 : Int) < (l1.length : Int) := by omega
    go_wp2_with (go_at_call 9; refine (aawake_any w HT.out).mono ?_; rintro e1 w3 ⟨rfl, hb⟩; have B3 := Lib.hid hb; clear hb)
    go_ret
    exact ⟨rfl, B3.out⟩
  · have hI : ¬ (200 : Int) < (l1.length : Int) := by omega
    go_upto_region 6 with (go_at_call 10; refine HN.out.mono ?_; rintro e1 w1 ⟨b, g, rfl, qb, qg, s1, b1⟩; have QG := Lib.hid qg; have B1 := Lib.hid b1; have S1 := Lib.hid s1; clear s1 b1 qb qg)
    go_wp2_with fail
    go_loopw [6] (fun x wr => ∃ (i : Nat) (u : Nat → Bool), i ≤ l1.length ∧ x = .int .i64 (i : Int) ∧ Sets wr b g T u ∧ (∀ n, u n = true ↔ n < T ∧ ∃ j, j < i ∧ l1.getD j 0 = (n : Int)) ∧ Below w.heap.size w wr) (fun x _ => l1.length - (intOf x).toNat)
    case atStart => exact ⟨0, _, Nat.zero_le _, rfl, S1.out, fun n => ⟨fun h => absurd h (by simp), fun ⟨_, j, hj, _⟩ => absurd hj (by omega)⟩, B1.out⟩
    case round =>
      obtain ⟨i, u, hi, hx, ss, hu, bw⟩ := hrel
      subst hx
      have SS := Lib.hid ss
      have BW := Lib.hid bw
      have HU := Lib.hid hu
      clear ss bw hu S1 B1 HN
      by_cases hlt : i < l1.length
      · obtain ⟨q, off, rfl, hc⟩ := (HI.out.below BW.out).at_ i hlt
        obtain ⟨n, hn, hne⟩ := u32_of' (HI.out.wf i hlt)
        rw [hne] at hc
        have HNE := Lib.hid hne
        have hlI : (i : Int) < (l1.length : Int) := by omega
        have HM := Lib.hid (amark_any b g T n u wr SS.out)
        clear hne
        go_wp2_with (go_at_call 16; refine HM.out.mono ?_; rintro e2 w2 ⟨rfl, s2, g2⟩; have S2 := Lib.hid s2; have B2 := Lib.hid (below_then BW.out g2 QG.out); clear s2 g2)
        refine ⟨⟨i + 1, _, by omega, by go_num, S2.out, fun m => ?_, B2.out⟩, by simp [intOf]; omega⟩
        unfold AL.mark
        rw [Bool.or_eq_true, HU.out m, decide_eq_true_iff]
        constructor
        · rintro (⟨h1, j, h2, h3⟩ | ⟨h1, h2⟩)
          · exact ⟨h1, j, by omega, h3⟩
          · subst h1; exact ⟨h2, i, by omega, HNE.out⟩
        · rintro ⟨h1, j, h2, h3⟩
          by_cases hj : j = i
          · subst hj
            rw [HNE.out] at h3
            have : m = n := by omega
            subst this
            exact .inr ⟨rfl, h1⟩
          · exact .inl ⟨h1, j, by omega, h3⟩
      · obtain rfl : i = l1.length := by omega
        have hlI : ¬ (l1.length : Int) < (l1.length : Int) := by omega
        have HLS := Lib.hid (alist_any b g T u wr SS.out (HT.out.below BW.out))
        obtain ⟨l, hl⟩ : ∃ l, l = AL.lst T u := ⟨_, rfl⟩
        rw [← hl] at HLS
        have HL := Lib.hid hl
        have hll : l.length ≤ 65536 := by have := AL.lst_len T u; rw [← hl] at this; omega
        clear hl
        go_upto_region 11 with (go_at_call 22; refine HLS.out.mono ?_; rintro e1 w3 ⟨v1, rfl, ho, hb⟩; obtain ⟨a1, c1, hsh, hc1⟩ := ho.rd.shape; subst hsh; have O3 := Lib.hid ho.rd; have B3 := Lib.hid (BW.out.on hb); have S3 := Lib.hid (SS.out.below hb); clear ho hb)
        go_wp2_with fail
        clear HLS
        go_loopw [8] (fun x wr => ∃ i : Nat, i ≤ l.length ∧ x = .int .i64 (i : Int) ∧ Sets wr b g T u ∧ Wd wr (.slice a1 l.length c1) l ∧ Below w.heap.size w wr) (fun x _ => l.length - (intOf x).toNat)
        case atStart => exact ⟨0, Nat.zero_le _, rfl, S3.out, O3.out, B3.out⟩
        case round =>
          obtain ⟨i, hi2, hx, ss, oo, bw⟩ := hrel
          subst hx
          clear S3 O3 B3 SS BW
          have SS := Lib.hid ss
          have OO := Lib.hid oo
          have BW := Lib.hid bw
          clear ss oo bw
          by_cases hlt2 : i < l.length
          · obtain ⟨ad, rfl, hc⟩ := OO.out.at_ i hlt2
            have hmem := AL.lst_mem (AL.getD_mem (AL.lst T u) i (by rw [← HL.out]; exact hlt2))
            rw [← HL.out] at hmem
            have hg2 : gb l i < T := hmem.1
            have hu2 : u (gb l i) = true := hmem.2
            have HH := Lib.hid (fun m => ahas_any b g T (gb l i) u (wr.drewN m) (by omega) (SS.out.drewN m))
            rw [hu2] at HH
            have kl : (i : Int) < (l.length : Int) := by omega
            have hd2 : decide (T ≤ gb l i) = false := by simp; omega
            have hd3 : decide ((T : Int) ≤ (gb l i : Int)) = false := by simp; omega
            have hw16 : IntKind.u32.wrap (T : Int) = (T : Int) := by simp [IntKind.wrap, IntKind.signed, IntKind.bits]; omega
            by_cases h0 : i = 0
            · have hd1 : decide (0 < i) = false := by simp; omega
              have HI0 := Lib.hid h0
              clear h0
              go_wp2_with fail
              go_big_quiet ((go_at_call 18; refine quietD (HH.out _)))
              go_wp2_with fail
              exact ⟨⟨i + 1, by omega, by go_num, SS.out.drewN nq, OO.out.below (below_dN (Below.refl _ _) nq), below_dN BW.out nq⟩, by simp [intOf]; omega⟩
            · have h0I : (0 : Int) < (i : Int) := by omega
              have hd1 : decide (0 < i) = true := by simp; omega
              obtain ⟨ad2, had, hc2⟩ := OO.out.at_ (i - 1) (by omega)
              obtain rfl : ad = ad2 := by injection had
              have hrise : gb l (i - 1) < gb l i := by
                have := AL.lst_rise T u (i - 1) i (by omega) (by rw [← HL.out]; exact hlt2)
                rw [← HL.out] at this; exact this
              have hi1 : ((i : Int) - 1).toNat = i - 1 := by omega
              have hi2b : (0 : Int) ≤ (i : Int) - 1 := by omega
              have hi3 : (i : Int) - 1 < (l.length : Int) := by omega
              have hd4 : decide ((gb l i : Int) ≤ (gb l (i - 1) : Int)) = false := by simp; omega
              have hd5 : decide (gb l i ≤ gb l (i - 1)) = false := by simp; omega
              have h1i : (1 : Int) ≤ (i : Int) := by omega
              have h1n : 1 ≤ i := by omega
              clear had
              go_wp2_with fail
              go_big_quiet ((go_at_call 18; refine quietD (HH.out _)))
              go_wp2_with fail
              exact ⟨⟨i + 1, by omega, by go_num, SS.out.drewN nq, OO.out.below (below_dN (Below.refl _ _) nq), below_dN BW.out nq⟩, by simp [intOf]; omega⟩
          · obtain rfl : i = l.length := by omega
            have kl : ¬ (l.length : Int) < (l.length : Int) := by omega
            go_wp2_with fail
            go_loopw [9] (fun x wr => ∃ i : Nat, i ≤ l1.length ∧ x = .int .i64 (i : Int) ∧ Sets wr b g T u ∧ Below w.heap.size w wr) (fun x _ => l1.length - (intOf x).toNat)
            case atStart => exact ⟨0, Nat.zero_le _, rfl, SS.out, BW.out⟩
            case round =>
              obtain ⟨i, hi3, hx, ss, bw⟩ := hrel
              subst hx
              clear OO SS BW
              have SS := Lib.hid ss
              have BW := Lib.hid bw
              clear ss bw
              by_cases hlt3 : i < l1.length
              · obtain ⟨q, off, rfl, hc⟩ := (HI.out.below BW.out).at_ i hlt3
                obtain ⟨n, hn, hne⟩ := u32_of' (HI.out.wf i hlt3)
                rw [hne] at hc
                have hun : u n = decide (n < T) := by
                  by_cases hq : n < T
                  · rw [(HU.out n).2 ⟨hq, i, hlt3, hne⟩]; simp [hq]
                  · cases e : u n with
                    | false => simp [hq]
                    | true => exact absurd ((HU.out n).1 e).1 hq
                have HH := Lib.hid (fun m => ahas_any b g T n u (wr.drewN m) hn (SS.out.drewN m))
                rw [hun] at HH
                have kl3 : (i : Int) < (l1.length : Int) := by omega
                have hw16 : IntKind.u32.wrap (T : Int) = (T : Int) := by simp [IntKind.wrap, IntKind.signed, IntKind.bits]; omega
                clear hne hun
                go_wp2_with fail
                go_big_quiet ((go_at_call 18; refine quietD (HH.out _)))
                go_wp2_with fail
                exact ⟨⟨i + 1, by omega, by go_num, SS.out.drewN nq, below_dN BW.out nq⟩, by simp [intOf]; omega⟩
              · obtain rfl : i = l1.length := by omega
                have kl3 : ¬ (l1.length : Int) < (l1.length : Int) := by omega
                have HUS := Lib.hid (used_at b g T u wr SS.out (l.length : Int) (by rw [HL.out]))
                go_wp2_with (first
                  | (go_at_call 19; refine HUS.out.mono ?_; rintro e1 w3 ⟨rfl, hw1⟩; subst w3)
                  | (go_at_call 9; refine (aawake_any wr (HT.out.below BW.out)).mono ?_; rintro e1 w9 ⟨rfl, hb⟩; have B9 := Lib.hid (BW.out.on hb); clear hb))
                go_ret
                exact ⟨rfl, B9.out⟩
set_option maxRecDepth 100000 in
theorem reads (os : Os) {H : Type} (enc : TypeId × Value → H) : ∃ places, DataW.whole enc Tryd.prog ((World.doorLaid Tryd.prog 400 os).forCall (fun _ _ => 0) ⟨#[], #[.int .u16 0, .slice none 0 0], []⟩).memory Tryd.f8.params.toList Rows.allocListsSpec.vars false (#[.int .u16 0, .slice none 0 0] : Array Value).toList 8 = some ([.lit (.int .u16 0), .nil], [], places) :=
  ⟨[], by kernel_rfl⟩
set_option linter.unusedVariables false in
set_option maxHeartbeats 1000000 in
set_option maxRecDepth 100000 in
theorem lifted (os : Os) (started : os.Started) (H : Type) (enc : TypeId × Value → H) (F : Stop.Interp) :
    ReturnsInHanded {} Tryd.checked os 8 .any ((OpenSpec.ofChange Rows.allocListsSpec).preRow enc Tryd.prog Tryd.f8 Rows.allocListsRow.domain false laidD) (((OpenSpec.ofChange Rows.allocListsSpec).at F).post enc Tryd.prog Tryd.f8 false true false false) := by
  obtain ⟨places, hx⟩ := reads os enc
  refine returnsInHanded_of_row (C := Tryd.checked) (s := OpenSpec.ofChange Rows.allocListsSpec) own started (by kernel_rfl) Tryd.func8
    (witness_row_atRef (enc := enc) (C := Tryd.checked) false (World.doorLaid Tryd.prog 400 os) #[.int .u16 0, .slice none 0 0] rfl (by kernel_rfl) (by kernel_rfl) (by kernel_rfl)
      (OpenSpec.preRow_of_cond 8 hx (by kernel_rfl) (fun k hk => by cases hk) (by kernel_rfl) (doorD_met os _))) ?_
  intro W base args ds gs before hval0 hW _ hcond hsz0 hL _ _
  have hsz : (DataW.weightsEach Tryd.prog (Tryd.f8.params.toList ++ Rows.allocListsSpec.plain.varTypes Tryd.prog) (ds ++ gs)).all (· ≤ reachBytes) = true := hsz0
  clear hsz0
  have hval : ∀ (j : Nat) t v, Tryd.f8.params[j]? = some t → args[j]? = some v → Value.okWide Tryd.prog W .any base t v := hval0
  have hW' := hW
  obtain ⟨p, q, hA0, hV, rfl, _, _⟩ := hW
  have hA : DataW.TrodAll enc Tryd.prog W 0 (fun _ => true) true Tryd.f8.params.toList args.toList ds p := hA0
  rw [Tryd.params8] at hA hval hsz
  obtain ⟨v0, vs0, d0, ds0, p0, q0, hargs, rfl, rfl, g0, r0⟩ := trodAll_cons hA
  obtain ⟨v1, vs1, d1, ds1, p1, q1, rfl, rfl, rfl, g1, r1⟩ := trodAll_cons r0
  obtain ⟨rfl, rfl, rfl⟩ := trodAll_nil r1
  obtain rfl : args = #[v0, v1] := by cases args; simp_all
  obtain ⟨rfl, rfl⟩ := trodVars_none hV
  obtain ⟨a0, rfl, rfl, rfl, w0⟩ := open_int Tryd.underlying37 (hval 0 37 v0 rfl rfl) g0
  obtain ⟨l1, h1⟩ := open_nums Tryd.underlying26 Tryd.underlying31 cells31 (hval 1 26 v1 rfl rfl) g1 (fun elems spare e => sized_slice hsz (j := 1) (t := 26) (e := 31) rfl (by rw [← e]; rfl) Tryd.underlying26) (of_decide_eq_true (by kernel_rfl))
  clear hA0 hval0
  have hlt := hW'.lt
  refine (walk W (tabD_of_laid hL) a0 w0 v1 l1 h1).mono fun e W' ⟨he, hb⟩ => ?_
  subst he
  have hargs : DataW.TrodAll enc Tryd.prog W' 0 (fun b => decide (b < W.heap.size)) true _ _ _ _ := (trodAll_cons_mk (shut_int Tryd.underlying37 w0) (trodAll_cons_mk (Below.trod laidOut (by kernel_rfl) (of_decide_eq_true (by kernel_rfl)) g1 hb (fun x hx => hlt x (by simp [hx]))) trodAll_mk0))
  simp only [List.append_nil] at hW' hargs
  exact ⟨_, rfl, post_law hW' (trodAll_cons_mk (shut_bool Tryd.underlying4 _) trodAll_mk0) hargs rfl hb⟩
theorem over : Rows.allocListsRow.holds Tryd.pinned (OpenSpec.ofChange Rows.allocListsSpec) :=
  OpenClaim.holds_of_cond 8 Tryd.f8 rfl rfl rfl rfl rfl rfl rfl ⟨rfl, rfl, rfl, rfl, rfl⟩ rfl rfl rfl rfl rfl (by kernel_rfl) Tryd.func8 (by kernel_rfl)
    (of_decide_eq_true (by kernel_rfl)) (by unfold Func.isWrapper; first | (rw [if_pos (by decide +kernel)]; kernel_rfl) | (rw [if_neg (by decide +kernel)]; exact ⟨rfl, rfl⟩))
    (fun os started H enc _ F => by rw [OpenClaim.pre_eq_preRow]; exact lifted os started H enc F)

/-- The given statement. -/
theorem proved : Rows.AllocListsCardSaid :=
  Claim7.holds_tied_plain_at .later [] _ _ _ _
    over (fun _ h => by cases h) (by kernel_rfl) (fun _ h => by cases h) allocLists_row_tie rfl ⟨rfl, rfl⟩ (by kernel_rfl) rfl
    (fun f fn hf hfn => by
      obtain rfl : f = 8 := Option.some.inj ((show Tryd.prog.funcNamed "reliquary/reliquarylaw17.AllocLists" = some 8 by kernel_rfl).symm.trans hf) |>.symm
      obtain rfl : fn = Tryd.f8 := (Option.some.inj (Tryd.func8.symm.trans hfn)).symm
      exact ⟨by kernel_rfl, fun j t ht => by
        rw [Tryd.params8] at ht
        have hm : t ∈ [37, 26] := by simpa using Array.mem_of_getElem? ht
        have hall : ([37, 26].all fun u => !Tryd.prog.wantsStandIn u) = true := by kernel_rfl
        exact (show Tryd.prog.wantsStandIn t = false by simpa using List.all_eq_true.1 hall t hm)⟩)
    (by kernel_rfl)
end Go.Proofs.YtlckhlcccifbfaaDoor.allocLists

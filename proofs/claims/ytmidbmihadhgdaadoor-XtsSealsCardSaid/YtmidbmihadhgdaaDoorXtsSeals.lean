/- XtsSeals: any sectors are sealed with any keys as the document says, or it is told why not; they stay as they are; and the law's closed case holds. No condition but that the program's two tables and the document's hold their constants when the call begins. -/
import Derived.Test.YtmidbmihadhgdaaDoorRows
import Derived.Test.YtmidbmihadhgdaaDoorXtsLaws
import Derived.Test.YtmidbmihadhgdaaDoorXtsDo
import Derived.Test.YtmidbmihadhgdaaDoorMem
import Derived.Deep.DeepCutAuto
import Derived.Test.YtmidbmihadhgdaaDoorDoorAes
import Derived.Test.YtmidbmihadhgdaaDoorTie
import Derived.Test.YtmidbmihadhgdaaDoorCards
import Derived.SevenTiedAt
import Derived.Test.YtmidbmihadhgdaaDoorGridArg
import Derived.WalkKit
import Derived.ProofKit
import Derived.OpenShut
import Derived.SizedLaws
import Derived.Carry
import Derived.Deep.DeepHandedRow
import Derived.Deep.DeepWitnessRowRef
namespace Go.Proofs.YtmidbmihadhgdaaDoor.xtsSeals
open Go.ChangeShapes Go.WideShapes Go.ChangeAt Go.RowKit
open AM FM XM
theorem infoKeyX : (Tryd.prog.info? 23).map (·.size) = some 32 := by kernel_rfl
theorem row_part {L : List Nat} {m : Nat} (hL : L.length = m * 32) (i : Nat) (hi : i < m) (j : Nat) (v : Value) (h : (row8 (rowAt L 32 i))[j]? = some v) : (row8 L)[i * 32 + j]? = some v := by
  rw [row8_rowAt, List.getElem?_take] at h
  split at h
  · rw [List.getElem?_drop] at h; exact h
  · cases h
theorem xfew_any (a : Option Addr) (n c : Nat) (w : World) : Calls Tryd.prog 8 #[.slice a n c] w fun e w' => e = .returned (.bool (decide (n ≤ 2048 ∨ 65536 < n ∨ n % 512 ≠ 0))) ∧ w' = w := by
  obtain ⟨r, hr⟩ : ∃ r, r = decide (n ≤ 2048 ∨ 65536 < n ∨ n % 512 ≠ 0) := ⟨_, rfl⟩
  rw [← hr]
  by_cases h1 : n ≤ 2048
  · have hI : (n : Int) ≤ 2048 := by omega
    rw [decide_eq_true (.inl h1)] at hr
    subst hr
    go_enter Tryd.func8, Tryd.ntmps8
    go_wp2_with fail
    go_ret
    exact ⟨rfl, rfl⟩
  have hI : ¬ (n : Int) ≤ 2048 := by omega
  by_cases h2 : 65536 < n
  · have h2I : (65536 : Int) < (n : Int) := by omega
    rw [decide_eq_true (.inr (.inl h2))] at hr
    subst hr
    go_enter Tryd.func8, Tryd.ntmps8
    go_wp2_with fail
    go_ret
    exact ⟨rfl, rfl⟩
  have h2I : ¬ (65536 : Int) < (n : Int) := by omega
  by_cases h3 : n % 512 ≠ 0
  · have h3I : ((n : Int) % 512 != 0) = true := by simp; omega
    rw [decide_eq_true (.inr (.inr h3))] at hr
    subst hr
    go_enter Tryd.func8, Tryd.ntmps8
    go_wp2_with fail
    go_ret
    exact ⟨rfl, rfl⟩
  have h3I : ((n : Int) % 512 != 0) = false := by simp; omega
  rw [decide_eq_false (by omega)] at hr
  subst hr
  go_enter Tryd.func8, Tryd.ntmps8
  go_wp2_with fail
  go_ret
  exact ⟨rfl, rfl⟩
theorem own : ownKnob Tryd.prog.godebug = none := by kernel_rfl
theorem cells23 : Tryd.prog.cellsOf 23 = 32 := by kernel_rfl
theorem cells24 : Tryd.prog.cellsOf 24 = 64 := by kernel_rfl
theorem cells5 : Tryd.prog.cellsOf 5 = 1 := by kernel_rfl
set_option linter.unusedVariables false in
set_option maxHeartbeats 4000000 in
set_option maxRecDepth 100000 in
theorem walk (w : World) (ht : TabX w ∧ TabU w ∧ TabA w) (l0 : List Nat) (h0 : Bytes (2 * 32) l0) (a1 : Int) (w1 : (Lit.int .u64 a1).wf = true) (v2 : Value) (l2 : List Nat) (h2 : Rd w v2 l2) :
    Calls Tryd.prog 3 #[.agg (row8 l0).toArray, .int .u64 a1, v2] w fun e w' => e = .returned (.bool true) ∧ Below w.heap.size w w' := by
  obtain ⟨n, hn, rfl⟩ : ∃ n : Nat, n < 2 ^ 64 ∧ a1 = (n : Int) := by
    have k : 0 ≤ a1 ∧ a1 ≤ 18446744073709551615 := by simpa [Lit.wf, IntKind.min, IntKind.max, IntKind.signed, IntKind.bits] using w1
    exact ⟨a1.toNat, by omega, by omega⟩
  obtain ⟨a2, c2, rfl, hc2⟩ := h2.shape
  obtain ⟨m, hm⟩ : ∃ m, m = l2.length := ⟨_, rfl⟩
  rw [← hm] at hc2 ⊢
  have w1 := (Below.refl w.heap.size w).alloc (Nat.le_refl _) (.cells (row8 l0).toArray 24)
  have n1 := Blk.new w 24 (row8 l0) _ rfl
  have HX := Lib.hid ht.1
  have HU := Lib.hid ht.2.1
  have HA := Lib.hid ht.2.2
  have W1 := Lib.hid w1
  have HFW := Lib.hid (xfew_any a2 m c2)
  by_cases hf : m ≤ 2048 ∨ 65536 < m ∨ m % 512 ≠ 0
  · rw [decide_eq_true hf] at HFW
    obtain ⟨K, hK⟩ : ∃ K, K = rowAt l0 32 0 := ⟨_, rfl⟩
    obtain ⟨L, hL⟩ : ∃ L, L = rowAt l0 32 1 := ⟨_, rfl⟩
    have bK : Bytes 32 K := by rw [hK]; exact rowAt_bytes h0 0 (by omega)
    have bL : Bytes 32 L := by rw [hL]; exact rowAt_bytes h0 1 (by omega)
    obtain ⟨z, hz⟩ : ∃ z, z = xerr m := ⟨_, rfl⟩
    obtain ⟨R, hR⟩ : ∃ R, R = (if xerr m = 0 then xseal (keys K) (keys L) n l2 else []) := ⟨_, rfl⟩
    have bA : Bytes 240 (sched K) := sched_bytes bK.2
    have bB : Bytes 240 (sched L) := sched_bytes bL.2
    have HP := Lib.hid (fun x v W (hr : Rd W v l2) (h : Xt W x K L) (hx : TabX W) => xt_seal x K L n hn v l2 W hr h hx)
    have HRN := Lib.hid (fun W (ht : TabA W) => xref_new K L bK bL W ht)
    have HRS := Lib.hid (fun v W (hr : Rd W v l2) (ht : TabA W) => xref_seal (sched K) (sched L) bA bB n hn v l2 W hr ht)
    rw [← hm, ← hR, ← hz] at HP
    have hR2 : (if xerr m = 0 then xseal (rk (sched K)) (rk (sched L)) n l2 else []) = R := hR.symm
    rw [← hm, hR2, ← hz] at HRS
    obtain ⟨SS, hSS⟩ : ∃ SS, SS = sched K ++ sched L := ⟨_, rfl⟩
    rw [← hSS] at HRN HRS
    have P0 := Lib.hid (range_part n1 0 (row8 K) (fun j v hv => by rw [hK] at hv; have := row_part h0.1 0 (by omega) j v hv; simpa using this))
    have P1 := Lib.hid (range_part n1 32 (row8 L) (fun j v hv => by rw [hL] at hv; have := row_part h0.1 1 (by omega) j v hv; simpa using this))
    have N1 := Lib.hid n1
    have HPK := Lib.hid (fun W (h : Blk W w.heap.size 24 (row8 l0)) => (show W.rangeAt w.heap.size 0 (row8 K) from range_part h 0 (row8 K) (fun j v hv => by rw [hK] at hv; have := row_part h0.1 0 (by omega) j v hv; simpa using this)))
    have HPL := Lib.hid (fun W (h : Blk W w.heap.size 24 (row8 l0)) => (show W.rangeAt w.heap.size 32 (row8 L) from range_part h 32 (row8 L) (fun j v hv => by rw [hL] at hv; have := row_part h0.1 1 (by omega) j v hv; simpa using this)))
    have K32 := Lib.hid (show (row8 K).length = 32 by rw [row8_len]; exact bK.1)
    have L32 := Lib.hid (show (row8 L).length = 32 by rw [row8_len]; exact bL.1)
    have HNW := Lib.hid (xt_new K L bK bL _ (ht.1.below w1))
    have R1 := Lib.hid (h2.alloc (.cells (row8 l0).toArray 24))
    rw [← hm] at R1
    have HM := Lib.hid hm
    have HFI := Lib.hid h2.fits
    clear hz hR hR2 bA bB hSS hK hL bK bL n1 w1 ht h2 hf hm hn
    go_enter Tryd.func3, Tryd.ntmps3
    go_upto_region 7 with (first
      | (go_at_call 8; (with_reducible refine (HFW.out _).mono ?_); rintro e wf ⟨rfl, rfl⟩)
      | (refine wpList_load_mid rfl 23 (.tmp 17) rfl w.heap.size 0 rfl (row8 K) _ P0.out Tryd.underlying23 rfl (by rw [K32.out]; exact infoKeyX) ?_)
      | (refine wpList_load_mid rfl 23 (.tmp 19) rfl w.heap.size 32 rfl (row8 L) _ P1.out Tryd.underlying23 rfl (by rw [L32.out]; exact infoKeyX) ?_)
      | (go_at_call 10; (with_reducible refine HNW.out.mono ?_); rintro e w3 ⟨x, hxw, rfl, x3, b3⟩; have X3 := Lib.hid x3; have B3 := Lib.hid (W1.out.on b3); have R3 := Lib.hid (R1.out.below b3); have N3 := Lib.hid (N1.out.below b3 N1.out.lt); clear hxw x3 b3)
      | (at_builtin; refine wpList_app rfl (.tmp 22) (.tmp 23) rfl w3.heap.size (.slice (some ⟨w3.heap.size, 0, none⟩) 0 0) (.slice a2 m c2) [] l2 rfl rfl (own_empty w3 rfl (Nat.le_refl _)) (R3.out.alloc _) (by have := HFI.out; simpa using this) (by simp) ?_; intro v4 w4 ho4 hg4 hk4; have b4 : Below w3.heap.size w3 w4 := ((Below.refl _ _).alloc (Nat.le_refl _) _).grown hg4 (by simp) (fun k hk => ((own_empty w3 rfl (Nat.le_refl _)).from k hk).1); obtain ⟨a4, c4, rfl, _⟩ := ho4.rd.shape; have I4 := Lib.hid (show Rd w4 (.slice a4 l2.length c4) l2 from ho4.rd); have X4 := Lib.hid (X3.out.below b4); have B4 := Lib.hid (B3.out.on b4); have R4 := Lib.hid (R3.out.below b4); have N4 := Lib.hid (N3.out.below b4 N3.out.lt); have s4 := HP.out x _ w4 I4.out X4.out (HX.out.below B4.out); have S4 := Lib.hid s4; clear ho4 hg4 hk4 b4 s4)
      | (go_at_call 11; (with_reducible refine S4.out.mono ?_); rintro e w5 ⟨y5, rfl, r5, b5⟩; obtain ⟨a5, c5, rfl, _⟩ := r5.shape; have C5 := Lib.hid r5; have I5 := Lib.hid (I4.out.below b5); have B5 := Lib.hid (B4.out.on b5); have R5 := Lib.hid (R4.out.below b5); have N5 := Lib.hid (N4.out.below b5 N4.out.lt); have s5 := HRN.out w5 (HA.out.below B5.out); have S5 := Lib.hid s5; clear r5 b5 s5)
      | (refine wpList_load_mid rfl 23 (.tmp 33) rfl w.heap.size 0 rfl (row8 K) _ (HPK.out _ N5.out) Tryd.underlying23 rfl (by rw [K32.out]; exact infoKeyX) ?_)
      | (refine wpList_load_mid rfl 23 (.tmp 35) rfl w.heap.size 32 rfl (row8 L) _ (HPL.out _ N5.out) Tryd.underlying23 rfl (by rw [L32.out]; exact infoKeyX) ?_)
      | (go_at_call 12; (with_reducible refine S5.out.mono ?_); rintro e w6 ⟨rfl, b6⟩; have C6 := Lib.hid (C5.out.below b6); have I6 := Lib.hid (I5.out.below b6); have B6 := Lib.hid (B5.out.on b6); have R6 := Lib.hid (R5.out.below b6); have s6 := HRS.out _ w6 R6.out (HA.out.below B6.out); have S6 := Lib.hid s6; clear b6 s6)
      | (go_at_call 13; (with_reducible refine S6.out.mono ?_); rintro e w7 ⟨y7, rfl, r7, b7⟩; obtain ⟨a7, c7, rfl, _⟩ := r7.shape; have D7 := Lib.hid r7; have C7 := Lib.hid (C6.out.below b7); have I7 := Lib.hid (I6.out.below b7); have B7 := Lib.hid (B6.out.on b7); have R7 := Lib.hid (R6.out.below b7); clear r7 b7))
    have hs1 := C7.out.str
    have hs2 := D7.out.str
    have hs3 := I7.out.str
    have hs4 := R7.out.str
    go_wp2_with (go_at_call 9; (with_reducible refine (xawake_any _ (HX.out.below B7.out) (HU.out.below B7.out)).mono ?_); rintro e wa ⟨rfl, ba⟩; have Ba := Lib.hid (B7.out.on ba); clear ba)
    go_ret
    exact ⟨rfl, Ba.out⟩
  · rw [decide_eq_false hf] at HFW
    clear hf n1 w1 ht h2 hm
    go_enter Tryd.func3, Tryd.ntmps3
    go_wp2_with (first
      | (go_at_call 8; (with_reducible refine (HFW.out _).mono ?_); rintro e wf ⟨rfl, rfl⟩)
      | (go_at_call 9; (with_reducible refine (xawake_any _ (HX.out.below W1.out) (HU.out.below W1.out)).mono ?_); rintro e wa ⟨rfl, ba⟩; have Ba := Lib.hid (W1.out.on ba); clear ba))
    go_ret
    exact ⟨rfl, Ba.out⟩
set_option maxRecDepth 100000 in
theorem reads (os : Os) {H : Type} (enc : TypeId × Value → H) : ∃ places, DataW.whole enc Tryd.prog ((World.doorLaid Tryd.prog 400 os).forCall (fun _ _ => 0) ⟨#[], #[.agg (row8 (List.replicate 64 0)).toArray, .int .u64 0, .slice none 0 0], []⟩).memory Tryd.f3.params.toList Rows.xtsSealsSpec.vars false (#[.agg (row8 (List.replicate 64 0)).toArray, .int .u64 0, .slice none 0 0] : Array Value).toList 8 = some ([litG 2 32 (List.replicate 64 0), .lit (.int .u64 0), .nil], [], places) :=
  ⟨[], by kernel_rfl⟩
set_option linter.unusedVariables false in
set_option maxHeartbeats 1000000 in
set_option maxRecDepth 100000 in
theorem lifted (os : Os) (started : os.Started) (H : Type) (enc : TypeId × Value → H) (F : Stop.Interp) :
    ReturnsInHanded {} Tryd.checked os 3 .any ((OpenSpec.ofChange Rows.xtsSealsSpec).preRow enc Tryd.prog Tryd.f3 Rows.xtsSealsRow.domain false laidXUA) (((OpenSpec.ofChange Rows.xtsSealsSpec).at F).post enc Tryd.prog Tryd.f3 false true false false) := by
  obtain ⟨places, hx⟩ := reads os enc
  refine returnsInHanded_of_row (C := Tryd.checked) (s := OpenSpec.ofChange Rows.xtsSealsSpec) own started (by kernel_rfl) Tryd.func3
    (witness_row_atRef (enc := enc) (C := Tryd.checked) false (World.doorLaid Tryd.prog 400 os) #[.agg (row8 (List.replicate 64 0)).toArray, .int .u64 0, .slice none 0 0] rfl (by kernel_rfl) (by kernel_rfl) (by kernel_rfl)
      (OpenSpec.preRow_of_cond 8 hx (by kernel_rfl) (fun k hk => by cases hk) (by kernel_rfl) (doorXUA_met os _))) ?_
  intro W base args ds gs before hval0 hW _ hcond hsz0 hL _ _
  have hsz : (DataW.weightsEach Tryd.prog (Tryd.f3.params.toList ++ Rows.xtsSealsSpec.plain.varTypes Tryd.prog) (ds ++ gs)).all (· ≤ reachBytes) = true := hsz0
  clear hsz0
  have hval : ∀ (j : Nat) t v, Tryd.f3.params[j]? = some t → args[j]? = some v → Value.okWide Tryd.prog W .any base t v := hval0
  have hW' := hW
  obtain ⟨p, q, hA0, hV, rfl, _, _⟩ := hW
  have hA : DataW.TrodAll enc Tryd.prog W 0 (fun _ => true) true Tryd.f3.params.toList args.toList ds p := hA0
  rw [Tryd.params3] at hA hval hsz
  obtain ⟨v0, vs0, d0, ds0, p0, q0, hargs, rfl, rfl, g0, r0⟩ := trodAll_cons hA
  obtain ⟨v1, vs1, d1, ds1, p1, q1, rfl, rfl, rfl, g1, r1⟩ := trodAll_cons r0
  obtain ⟨v2, vs2, d2, ds2, p2, q2, rfl, rfl, rfl, g2, r2⟩ := trodAll_cons r1
  obtain ⟨rfl, rfl, rfl⟩ := trodAll_nil r2
  obtain rfl : args = #[v0, v1, v2] := by cases args; simp_all
  obtain ⟨rfl, rfl⟩ := trodVars_none hV
  obtain ⟨l0, h0, rfl, rfl, rfl⟩ := open_grid Tryd.underlying24 Tryd.underlying23 Tryd.underlying5 cells5 cells23 (hval 0 24 v0 rfl rfl) cells24 g0
  obtain ⟨a1, rfl, rfl, rfl, w1⟩ := open_int Tryd.underlying25 (hval 1 25 v1 rfl rfl) g1
  obtain ⟨l2, h2⟩ := open_bytes (hval 2 26 v2 rfl rfl) g2 (fun elems spare e => sized_slice hsz (j := 2) (t := 26) (e := 5) rfl (by rw [← e]; rfl) Tryd.underlying26)
  clear hA0 hval0
  have hlt := hW'.lt
  refine (walk W (tabsXUA_of_laid hL) l0 h0 a1 w1 v2 l2 h2).mono fun e W' ⟨he, hb⟩ => ?_
  subst he
  have hargs : DataW.TrodAll enc Tryd.prog W' 0 (fun b => decide (b < W.heap.size)) true _ _ _ _ := (trodAll_cons_mk (shut_grid Tryd.underlying24 Tryd.underlying23 Tryd.underlying5 cells5 cells23 cells24 h0) (trodAll_cons_mk (shut_int Tryd.underlying25 w1) (trodAll_cons_mk (Below.trod laidOut (by kernel_rfl) (of_decide_eq_true (by kernel_rfl)) g2 hb (fun x hx => hlt x (by simp [hx]))) trodAll_mk0)))
  simp only [List.append_nil] at hW' hargs
  exact ⟨_, rfl, post_law hW' (trodAll_cons_mk (shut_bool Tryd.underlying4 _) trodAll_mk0) hargs rfl hb⟩

theorem over : Rows.xtsSealsRow.holds Tryd.pinned (OpenSpec.ofChange Rows.xtsSealsSpec) :=
  OpenClaim.holds_of_cond 3 Tryd.f3 rfl rfl rfl rfl rfl rfl rfl ⟨rfl, rfl, rfl, rfl, rfl⟩ rfl rfl rfl rfl rfl (by kernel_rfl) Tryd.func3 (by kernel_rfl)
    (of_decide_eq_true (by kernel_rfl)) (by unfold Func.isWrapper; first | (rw [if_pos (by decide +kernel)]; kernel_rfl) | (rw [if_neg (by decide +kernel)]; exact ⟨rfl, rfl⟩))
    (fun os started H enc _ F => by rw [OpenClaim.pre_eq_preRow]; exact lifted os started H enc F)

/-- The given statement. -/
theorem proved : Rows.XtsSealsCardSaid :=
  Claim7.holds_tied_plain_at .later [] _ _ _ _
    over (fun _ h => by cases h) (by kernel_rfl) (fun _ h => by cases h) xtsSeals_row_tie rfl ⟨rfl, rfl⟩ (by kernel_rfl) rfl
    (fun f fn hf hfn => by
      obtain rfl : f = 3 := Option.some.inj ((show Tryd.prog.funcNamed "reliquary/reliquarylaw07.XtsSeals" = some 3 by kernel_rfl).symm.trans hf) |>.symm
      obtain rfl : fn = Tryd.f3 := (Option.some.inj (Tryd.func3.symm.trans hfn)).symm
      exact ⟨by kernel_rfl, fun j t ht => by
        rw [Tryd.params3] at ht
        have hm : t ∈ [24, 25, 26] := by simpa using Array.mem_of_getElem? ht
        have hall : ([24, 25, 26].all fun u => !Tryd.prog.wantsStandIn u) = true := by kernel_rfl
        exact (show Tryd.prog.wantsStandIn t = false by simpa using List.all_eq_true.1 hall t hm)⟩)
    (by kernel_rfl)
end Go.Proofs.YtmidbmihadhgdaaDoor.xtsSeals

/- EntropyForks: a fork of a source draws what the source would, and changes nothing of it; of a source that is not there nothing is told; and the law's closed case holds. No condition but that the program's table holds its constants when the call begins. -/
import Derived.Test.YtdiljngokbfpcaaDoorRows
import Derived.Test.YtdiljngokbfpcaaDoorEntLaws
import Derived.Test.YtdiljngokbfpcaaDoorU16
import Derived.Test.YtdiljngokbfpcaaDoorShaC
import Derived.Test.YtdiljngokbfpcaaDoorTie
import Derived.Test.YtdiljngokbfpcaaDoorCards
import Derived.SevenTiedAt
import Derived.Test.YtdiljngokbfpcaaDoorMem
import Derived.WalkKit
import Derived.ProofKit
import Derived.OpenShut
import Derived.SizedLaws
import Derived.Carry
import Derived.Deep.DeepHandedRow
import Derived.Deep.DeepWitnessRowRef
namespace Go.Proofs.YtdiljngokbfpcaaDoor.entropyForks
open Go.ChangeShapes Go.WideShapes Go.ChangeAt Go.RowKit

theorem own : ownKnob Tryd.prog.godebug = none := by kernel_rfl
set_option linter.unusedVariables false in
set_option maxHeartbeats 4000000 in
set_option maxRecDepth 100000 in
theorem walk (w : World) (ht : TabP w) (v0 : Value) (l0 : List Nat) (h0 : Rd w v0 l0) (a1 : Int) (w1 : (Lit.int .u16 a1).wf = true) (a2 : Int) (w2 : (Lit.int .u16 a2).wf = true) :
    Calls Tryd.prog 5 #[v0, .int .u16 a1, .int .u16 a2] w fun e w' => e = .returned (.bool true) ∧ Below w.heap.size w w' := by
  obtain ⟨na, hna, rfl⟩ := u16_nat w1
  obtain ⟨nb, hnb, rfl⟩ := u16_nat w2
  obtain ⟨m, hm⟩ : ∃ m, m = na % 300 := ⟨_, rfl⟩
  obtain ⟨n, hn⟩ : ∃ n, n = nb % 300 := ⟨_, rfl⟩
  have hmI : ((na : Nat) : Int) % 300 = (m : Int) := by omega
  have hnI : ((nb : Nat) : Int) % 300 = (n : Int) := by omega
  have hm2 : m < 300 := by omega
  have hn2 : n < 300 := by omega
  obtain ⟨c, hc⟩ : ∃ c, c = m + n + n := ⟨_, rfl⟩
  have hcI : (m : Int) + 2 * (n : Int) = (c : Int) := by omega
  have HT := Lib.hid ht
  have HF := Lib.hid h0.fits
  have HN := Lib.hid (psnew_any l0 _ w h0 ht)
  obtain ⟨X, hX⟩ : ∃ X, X = EM.drawn l0 m n := ⟨_, rfl⟩
  obtain ⟨Z, hZ⟩ : ∃ X, X = EM.drawn l0 (m + n) n := ⟨_, rfl⟩
  have HX := Lib.hid hX
  have HZ := Lib.hid hZ
  have HC := Lib.hid hc
  have HAW := Lib.hid (fun W (hW : Below w.heap.size w W) => eawake_any W (ht.below hW))
  have XL := Lib.hid (show X.length = n by rw [hX]; exact EM.drawn_len _ _ _)
  clear hX hZ hc hm hn ht h0
  go_enter Tryd.func5, Tryd.ntmps5
  go_upto_region 2 with (fail)
  rw [hmI, hnI]
  clear hmI hnI
  go_upto_region 5 with (first
    | (go_at_call 7; refine HN.out.mono ?_; rintro e w2 ⟨x, g, hx, hg, rfl, s2, b2⟩; have GX := Lib.hid hx; have GG := Lib.hid hg; have S2 := Lib.hid s2; have B2 := Lib.hid b2; have HD := Lib.hid (pdraw_own m (by omega) (by omega) HF.out S2.out (HT.out.below B2.out) B2.out GX.out); rw [Nat.zero_add] at HD; clear hx hg s2 b2)
    | (go_at_call 8; (with_reducible refine HD.out.mono ?_); rintro e w3 ⟨a3, c3, rfl, o3, s3, g3, b3⟩; have S3 := Lib.hid s3; have B3 := Lib.hid b3; have HK := Lib.hid (psfork_any w3 x g l0 m S3.out); clear o3 s3 g3 b3 HD)
    | (go_at_call 12; (with_reducible refine HK.out.mono ?_); rintro e w4 ⟨y, f, hy, hf, rfl, s4, b4⟩; have GY := Lib.hid hy; have GF := Lib.hid hf; have F4 := Lib.hid s4; have S4 := Lib.hid (S3.out.below b4); have B4 := Lib.hid (B3.out.on b4); have hx3 := S3.out.blk.lt; have hg3 := S3.out.inn.lt; have hs3 := B3.out.size; clear hy hf s4 b4 HK))
  have hy4 := F4.out.blk.lt
  have hf4 := F4.out.inn.lt
  have hgx := GX.out
  have hgy := GY.out
  have hgf := GF.out
  have hgg := GG.out
  have HXY := Lib.hid (show x ≠ y by omega)
  have HGY := Lib.hid (show g ≠ y by omega)
  have HYX := Lib.hid (show y ≠ x by omega)
  have HFX := Lib.hid (show f ≠ x by omega)
  have HX4 := Lib.hid (show x < w4.heap.size by omega)
  have HY4 := Lib.hid hy4
  have HWY := Lib.hid (show w.heap.size ≤ y by omega)
  have HD5 := Lib.hid (pdraw_own n (by omega) (by omega) HF.out F4.out (HT.out.below B4.out) B4.out HWY.out)
  rw [← HX.out] at HD5
  clear hx3 hg3 hs3 hy4 hf4 hgx hgy hgf hgg
  go_upto_region 10 with (first
    | (go_at_call 8; (with_reducible refine HD5.out.mono ?_); rintro e w5 ⟨a5, c5, rfl, o5, s5, g5, b5⟩; have O5 := Lib.hid o5; have F5 := Lib.hid s5; have S5 := Lib.hid (S4.out.grown g5 (fun e => HXY.out (Option.some.inj e)) (fun e => HGY.out (Option.some.inj e))); have B5 := Lib.hid b5; have Z5 := Lib.hid g5.size; have HD6 := Lib.hid (pdraw_own n (by omega) (by omega) HF.out S5.out (HT.out.below B5.out) B5.out GX.out); rw [← HX.out] at HD6; clear o5 s5 g5 b5 HD5)
    | (go_at_call 8; (with_reducible refine HD6.out.mono ?_); rintro e w6 ⟨a6, c6, rfl, o6, s6, g6, b6⟩; have O6 := Lib.hid o6; have S6 := Lib.hid s6; have F6 := Lib.hid (F5.out.grown g6 (fun e => HYX.out (Option.some.inj e)) (fun e => HFX.out (Option.some.inj e))); have P6 := Lib.hid (O5.out.keep g6 (.inr fun e => by have := (O5.out.from _ e).1; have := HX4.out; omega)); have B6 := Lib.hid b6; have Z6 := Lib.hid (Nat.le_trans Z5.out g6.size); have HD7 := Lib.hid (pdraw_own n (by omega) (by omega) HF.out S6.out (HT.out.below B6.out) B6.out GX.out); rw [← HZ.out, ← HC.out] at HD7; clear o6 s6 g6 b6 HD6)
    | (go_at_call 8; (with_reducible refine HD7.out.mono ?_); rintro e w7 ⟨a7, c7, rfl, o7, s7, g7, b7⟩; have O7 := Lib.hid o7; have S7 := Lib.hid s7; have F7 := Lib.hid (F6.out.grown g7 (fun e => HYX.out (Option.some.inj e)) (fun e => HFX.out (Option.some.inj e))); have P7 := Lib.hid (P6.out.keep g7 (.inr fun e => by have := (P6.out.from _ e).1; have := HX4.out; omega)); have Q7 := Lib.hid (O6.out.keep g7 (.inr fun e => by have := (O6.out.from _ e).1; have := HX4.out; have := Z5.out; omega)); have B7 := Lib.hid b7; have Z7 := Lib.hid (Nat.le_trans Z6.out g7.size); have HD8 := Lib.hid (pdraw_own n (by omega) (by omega) HF.out F7.out (HT.out.below B7.out) B7.out HWY.out); rw [← HZ.out, ← HC.out] at HD8; clear o7 s7 g7 b7 HD7)
    | (go_at_call 8; (with_reducible refine HD8.out.mono ?_); rintro e w8 ⟨a8, c8, rfl, o8, s8, g8, b8⟩; have O8 := Lib.hid o8; have F8 := Lib.hid s8; have S8 := Lib.hid (S7.out.grown g8 (fun e => HXY.out (Option.some.inj e)) (fun e => HGY.out (Option.some.inj e))); have P8 := Lib.hid (P7.out.keep g8 (.inr fun e => by have := (P7.out.from _ e).1; have := HY4.out; omega)); have Q8 := Lib.hid (Q7.out.keep g8 (.inr fun e => by have := (Q7.out.from _ e).1; have := HY4.out; have := Z5.out; omega)); have R8 := Lib.hid (O7.out.keep g8 (.inr fun e => by have := (O7.out.from _ e).1; have := HY4.out; have := Z6.out; omega)); have B8 := Lib.hid b8; clear o8 s8 g8 b8 HD8))
  have HDN := Lib.hid (pdraw_nil w8 (n : Int))
  go_wp2_with (first
    | (go_at_call 8; (with_reducible refine HDN.out.mono ?_); rintro e w9 ⟨rfl, b9⟩; have k1 := (P8.out.below b9).rd.str; have k2 := (Q8.out.below b9).rd.str; have k3 := (R8.out.below b9).rd.str; have k4 := (O8.out.below b9).rd.str; have S9 := Lib.hid (S8.out.below b9); have F9 := Lib.hid (F8.out.below b9); have B9 := Lib.hid (B8.out.on b9); clear b9 HDN)
    | (go_at_call 10; (with_reducible refine (pstaken_any w9 x g l0 c S9.out).mono ?_); rintro e w10 ⟨rfl, hq⟩; rw [hq]; clear hq w10)
    | (go_at_call 10; (with_reducible refine (pstaken_any w9 y f l0 c F9.out).mono ?_); rintro e w10 ⟨rfl, hq⟩; rw [hq]; clear hq w10)
    | (go_at_call 10; (with_reducible refine (pstaken_nil w9).mono ?_); rintro e w10 ⟨rfl, hq⟩; rw [hq]; clear hq w10)
    | (go_at_call 12; (with_reducible refine (psfork_nil w9).mono ?_); rintro e w10 ⟨rfl, hq⟩; rw [hq]; clear hq w10)
    | (go_at_call 6; (with_reducible refine (HAW.out w9 B9.out).mono ?_); rintro e w11 ⟨rfl, b11⟩; have B11 := Lib.hid (B9.out.on b11); clear b11))
  go_ret
  exact ⟨rfl, B11.out⟩
set_option maxRecDepth 100000 in
theorem reads (os : Os) {H : Type} (enc : TypeId × Value → H) : ∃ places, DataW.whole enc Tryd.prog ((World.doorLaid Tryd.prog 400 os).forCall (fun _ _ => 0) ⟨#[], #[.slice none 0 0, .int .u16 0, .int .u16 0], []⟩).memory Tryd.f5.params.toList Rows.entropyForksSpec.vars false (#[.slice none 0 0, .int .u16 0, .int .u16 0] : Array Value).toList 8 = some ([.nil, .lit (.int .u16 0), .lit (.int .u16 0)], [], places) :=
  ⟨[], by kernel_rfl⟩
set_option linter.unusedVariables false in
set_option maxHeartbeats 1000000 in
set_option maxRecDepth 100000 in
theorem lifted (os : Os) (started : os.Started) (H : Type) (enc : TypeId × Value → H) (F : Stop.Interp) :
    ReturnsInHanded {} Tryd.checked os 5 .any ((OpenSpec.ofChange Rows.entropyForksSpec).preRow enc Tryd.prog Tryd.f5 Rows.entropyForksRow.domain false laidP) (((OpenSpec.ofChange Rows.entropyForksSpec).at F).post enc Tryd.prog Tryd.f5 false true false false) := by
  obtain ⟨places, hx⟩ := reads os enc
  refine returnsInHanded_of_row (C := Tryd.checked) (s := OpenSpec.ofChange Rows.entropyForksSpec) own started (by kernel_rfl) Tryd.func5
    (witness_row_atRef (enc := enc) (C := Tryd.checked) false (World.doorLaid Tryd.prog 400 os) #[.slice none 0 0, .int .u16 0, .int .u16 0] rfl (by kernel_rfl) (by kernel_rfl) (by kernel_rfl)
      (OpenSpec.preRow_of_cond 8 hx (by kernel_rfl) (fun k hk => by cases hk) (by kernel_rfl) (doorP_met os _))) ?_
  intro W base args ds gs before hval0 hW _ hcond hsz0 hL _ _
  have hsz : (DataW.weightsEach Tryd.prog (Tryd.f5.params.toList ++ Rows.entropyForksSpec.plain.varTypes Tryd.prog) (ds ++ gs)).all (· ≤ reachBytes) = true := hsz0
  clear hsz0
  have hval : ∀ (j : Nat) t v, Tryd.f5.params[j]? = some t → args[j]? = some v → Value.okWide Tryd.prog W .any base t v := hval0
  have hW' := hW
  obtain ⟨p, q, hA0, hV, rfl, _, _⟩ := hW
  have hA : DataW.TrodAll enc Tryd.prog W 0 (fun _ => true) true Tryd.f5.params.toList args.toList ds p := hA0
  rw [Tryd.params5] at hA hval hsz
  obtain ⟨v0, vs0, d0, ds0, p0, q0, hargs, rfl, rfl, g0, r0⟩ := trodAll_cons hA
  obtain ⟨v1, vs1, d1, ds1, p1, q1, rfl, rfl, rfl, g1, r1⟩ := trodAll_cons r0
  obtain ⟨v2, vs2, d2, ds2, p2, q2, rfl, rfl, rfl, g2, r2⟩ := trodAll_cons r1
  obtain ⟨rfl, rfl, rfl⟩ := trodAll_nil r2
  obtain rfl : args = #[v0, v1, v2] := by cases args; simp_all
  obtain ⟨rfl, rfl⟩ := trodVars_none hV
  obtain ⟨l0, h0⟩ := open_bytes (hval 0 22 v0 rfl rfl) g0 (fun elems spare e => sized_slice hsz (j := 0) (t := 22) (e := 5) rfl (by rw [← e]; rfl) Tryd.underlying22)
  obtain ⟨a1, rfl, rfl, rfl, w1⟩ := open_int Tryd.underlying37 (hval 1 37 v1 rfl rfl) g1
  obtain ⟨a2, rfl, rfl, rfl, w2⟩ := open_int Tryd.underlying37 (hval 2 37 v2 rfl rfl) g2
  clear hA0 hval0
  have hlt := hW'.lt
  refine (walk W (tabP_of_laid hL) v0 l0 h0 a1 w1 a2 w2).mono fun e W' ⟨he, hb⟩ => ?_
  subst he
  have hargs : DataW.TrodAll enc Tryd.prog W' 0 (fun b => decide (b < W.heap.size)) true _ _ _ _ := (trodAll_cons_mk (Below.trod laidOut (by kernel_rfl) (of_decide_eq_true (by kernel_rfl)) g0 hb (fun x hx => hlt x (by simp [hx]))) (trodAll_cons_mk (shut_int Tryd.underlying37 w1) (trodAll_cons_mk (shut_int Tryd.underlying37 w2) trodAll_mk0)))
  simp only [List.append_nil] at hW' hargs
  exact ⟨_, rfl, post_law hW' (trodAll_cons_mk (shut_bool Tryd.underlying4 _) trodAll_mk0) hargs rfl hb⟩

theorem over : Rows.entropyForksRow.holds Tryd.pinned (OpenSpec.ofChange Rows.entropyForksSpec) :=
  OpenClaim.holds_of_cond 5 Tryd.f5 rfl rfl rfl rfl rfl rfl rfl ⟨rfl, rfl, rfl, rfl, rfl⟩ rfl rfl rfl rfl rfl (by kernel_rfl) Tryd.func5 (by kernel_rfl)
    (of_decide_eq_true (by kernel_rfl)) (by unfold Func.isWrapper; first | (rw [if_pos (by decide +kernel)]; kernel_rfl) | (rw [if_neg (by decide +kernel)]; exact ⟨rfl, rfl⟩))
    (fun os started H enc _ F => by rw [OpenClaim.pre_eq_preRow]; exact lifted os started H enc F)

/-- The given statement. -/
theorem proved : Rows.EntropyForksCardSaid :=
  Claim7.holds_tied_plain_at .later [] _ _ _ _
    over (fun _ h => by cases h) (by kernel_rfl) (fun _ h => by cases h) entropyForks_row_tie rfl ⟨rfl, rfl⟩ (by kernel_rfl) rfl
    (fun f fn hf hfn => by
      obtain rfl : f = 5 := Option.some.inj ((show Tryd.prog.funcNamed "reliquary/reliquarylaw09.EntropyForks" = some 5 by kernel_rfl).symm.trans hf) |>.symm
      obtain rfl : fn = Tryd.f5 := (Option.some.inj (Tryd.func5.symm.trans hfn)).symm
      exact ⟨by kernel_rfl, fun j t ht => by
        rw [Tryd.params5] at ht
        have hm : t ∈ [22, 37, 37] := by simpa using Array.mem_of_getElem? ht
        have hall : ([22, 37, 37].all fun u => !Tryd.prog.wantsStandIn u) = true := by kernel_rfl
        exact (show Tryd.prog.wantsStandIn t = false by simpa using List.all_eq_true.1 hall t hm)⟩)
    (by kernel_rfl)
end Go.Proofs.YtdiljngokbfpcaaDoor.entropyForks

/- KdfLong: for any passphrase and salt: a passphrase of more than 64 bytes is as good as its sum, and one of more than 512 is none; and the law's closed case holds. No condition but that the program's table holds its constants when the call begins. -/
import Derived.Test.YteklchmbeiclcaaDoorRows
import Derived.Test.YteklchmbeiclcaaDoorKdfLaws
import Derived.Test.YteklchmbeiclcaaDoorShaC
import Derived.Test.YteklchmbeiclcaaDoorTie
import Derived.Test.YteklchmbeiclcaaDoorCards
import Derived.SevenTiedAt
import Derived.Test.YteklchmbeiclcaaDoorMem
import Derived.WalkKit
import Derived.ProofKit
import Derived.OpenShut
import Derived.SizedLaws
import Derived.Carry
import Derived.Deep.DeepHandedRow
import Derived.Deep.DeepWitnessRowRef
namespace Go.Proofs.YteklchmbeiclcaaDoor.kdfLong
open Go.ChangeShapes Go.WideShapes Go.ChangeAt Go.RowKit

theorem own : ownKnob Tryd.prog.godebug = none := by kernel_rfl
set_option linter.unusedVariables false in
set_option maxHeartbeats 4000000 in
set_option maxRecDepth 100000 in
theorem walk (w : World) (ht : TabP w) (v0 : Value) (l0 : List Nat) (h0 : Rd w v0 l0) (v1 : Value) (l1 : List Nat) (h1 : Rd w v1 l1) (a2 : Int) (w2 : (Lit.int .u8 a2).wf = true) :
    Calls Tryd.prog 7 #[v0, v1, .int .u8 a2] w fun e w' => e = .returned (.bool true) ∧ Below w.heap.size w w' := by
  obtain ⟨n2, hn2, rfl⟩ : ∃ n : Nat, n < 256 ∧ a2 = (n : Int) := by
    have k : 0 ≤ a2 ∧ a2 ≤ 255 := by simpa [Lit.wf, IntKind.min, IntKind.max, IntKind.signed, IntKind.bits] using w2
    exact ⟨a2.toNat, by omega, by omega⟩
  obtain ⟨a0, c0, rfl, _⟩ := h0.shape
  obtain ⟨a1, c1, rfl, _⟩ := h1.shape
  have q0 := h0.fits
  have HT := Lib.hid ht
  have HK := Lib.hid h0
  have HV := Lib.hid h1
  obtain ⟨E, hE⟩ : ∃ E, E = SM.kerr l0 l1 (1 + (n2 : Int) % 8) 40 := ⟨_, rfl⟩
  obtain ⟨X, hX⟩ : ∃ X, X = SM.kres l0 l1 (1 + (n2 : Int) % 8) 40 := ⟨_, rfl⟩
  have HP := Lib.hid (kderive_any l0 l1 (1 + (n2 : Int) % 8) 40 _ _ w h0 h1 ht)
  rw [← hE, ← hX] at HP
  have HHE := Lib.hid hE
  have HHX := Lib.hid hX
  clear h0 h1 ht hE hX
  by_cases hlong : 512 < l0.length ∨ 1024 < l1.length
  · have hE5 : E = 5 := by rw [HHE.out]; unfold SM.kerr; rw [if_pos hlong]
    subst hE5
    have hX0 : X = [] := by rw [HHX.out, kres_no _ _ _ _ (by rw [← HHE.out]; decide)]
    subst hX0
    by_cases hp : 512 < l0.length
    · have hpI : (512 : Int) < (l0.length : Int) := by omega
      go_enter Tryd.func7, Tryd.ntmps7
      go_wp2_with (first
        | (go_at_call 10; (with_reducible refine HP.out.mono ?_); rintro e w2 ⟨x2, rfl, r2, b2⟩; obtain ⟨ax, cx, rfl, _⟩ := r2.shape; have B2 := Lib.hid b2; clear r2 b2)
        | (go_at_call 9; (with_reducible refine (kawake_any _ (HT.out.below B2.out)).mono ?_); rintro e w4 ⟨rfl, b4⟩; have B4 := Lib.hid (B2.out.on b4); clear b4))
      go_ret
      exact ⟨rfl, B4.out⟩
    · have hpI : ¬ (512 : Int) < (l0.length : Int) := by omega
      have hsI : (1024 : Int) < (l1.length : Int) := by omega
      go_enter Tryd.func7, Tryd.ntmps7
      go_wp2_with (first
        | (go_at_call 10; (with_reducible refine HP.out.mono ?_); rintro e w2 ⟨x2, rfl, r2, b2⟩; obtain ⟨ax, cx, rfl, _⟩ := r2.shape; have B2 := Lib.hid b2; clear r2 b2)
        | (go_at_call 9; (with_reducible refine (kawake_any _ (HT.out.below B2.out)).mono ?_); rintro e w4 ⟨rfl, b4⟩; have B4 := Lib.hid (B2.out.on b4); clear b4))
      go_ret
      exact ⟨rfl, B4.out⟩
  · have hE0 : E = 0 := by rw [HHE.out]; exact kerr_ok _ _ _ _ (by omega) (by omega) (by omega) (by omega) (by omega) (by omega)
    subst hE0
    have hX1 : X = SM.kder l0 l1 (1 + (n2 : Int) % 8).toNat 40 := by rw [HHX.out, kres_ok _ _ _ _ HHE.out.symm]; rfl
    have HXL := Lib.hid (show X.length = 40 by rw [hX1, SM.kder_len])
    have hpI : ¬ (512 : Int) < (l0.length : Int) := by omega
    have hsI : ¬ (1024 : Int) < (l1.length : Int) := by omega
    by_cases h64 : l0.length ≤ 64
    · have h6I : (l0.length : Int) ≤ 64 := by omega
      clear hX1
      go_enter Tryd.func7, Tryd.ntmps7
      go_wp2_with (first
        | (go_at_call 10; (with_reducible refine HP.out.mono ?_); rintro e w2 ⟨x2, rfl, r2, b2⟩; obtain ⟨ax, cx, rfl, _⟩ := r2.shape; have B2 := Lib.hid b2; rw [HXL.out]; clear r2 b2)
        | (go_at_call 9; (with_reducible refine (kawake_any _ (HT.out.below B2.out)).mono ?_); rintro e w4 ⟨rfl, b4⟩; have B4 := Lib.hid (B2.out.on b4); clear b4))
      go_ret
      exact ⟨rfl, B4.out⟩
    · have h6I : ¬ (l0.length : Int) ≤ 64 := by omega
      obtain ⟨S, hS⟩ : ∃ S, S = SM.sha l0 := ⟨_, rfl⟩
      have bS : Bytes 32 S := by rw [hS]; exact sha_bytes _
      have HX2 := Lib.hid (show SM.kres S l1 (1 + (n2 : Int) % 8) 40 = X by
        rw [kres_ok S l1 _ _ (kerr_ok _ _ _ _ (by rw [bS.1]; omega) (by omega) (by omega) (by omega) (by omega) (by omega)), hX1, hS]
        exact SM.kder_sum _ _ _ _ (by omega))
      have HE2 := Lib.hid (show SM.kerr S l1 (1 + (n2 : Int) % 8) 40 = 0 from kerr_ok _ _ _ _ (by rw [bS.1]; omega) (by omega) (by omega) (by omega) (by omega) (by omega))
      have S32 := Lib.hid (show (row8 S).length = 32 by rw [row8_len]; exact bS.1)
      have HBS := Lib.hid bS
      have HS := Lib.hid hS
      obtain ⟨D0, hD0⟩ : ∃ C0, C0 = row8 (List.replicate 32 0) := ⟨_, rfl⟩
      have hz : ∀ w, (zeroValue 39).run Tryd.prog w = .ok (.agg D0.toArray) w := by rw [hD0]; exact zeroSum
      have hd0 : D0.length = 32 := by rw [hD0, row8_len, List.length_replicate]
      clear hX1 hD0 bS hS
      go_enter Tryd.func7, Tryd.ntmps7
      go_wp2_with (first
        | (go_at_call 10; (with_reducible refine HP.out.mono ?_); rintro e w2 ⟨x2, rfl, r2, b2⟩; obtain ⟨ax, cx, rfl, _⟩ := r2.shape; have B2 := Lib.hid b2; have R2 := Lib.hid r2; have F2 := Lib.hid (fun b (hb : b = w2.heap.size) => of_one_at hb (HK.out.below b2) (HT.out.below b2) (by omega) HS.out); rw [HXL.out] at R2 ⊢; clear r2 b2)
        | (go_at_call 15; (with_reducible refine (F2.out _ rfl).mono ?_); rintro e w3 ⟨rfl, b3⟩; have B3 := Lib.hid (B2.out.on b3); have R3 := Lib.hid (R2.out.below b3); clear b3)
        | (refine wpList_store_blk rfl 39 (.tmp 10) (.tmp 57) rfl w3.heap.size 0 (row8 S) rfl rfl 39 D0 (Blk.new w3 39 D0 _ rfl) (by rw [S32.out, hd0]; exact Nat.le_refl _) (by rw [S32.out]; exact infoS) (row8_one _) ?_; intro w4 b4 g4; rw [splice_all _ _ (by rw [S32.out, hd0])] at b4; have B4 := Lib.hid (own_turn B3.out g4); have R4 := Lib.hid ((R3.out.alloc (.cells D0.toArray 39)).grown g4 (.inr (R3.out.old (by rw [HXL.out]; omega) _ (Nat.le_refl _)))); have s4 := blk_rd b4 HBS.out.2 (n := 32) (cap := 32) (by rw [HBS.out.1]; omega) (by omega) (by rw [HBS.out.1]; omega); rw [List.take_of_length_le (by rw [HBS.out.1]; omega)] at s4; have F4 := Lib.hid (kderive_any S l1 (1 + (n2 : Int) % 8) 40 _ _ w4 s4 (HV.out.below B4.out) (HT.out.below B4.out)); rw [HX2.out, HE2.out] at F4; clear b4 g4 s4)
        | (go_at_call 10; (with_reducible refine F4.out.mono ?_); rintro e w5 ⟨y5, rfl, r5, b5⟩; have B5 := Lib.hid (B4.out.on b5); have hs1 := r5.str; have hs2 := (R4.out.below b5).str; clear r5 b5)
        | (go_at_call 9; (with_reducible refine (kawake_any _ (HT.out.below B5.out)).mono ?_); rintro e w6 ⟨rfl, b6⟩; have B6 := Lib.hid (B5.out.on b6); clear b6))
      go_ret
      exact ⟨rfl, B6.out⟩
set_option maxRecDepth 100000 in
theorem reads (os : Os) {H : Type} (enc : TypeId × Value → H) : ∃ places, DataW.whole enc Tryd.prog ((World.doorLaid Tryd.prog 400 os).forCall (fun _ _ => 0) ⟨#[], #[.slice none 0 0, .slice none 0 0, .int .u8 0], []⟩).memory Tryd.f7.params.toList Rows.kdfLongSpec.vars false (#[.slice none 0 0, .slice none 0 0, .int .u8 0] : Array Value).toList 8 = some ([.nil, .nil, .lit (.int .u8 0)], [], places) :=
  ⟨[], by kernel_rfl⟩
set_option linter.unusedVariables false in
set_option maxHeartbeats 1000000 in
set_option maxRecDepth 100000 in
theorem lifted (os : Os) (started : os.Started) (H : Type) (enc : TypeId × Value → H) (F : Stop.Interp) :
    ReturnsInHanded {} Tryd.checked os 7 .any ((OpenSpec.ofChange Rows.kdfLongSpec).preRow enc Tryd.prog Tryd.f7 Rows.kdfLongRow.domain false laidP) (((OpenSpec.ofChange Rows.kdfLongSpec).at F).post enc Tryd.prog Tryd.f7 false true false false) := by
  obtain ⟨places, hx⟩ := reads os enc
  refine returnsInHanded_of_row (C := Tryd.checked) (s := OpenSpec.ofChange Rows.kdfLongSpec) own started (by kernel_rfl) Tryd.func7
    (witness_row_atRef (enc := enc) (C := Tryd.checked) false (World.doorLaid Tryd.prog 400 os) #[.slice none 0 0, .slice none 0 0, .int .u8 0] rfl (by kernel_rfl) (by kernel_rfl) (by kernel_rfl)
      (OpenSpec.preRow_of_cond 8 hx (by kernel_rfl) (fun k hk => by cases hk) (by kernel_rfl) (doorP_met os _))) ?_
  intro W base args ds gs before hval0 hW _ hcond hsz0 hL _ _
  have hsz : (DataW.weightsEach Tryd.prog (Tryd.f7.params.toList ++ Rows.kdfLongSpec.plain.varTypes Tryd.prog) (ds ++ gs)).all (· ≤ reachBytes) = true := hsz0
  clear hsz0
  have hval : ∀ (j : Nat) t v, Tryd.f7.params[j]? = some t → args[j]? = some v → Value.okWide Tryd.prog W .any base t v := hval0
  have hW' := hW
  obtain ⟨p, q, hA0, hV, rfl, _, _⟩ := hW
  have hA : DataW.TrodAll enc Tryd.prog W 0 (fun _ => true) true Tryd.f7.params.toList args.toList ds p := hA0
  rw [Tryd.params7] at hA hval hsz
  obtain ⟨v0, vs0, d0, ds0, p0, q0, hargs, rfl, rfl, g0, r0⟩ := trodAll_cons hA
  obtain ⟨v1, vs1, d1, ds1, p1, q1, rfl, rfl, rfl, g1, r1⟩ := trodAll_cons r0
  obtain ⟨v2, vs2, d2, ds2, p2, q2, rfl, rfl, rfl, g2, r2⟩ := trodAll_cons r1
  obtain ⟨rfl, rfl, rfl⟩ := trodAll_nil r2
  obtain rfl : args = #[v0, v1, v2] := by cases args; simp_all
  obtain ⟨rfl, rfl⟩ := trodVars_none hV
  obtain ⟨l0, h0⟩ := open_bytes (hval 0 22 v0 rfl rfl) g0 (fun elems spare e => sized_slice hsz (j := 0) (t := 22) (e := 5) rfl (by rw [← e]; rfl) Tryd.underlying22)
  obtain ⟨l1, h1⟩ := open_bytes (hval 1 22 v1 rfl rfl) g1 (fun elems spare e => sized_slice hsz (j := 1) (t := 22) (e := 5) rfl (by rw [← e]; rfl) Tryd.underlying22)
  obtain ⟨a2, rfl, rfl, rfl, w2⟩ := open_int Tryd.underlying5 (hval 2 5 v2 rfl rfl) g2
  clear hA0 hval0
  have hlt := hW'.lt
  refine (walk W (tabP_of_laid hL) v0 l0 h0 v1 l1 h1 a2 w2).mono fun e W' ⟨he, hb⟩ => ?_
  subst he
  have hargs : DataW.TrodAll enc Tryd.prog W' 0 (fun b => decide (b < W.heap.size)) true _ _ _ _ := (trodAll_cons_mk (Below.trod laidOut (by kernel_rfl) (of_decide_eq_true (by kernel_rfl)) g0 hb (fun x hx => hlt x (by simp [hx]))) (trodAll_cons_mk (Below.trod laidOut (by kernel_rfl) (of_decide_eq_true (by kernel_rfl)) g1 hb (fun x hx => hlt x (by simp [hx]))) (trodAll_cons_mk (shut_int Tryd.underlying5 w2) trodAll_mk0)))
  simp only [List.append_nil] at hW' hargs
  exact ⟨_, rfl, post_law hW' (trodAll_cons_mk (shut_bool Tryd.underlying4 _) trodAll_mk0) hargs rfl hb⟩

theorem over : Rows.kdfLongRow.holds Tryd.pinned (OpenSpec.ofChange Rows.kdfLongSpec) :=
  OpenClaim.holds_of_cond 7 Tryd.f7 rfl rfl rfl rfl rfl rfl rfl ⟨rfl, rfl, rfl, rfl, rfl⟩ rfl rfl rfl rfl rfl (by kernel_rfl) Tryd.func7 (by kernel_rfl)
    (of_decide_eq_true (by kernel_rfl)) (by unfold Func.isWrapper; first | (rw [if_pos (by decide +kernel)]; kernel_rfl) | (rw [if_neg (by decide +kernel)]; exact ⟨rfl, rfl⟩))
    (fun os started H enc _ F => by rw [OpenClaim.pre_eq_preRow]; exact lifted os started H enc F)

/-- The given statement. -/
theorem proved : Rows.KdfLongCardSaid :=
  Claim7.holds_tied_plain_at .later [] _ _ _ _
    over (fun _ h => by cases h) (by kernel_rfl) (fun _ h => by cases h) kdfLong_row_tie rfl ⟨rfl, rfl⟩ (by kernel_rfl) rfl
    (fun f fn hf hfn => by
      obtain rfl : f = 7 := Option.some.inj ((show Tryd.prog.funcNamed "reliquary/reliquarylaw05.KdfLong" = some 7 by kernel_rfl).symm.trans hf) |>.symm
      obtain rfl : fn = Tryd.f7 := (Option.some.inj (Tryd.func7.symm.trans hfn)).symm
      exact ⟨by kernel_rfl, fun j t ht => by
        rw [Tryd.params7] at ht
        have hm : t ∈ [22, 22, 5] := by simpa using Array.mem_of_getElem? ht
        have hall : ([22, 22, 5].all fun u => !Tryd.prog.wantsStandIn u) = true := by kernel_rfl
        exact (show Tryd.prog.wantsStandIn t = false by simpa using List.all_eq_true.1 hall t hm)⟩)
    (by kernel_rfl)
end Go.Proofs.YteklchmbeiclcaaDoor.kdfLong

/- XtsAlone: two sectors that are sealed together with any keys are sealed as each one alone, by its number; and the law's closed case holds. No condition but that the program's two tables hold their constants when the call begins. -/
import Derived.Test.YtmidbmihadhgdaaDoorRows
import Derived.Test.YtmidbmihadhgdaaDoorXtsLaws
import Derived.Deep.DeepCutAuto
import Derived.Test.YtmidbmihadhgdaaDoorDoorAes
import Derived.Test.YtmidbmihadhgdaaDoorTie
import Derived.Test.YtmidbmihadhgdaaDoorCards
import Derived.SevenTiedAt
import Derived.Test.YtmidbmihadhgdaaDoorGridArg
import Derived.Test.YtmidbmihadhgdaaDoorReads
import Derived.Test.YtmidbmihadhgdaaDoorOkLong
import Derived.Test.YtmidbmihadhgdaaDoorMem
import Derived.WalkKit
import Derived.ProofKit
import Derived.OpenShut
import Derived.SizedLaws
import Derived.Carry
import Derived.Deep.DeepHandedRow
import Derived.Deep.DeepWitnessRowRef
namespace Go.Proofs.YtmidbmihadhgdaaDoor.xtsAlone
open Go.ChangeShapes Go.WideShapes Go.ChangeAt Go.RowKit
open AM FM XM
theorem infoKeyX : (Tryd.prog.info? 23).map (·.size) = some 32 := by kernel_rfl
theorem row_part {L : List Nat} {m : Nat} (hL : L.length = m * 32) (i : Nat) (hi : i < m) (j : Nat) (v : Value) (h : (row8 (rowAt L 32 i))[j]? = some v) : (row8 L)[i * 32 + j]? = some v := by
  rw [row8_rowAt, List.getElem?_take] at h
  split at h
  · rw [List.getElem?_drop] at h; exact h
  · cases h
theorem bstr_app {a b : List Nat} (ha : ∀ k, gb a k < 256) (hb : ∀ k, gb b k < 256) : bstr a ++ bstr b = bstr (a ++ b) := by
  rw [← bstr_sb (bstr a ++ bstr b)]
  congr 1
  unfold sb
  rw [show (bstr a ++ bstr b).data.toList = (bstr a).data.toList ++ (bstr b).data.toList by simp, List.map_append]
  have h1 := sb_bstr a ha
  have h2 := sb_bstr b hb
  unfold sb at h1 h2
  rw [h1, h2]
theorem blk_part {w : World} {g : Nat} {t : TypeId} {l : List Nat} (h : Blk w g t (row8 l)) (hb : ∀ k, gb l k < 256) (hf : l.length ≤ 140737488355328) (o n cap : Nat) (hn : o + n ≤ l.length) (hc : n ≤ cap) : Rd w (.slice (some ⟨g, o, none⟩) n cap) ((l.drop o).take n) := by
  have hl : ((l.drop o).take n).length = n := by rw [List.length_take, List.length_drop]; omega
  refine ⟨gb_take_byte _ _ (fun j => by rw [gb_drop]; exact hb _), by rw [hl]; omega, .inr ⟨_, cap, by rw [hl], by rw [hl]; exact hc, fun j hj => ?_⟩⟩
  rw [hl] at hj
  rw [Addr.add_mid, gb_take _ _ _ hj, gb_drop]
  exact h.cell (o + j) _ (row8_val l _ (by omega))
theorem own : ownKnob Tryd.prog.godebug = none := by kernel_rfl
theorem cells23 : Tryd.prog.cellsOf 23 = 32 := by kernel_rfl
theorem cells24 : Tryd.prog.cellsOf 24 = 64 := by kernel_rfl
theorem cells42 : Tryd.prog.cellsOf 42 = 1024 := by kernel_rfl
theorem cells5 : Tryd.prog.cellsOf 5 = 1 := by kernel_rfl
set_option linter.unusedVariables false in
set_option maxHeartbeats 4000000 in
set_option maxRecDepth 100000 in
theorem walk (w : World) (ht : TabX w ∧ TabU w) (l0 : List Nat) (h0 : Bytes (2 * 32) l0) (a1 : Int) (w1 : (Lit.int .u64 a1).wf = true) (l2 : List Nat) (h2 : Bytes 1024 l2) :
    Calls Tryd.prog 6 #[.agg (row8 l0).toArray, .int .u64 a1, .agg (row8 l2).toArray] w fun e w' => e = .returned (.bool true) ∧ Below w.heap.size w w' := by
  obtain ⟨n, hn, rfl⟩ : ∃ n : Nat, n < 2 ^ 64 ∧ a1 = (n : Int) := by
    have k : 0 ≤ a1 ∧ a1 ≤ 18446744073709551615 := by simpa [Lit.wf, IntKind.min, IntKind.max, IntKind.signed, IntKind.bits] using w1
    exact ⟨a1.toNat, by omega, by omega⟩
  obtain ⟨K, hK⟩ : ∃ K, K = rowAt l0 32 0 := ⟨_, rfl⟩
  obtain ⟨L, hL⟩ : ∃ L, L = rowAt l0 32 1 := ⟨_, rfl⟩
  have bK : Bytes 32 K := by rw [hK]; exact rowAt_bytes h0 0 (by omega)
  have bL : Bytes 32 L := by rw [hL]; exact rowAt_bytes h0 1 (by omega)
  obtain ⟨A, hA⟩ : ∃ A, A = xseal (keys K) (keys L) n l2 := ⟨_, rfl⟩
  obtain ⟨F, hF⟩ : ∃ F, F = xseal (keys K) (keys L) n (l2.take 512) := ⟨_, rfl⟩
  obtain ⟨G, hG⟩ : ∃ G, G = xseal (keys K) (keys L) ((n + 1) % 2 ^ 64) (l2.drop 512) := ⟨_, rfl⟩
  have hFG : A = F ++ G := by rw [hA, hF, hG]; exact xseal_two _ _ n l2 h2.1
  have bF : ∀ k, gb F k < 256 := by rw [hF]; exact sealTo_byte (keys_bytes bK) (keys_bytes bL) n _ _
  have bG : ∀ k, gb G k < 256 := by rw [hG]; exact sealTo_byte (keys_bytes bK) (keys_bytes bL) _ _ _
  have hstr : bstr F ++ bstr G = bstr A := by rw [hFG]; exact bstr_app bF bG
  have h1L : l2.length = 1024 := h2.1
  have h2L : (l2.take 512).length = 512 := by rw [List.length_take, h1L]; omega
  have h3L : (l2.drop 512).length = 512 := by rw [List.length_drop, h1L]
  have hFl : F.length = 512 := by rw [hF]; unfold xseal; rw [sealTo_len (keys_bytes bK) (keys_bytes bL), h2L]
  have hGl : G.length = 512 := by rw [hG]; unfold xseal; rw [sealTo_len (keys_bytes bK) (keys_bytes bL), h3L]
  have hfs : (bstr F).size = 512 := by rw [bstr_size, hFl]
  have hgs : (bstr G).size = 512 := by rw [bstr_size, hGl]
  have hadd := fun W => run_string_add (P := Tryd.prog) (w := W) (bstr F) (bstr G) (by rw [hfs]; omega) (by rw [hgs]; omega)
  rw [hstr] at hadd
  have x1 : xerr 1024 = 0 := by decide
  have x2 : xerr 512 = 0 := by decide
  have w1 := (Below.refl w.heap.size w).alloc (Nat.le_refl _) (.cells (row8 l0).toArray 24)
  have w2 := w1.alloc w1.size (.cells (row8 l2).toArray 42)
  have n1 := (Blk.new w 24 (row8 l0) _ rfl).alloc (.cells (row8 l2).toArray 42)
  have n2 := Blk.new (w.alloc (.cells (row8 l0).toArray 24)) 42 (row8 l2) (w.heap.size + 1) (by simp)
  have P0 := Lib.hid (range_part n1 0 (row8 K) (fun j v hv => by rw [hK] at hv; have := row_part h0.1 0 (by omega) j v hv; simpa using this))
  have P1 := Lib.hid (range_part n1 32 (row8 L) (fun j v hv => by rw [hL] at hv; have := row_part h0.1 1 (by omega) j v hv; simpa using this))
  have r1 := blk_part n2 h2.2 (by omega) 0 1024 1024 (by omega) (by omega)
  have r2 := blk_part n2 h2.2 (by omega) 0 512 1024 (by omega) (by omega)
  have r3 := blk_part n2 h2.2 (by omega) 512 512 512 (by omega) (by omega)
  rw [List.drop_zero, List.take_of_length_le (by omega)] at r1
  rw [List.drop_zero] at r2
  rw [List.take_of_length_le (by omega)] at r3
  have RA := Lib.hid r1
  have RF := Lib.hid r2
  have RG := Lib.hid r3
  have K32 := Lib.hid (show (row8 K).length = 32 by rw [row8_len]; exact bK.1)
  have L32 := Lib.hid (show (row8 L).length = 32 by rw [row8_len]; exact bL.1)
  have HNW := Lib.hid (xt_new K L bK bL _ (ht.1.below w2))
  have HX := Lib.hid ht.1
  have HU := Lib.hid ht.2
  have W1 := Lib.hid w2
  have HN := Lib.hid hn
  have HX1 := Lib.hid x1
  have HX2 := Lib.hid x2
  have H1L := Lib.hid h1L
  have H2L := Lib.hid h2L
  have H3L := Lib.hid h3L
  have HA := Lib.hid hA
  have HF := Lib.hid hF
  have HG := Lib.hid hG
  have hiw : IntKind.u64.wrap ((n : Int) + 1) = (((n + 1) % 2 ^ 64 : Nat) : Int) := by rw [IntKind.wrap_u64]; omega
  obtain ⟨q, hq⟩ : ∃ q, q = (n + 1) % 2 ^ 64 := ⟨_, rfl⟩
  have HQ := Lib.hid (show q < 2 ^ 64 by rw [hq]; exact Nat.mod_lt _ (by decide))
  rw [← hq] at hiw HG
  have HAL := Lib.hid (show A.length = 1024 by rw [hFG, List.length_append, hFl, hGl])
  have HFL := Lib.hid hFl
  have HGL := Lib.hid hGl
  clear hK hL bK bL hA hF hG hFG bF bG hstr h1L h2L h3L hFl hGl hfs hgs x1 x2 w1 w2 n1 n2 r1 r2 r3 ht hq
  go_enter Tryd.func6, Tryd.ntmps6
  go_upto_region 5 with (first
    | (refine wpList_load_mid rfl 23 (.tmp 14) rfl w.heap.size 0 rfl (row8 K) _ P0.out Tryd.underlying23 rfl (by rw [K32.out]; exact infoKeyX) ?_)
    | (refine wpList_load_mid rfl 23 (.tmp 16) rfl w.heap.size 32 rfl (row8 L) _ P1.out Tryd.underlying23 rfl (by rw [L32.out]; exact infoKeyX) ?_)
    | (go_at_call 10; (with_reducible refine HNW.out.mono ?_); rintro e w3 ⟨x, hxw, rfl, x3, b3⟩; have X3 := Lib.hid x3; have B3 := Lib.hid (W1.out.on b3); have RA3 := Lib.hid (RA.out.below b3); have RF3 := Lib.hid (RF.out.below b3); have RG3 := Lib.hid (RG.out.below b3); have s3 := xt_seal x K L n HN.out _ _ w3 RA3.out x3 (HX.out.below B3.out); rw [H1L.out, HX1.out, if_pos rfl, ← HA.out] at s3; have S3 := Lib.hid s3; clear hxw x3 b3 s3)
    | (go_at_call 11; (with_reducible refine S3.out.mono ?_); rintro e w4 ⟨y4, rfl, r4, b4⟩; obtain ⟨a4, c4, rfl, _⟩ := r4.shape; rw [HAL.out] at r4 ⊢; have X4 := Lib.hid (X3.out.below b4); have B4 := Lib.hid (B3.out.on b4); have C4 := Lib.hid r4; have RG4 := Lib.hid (RG3.out.below b4); have s4 := xt_seal x K L n HN.out _ _ w4 (RF3.out.below b4) X4.out (HX.out.below B4.out); rw [H2L.out, HX2.out, if_pos rfl, ← HF.out] at s4; have S4 := Lib.hid s4; clear r4 b4 s4)
    | (go_at_call 11; (with_reducible refine S4.out.mono ?_); rintro e w5 ⟨y5, rfl, r5, b5⟩; obtain ⟨a5, c5, rfl, _⟩ := r5.shape; rw [HFL.out] at r5 ⊢; have X5 := Lib.hid (X4.out.below b5); have B5 := Lib.hid (B4.out.on b5); have C5 := Lib.hid (C4.out.below b5); have D5 := Lib.hid r5; have s5 := xt_seal x K L q HQ.out _ _ w5 (RG4.out.below b5) X5.out (HX.out.below B5.out); rw [H3L.out, HX2.out, if_pos rfl, ← HG.out] at s5; have S5 := Lib.hid s5; clear r5 b5 s5)
    | (go_at_call 11; (with_reducible refine S5.out.mono ?_); rintro e w6 ⟨y6, rfl, r6, b6⟩; obtain ⟨a6, c6, rfl, _⟩ := r6.shape; rw [HGL.out] at r6 ⊢; have B6 := Lib.hid (B5.out.on b6); have C6 := Lib.hid (C5.out.below b6); have D6 := Lib.hid (D5.out.below b6); have J6 := Lib.hid r6; clear r6 b6))
  have hs1 := C6.out.str
  have hs2 := D6.out.str
  have hs3 := J6.out.str
  go_wp2_with (go_at_call 9; (with_reducible refine (xawake_any _ (HX.out.below B6.out) (HU.out.below B6.out)).mono ?_); rintro e w8 ⟨rfl, b8⟩; have B8 := Lib.hid (B6.out.on b8); clear b8)
  go_ret
  exact ⟨rfl, B8.out⟩
set_option maxRecDepth 100000 in
theorem reads (os : Os) {H : Type} (enc : TypeId × Value → H) : ∃ places, DataW.whole enc Tryd.prog ((World.doorLaid Tryd.prog 400 os).forCall (fun _ _ => 0) ⟨#[], #[.agg (row8 (List.replicate 64 0)).toArray, .int .u64 0, .agg (row8 (List.replicate 1024 0)).toArray], []⟩).memory Tryd.f6.params.toList Rows.xtsAloneSpec.vars false (#[.agg (row8 (List.replicate 64 0)).toArray, .int .u64 0, .agg (row8 (List.replicate 1024 0)).toArray] : Array Value).toList 8 = some ([litG 2 32 (List.replicate 64 0), .lit (.int .u64 0), lit8 (List.replicate 1024 0)], [], places) := by
  rw [Tryd.params6]
  exact ⟨[], reads_whole (reads_cons (by kernel_rfl) (reads_cons (by kernel_rfl) (reads_row Tryd.underlying42 Tryd.underlying5 cells5 cells42 (bytes_zero 1024) rfl)))⟩
theorem cellTypes42 : Tryd.prog.cellTypes Tryd.prog.depth 42 = some (List.replicate 1024 5) := by kernel_rfl
theorem wok (os : Os) : Input.okWideB Tryd.prog ((World.doorLaid Tryd.prog 400 os).forCall (fun _ _ => 0) ⟨#[], #[.agg (row8 (List.replicate 64 0)).toArray, .int .u64 0, .agg (row8 (List.replicate 1024 0)).toArray], []⟩) 6 ⟨#[], #[.agg (row8 (List.replicate 64 0)).toArray, .int .u64 0, .agg (row8 (List.replicate 1024 0)).toArray], []⟩ = true :=
  okInput Tryd.func6 (by kernel_rfl) (by kernel_rfl) fun j t v ht hv => match j, t, v, ht, hv with
    | 0, t, v, ht, hv => by cases ht; cases hv; exact (by kernel_rfl)
    | 1, t, v, ht, hv => by cases ht; cases hv; exact (by kernel_rfl)
    | 2, t, v, ht, hv => by cases ht; cases hv; exact (okWideB_row Tryd.underlying42 Tryd.underlying5 cells42 cellTypes42 (bytes_zero 1024))
    | j + 3, t, v, ht, hv => by rw [Tryd.params6] at ht; cases ht
theorem wsz (os : Os) {H : Type} (enc : TypeId × Value → H) : (OpenSpec.ofChange Rows.xtsAloneSpec).bare.sizedB enc Tryd.prog Tryd.f6 false ((World.doorLaid Tryd.prog 400 os).forCall (fun _ _ => 0) ⟨#[], #[.agg (row8 (List.replicate 64 0)).toArray, .int .u64 0, .agg (row8 (List.replicate 1024 0)).toArray], []⟩).memory #[.agg (row8 (List.replicate 64 0)).toArray, .int .u64 0, .agg (row8 (List.replicate 1024 0)).toArray] 8 = true := by
  obtain ⟨places, hx⟩ := reads os enc
  unfold ChangeSpec.sizedB
  rw [show (OpenSpec.ofChange Rows.xtsAloneSpec).bare.vars = Rows.xtsAloneSpec.vars from rfl, hx]
  kernel_rfl
set_option linter.unusedVariables false in
set_option maxHeartbeats 1000000 in
set_option maxRecDepth 100000 in
theorem lifted (os : Os) (started : os.Started) (H : Type) (enc : TypeId × Value → H) (F : Stop.Interp) :
    ReturnsInHanded {} Tryd.checked os 6 .any ((OpenSpec.ofChange Rows.xtsAloneSpec).preRow enc Tryd.prog Tryd.f6 Rows.xtsAloneRow.domain false laidXU) (((OpenSpec.ofChange Rows.xtsAloneSpec).at F).post enc Tryd.prog Tryd.f6 false true false false) := by
  obtain ⟨places, hx⟩ := reads os enc
  refine returnsInHanded_of_row (C := Tryd.checked) (s := OpenSpec.ofChange Rows.xtsAloneSpec) own started (by kernel_rfl) Tryd.func6
    (witness_row_atRef (enc := enc) (C := Tryd.checked) false (World.doorLaid Tryd.prog 400 os) #[.agg (row8 (List.replicate 64 0)).toArray, .int .u64 0, .agg (row8 (List.replicate 1024 0)).toArray] rfl (by kernel_rfl) (by kernel_rfl) (wok os)
      (OpenSpec.preRow_of_cond 8 hx (by kernel_rfl) (fun k hk => by cases hk) (wsz os enc) (doorXU_met os _))) ?_
  intro W base args ds gs before hval0 hW _ hcond hsz0 hL _ _
  have hsz : (DataW.weightsEach Tryd.prog (Tryd.f6.params.toList ++ Rows.xtsAloneSpec.plain.varTypes Tryd.prog) (ds ++ gs)).all (· ≤ reachBytes) = true := hsz0
  clear hsz0
  have hval : ∀ (j : Nat) t v, Tryd.f6.params[j]? = some t → args[j]? = some v → Value.okWide Tryd.prog W .any base t v := hval0
  have hW' := hW
  obtain ⟨p, q, hA0, hV, rfl, _, _⟩ := hW
  have hA : DataW.TrodAll enc Tryd.prog W 0 (fun _ => true) true Tryd.f6.params.toList args.toList ds p := hA0
  rw [Tryd.params6] at hA hval hsz
  obtain ⟨v0, vs0, d0, ds0, p0, q0, hargs, rfl, rfl, g0, r0⟩ := trodAll_cons hA
  obtain ⟨v1, vs1, d1, ds1, p1, q1, rfl, rfl, rfl, g1, r1⟩ := trodAll_cons r0
  obtain ⟨v2, vs2, d2, ds2, p2, q2, rfl, rfl, rfl, g2, r2⟩ := trodAll_cons r1
  obtain ⟨rfl, rfl, rfl⟩ := trodAll_nil r2
  obtain rfl : args = #[v0, v1, v2] := by cases args; simp_all
  obtain ⟨rfl, rfl⟩ := trodVars_none hV
  obtain ⟨l0, h0, rfl, rfl, rfl⟩ := open_grid Tryd.underlying24 Tryd.underlying23 Tryd.underlying5 cells5 cells23 (hval 0 24 v0 rfl rfl) cells24 g0
  obtain ⟨a1, rfl, rfl, rfl, w1⟩ := open_int Tryd.underlying25 (hval 1 25 v1 rfl rfl) g1
  obtain ⟨l2, h2, rfl, rfl, rfl⟩ := open_row Tryd.underlying42 Tryd.underlying5 cells5 (hval 2 42 v2 rfl rfl) cells42 g2
  clear hA0 hval0
  have hlt := hW'.lt
  refine (walk W (tabsXU_of_laid hL) l0 h0 a1 w1 l2 h2).mono fun e W' ⟨he, hb⟩ => ?_
  subst he
  have hargs : DataW.TrodAll enc Tryd.prog W' 0 (fun b => decide (b < W.heap.size)) true _ _ _ _ := (trodAll_cons_mk (shut_grid Tryd.underlying24 Tryd.underlying23 Tryd.underlying5 cells5 cells23 cells24 h0) (trodAll_cons_mk (shut_int Tryd.underlying25 w1) (trodAll_cons_mk (shut_row Tryd.underlying42 Tryd.underlying5 cells5 cells42 h2) trodAll_mk0)))
  simp only [List.append_nil] at hW' hargs
  exact ⟨_, rfl, post_law hW' (trodAll_cons_mk (shut_bool Tryd.underlying4 _) trodAll_mk0) hargs rfl hb⟩

theorem over : Rows.xtsAloneRow.holds Tryd.pinned (OpenSpec.ofChange Rows.xtsAloneSpec) :=
  OpenClaim.holds_of_cond 6 Tryd.f6 rfl rfl rfl rfl rfl rfl rfl ⟨rfl, rfl, rfl, rfl, rfl⟩ rfl rfl rfl rfl rfl (by kernel_rfl) Tryd.func6 (by kernel_rfl)
    (of_decide_eq_true (by kernel_rfl)) (by unfold Func.isWrapper; first | (rw [if_pos (by decide +kernel)]; kernel_rfl) | (rw [if_neg (by decide +kernel)]; exact ⟨rfl, rfl⟩))
    (fun os started H enc _ F => by rw [OpenClaim.pre_eq_preRow]; exact lifted os started H enc F)

/-- The given statement. -/
theorem proved : Rows.XtsAloneCardSaid :=
  Claim7.holds_tied_plain_at .later [] _ _ _ _
    over (fun _ h => by cases h) (by kernel_rfl) (fun _ h => by cases h) xtsAlone_row_tie rfl ⟨rfl, rfl⟩ (by kernel_rfl) rfl
    (fun f fn hf hfn => by
      obtain rfl : f = 6 := Option.some.inj ((show Tryd.prog.funcNamed "reliquary/reliquarylaw07.XtsAlone" = some 6 by kernel_rfl).symm.trans hf) |>.symm
      obtain rfl : fn = Tryd.f6 := (Option.some.inj (Tryd.func6.symm.trans hfn)).symm
      exact ⟨by kernel_rfl, fun j t ht => by
        rw [Tryd.params6] at ht
        have hm : t ∈ [24, 25, 42] := by simpa using Array.mem_of_getElem? ht
        have hall : ([24, 25, 42].all fun u => !Tryd.prog.wantsStandIn u) = true := by kernel_rfl
        exact (show Tryd.prog.wantsStandIn t = false by simpa using List.all_eq_true.1 hall t hm)⟩)
    (by kernel_rfl)
end Go.Proofs.YtmidbmihadhgdaaDoor.xtsAlone

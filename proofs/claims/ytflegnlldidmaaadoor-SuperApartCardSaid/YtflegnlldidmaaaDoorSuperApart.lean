/- SuperApart: nothing stands where anything else does: areas, roots and clusters, one behind the other; and all clusters that there is room for end within the image; and the law's closed case holds. No condition but that the listed table holds its constants when the call begins. -/
import Derived.Test.YtflegnlldidmaaaDoorRows
import Derived.Test.YtflegnlldidmaaaDoorSuAwake
import Derived.Test.YtflegnlldidmaaaDoorSuSum
import Derived.Test.YtflegnlldidmaaaDoorWpOne
import Derived.Test.YtflegnlldidmaaaDoorShaC
import Derived.Test.YtflegnlldidmaaaDoorTie
import Derived.Test.YtflegnlldidmaaaDoorCards
import Derived.SevenTiedAt
import Derived.Test.YtflegnlldidmaaaDoorGeoArg
import Derived.Test.YtflegnlldidmaaaDoorMem
import Derived.WalkKit
import Derived.ProofKit
import Derived.OpenShut
import Derived.SizedLaws
import Derived.Carry
import Derived.Deep.DeepHandedRow
import Derived.Deep.DeepWitnessRowRef
namespace Go.Proofs.YtflegnlldidmaaaDoor.superApart
open Go.ChangeShapes Go.WideShapes Go.ChangeAt Go.RowKit
open SM SU
theorem place_no {C P : Int} (h : may C P = false) (n : Nat) : place C P n = -1 := by unfold place; rw [h]; rfl
theorem cap_no {C P : Int} (h : may C P = false) (m : Int) : cap C P m = 0 := by unfold cap; rw [h]; rfl
theorem place_yes {C P : Int} (h : may C P = true) {n : Nat} (hn : n ≤ 65535) : place C P n = 4096 + n * (P * 512) := by unfold place; rw [if_pos ⟨h, hn⟩]
theorem cap_zero {C P m : Int} (h : may C P = true) (h0 : cap C P m = 0) (h1 : 4096 ≤ m) : m - 4096 < P * 512 := by
  obtain ⟨_, _, h2, _⟩ := may_iff.1 h
  unfold cap at h0
  rw [if_pos ⟨h, h1⟩] at h0
  have hd : (m - 4096) / (P * 512) = 0 := by split at h0 <;> omega
  have := Int.lt_ediv_add_one_mul_self (m - 4096) (show 0 < P * 512 by omega)
  rw [hd] at this; omega
theorem cap_pos {C P m : Int} (h : may C P = true) (h0 : cap C P m ≠ 0) : 4096 ≤ m ∧ 0 < cap C P m ∧ cap C P m ≤ 65536 ∧ 4096 + (cap C P m - 1) * (P * 512) ≤ m - P * 512 := by
  obtain ⟨_, _, h2, _⟩ := may_iff.1 h
  have h1 : 4096 ≤ m := by
    rcases Int.lt_or_le m 4096 with q | q
    · exact absurd (by unfold cap; rw [if_neg (by omega)]) h0
    · exact q
  obtain ⟨K, hK⟩ : ∃ K, K = cap C P m := ⟨_, rfl⟩
  obtain ⟨Q, hQ⟩ : ∃ Q, Q = P * 512 := ⟨_, rfl⟩
  obtain ⟨D, hD⟩ : ∃ D, D = (m - 4096) / Q := ⟨_, rfl⟩
  have hk2 : K ≤ D ∧ K ≤ 65536 := by
    rw [hK]; unfold cap; rw [if_pos ⟨h, h1⟩, ← hQ, ← hD]
    split <;> omega
  have hd0 : 0 ≤ D := by rw [hD]; exact Int.ediv_nonneg (by omega) (by omega)
  have hk0 : 0 ≤ K := by
    rw [hK]; unfold cap; rw [if_pos ⟨h, h1⟩, ← hQ, ← hD]
    split <;> omega
  rw [← hK] at h0 ⊢
  rw [← hQ]
  have e1 : D * Q ≤ m - 4096 := by rw [hD]; exact Int.ediv_mul_le _ (by omega)
  have e2 : K * Q ≤ D * Q := Int.mul_le_mul_of_nonneg_right hk2.1 (by omega)
  have e3 : (K - 1) * Q = K * Q - Q := by rw [Int.sub_mul, Int.one_mul]
  exact ⟨h1, by omega, hk2.2, by omega⟩
theorem own : ownKnob Tryd.prog.godebug = none := by kernel_rfl
theorem cells39 : Tryd.prog.cellsOf 39 = 2 := by kernel_rfl
theorem cells35 : Tryd.prog.cellsOf 35 = 1 := by kernel_rfl
set_option linter.unusedVariables false in
set_option maxHeartbeats 4000000 in
set_option maxRecDepth 100000 in
theorem walk (w : World) (ht : TabP w) (a0 b0 : Int) (w0 : (Lit.int .i64 a0).wf = true) (x0 : (Lit.int .i64 b0).wf = true) (l1 : List Int) (h1 : IntRow .u16 2 l1) (a2 : Int) (w2 : (Lit.int .i64 a2).wf = true) :
    Calls Tryd.prog 5 #[.agg #[.int .i64 a0, .int .i64 b0], .agg (rowI .u16 l1).toArray, .int .i64 a2] w fun e w' => e = .returned (.bool true) ∧ Below w.heap.size w w' := by
  obtain ⟨m0, n0, rfl, wm, wn⟩ := h1.two
  have hm1 : 0 ≤ m0 ∧ m0 ≤ 65535 := by simpa [Lit.wf, IntKind.min, IntKind.max, IntKind.signed, IntKind.bits] using wm
  have hn1 : 0 ≤ n0 ∧ n0 ≤ 65535 := by simpa [Lit.wf, IntKind.min, IntKind.max, IntKind.signed, IntKind.bits] using wn
  have ha2 : -9223372036854775808 ≤ a2 ∧ a2 ≤ 9223372036854775807 := by simpa [Lit.wf, IntKind.min, IntKind.max, IntKind.signed, IntKind.bits] using w2
  obtain ⟨m, hm2⟩ : ∃ m : Nat, m0 = (m : Int) := ⟨m0.toNat, by omega⟩
  subst hm2
  obtain ⟨n, hn2⟩ : ∃ n : Nat, n0 = (n : Int) := ⟨n0.toNat, by omega⟩
  subst hn2
  have mb : m ≤ 65535 := by omega
  have nb : n ≤ 65535 := by omega
  have c0 : ((w.alloc (.cells #[.int .i64 a0, .int .i64 b0] 23)).alloc (.cells #[.int .u16 (m : Int), .int .u16 (n : Int)] 39)).cell? ⟨w.heap.size + 1, 0, none⟩ = some (.int .u16 (m : Int)) := (Blk.new _ 39 [.int .u16 (m : Int), .int .u16 (n : Int)] _ (by simp)).cell 0 _ rfl
  have c1 : ((w.alloc (.cells #[.int .i64 a0, .int .i64 b0] 23)).alloc (.cells #[.int .u16 (m : Int), .int .u16 (n : Int)] 39)).cell? ⟨w.heap.size + 1, 1, none⟩ = some (.int .u16 (n : Int)) := (Blk.new _ 39 [.int .u16 (m : Int), .int .u16 (n : Int)] _ (by simp)).cell 1 _ rfl
  have HA0 := Lib.hid (fun W => (show Calls Tryd.prog 12 #[.int .i64 0] W fun e w' => e = .returned (.int .i64 512) ∧ Below W.heap.size W w' from suarea_any 0 W))
  have HA1 := Lib.hid (fun W => (show Calls Tryd.prog 12 #[.int .i64 1] W fun e w' => e = .returned (.int .i64 1536) ∧ Below W.heap.size W w' from suarea_any 1 W))
  have HR0 := Lib.hid (fun W => (show Calls Tryd.prog 13 #[.int .i64 0] W fun e w' => e = .returned (.int .i64 2560) ∧ Below W.heap.size W w' from suroot_any 0 W))
  have HR1 := Lib.hid (fun W => (show Calls Tryd.prog 13 #[.int .i64 1] W fun e w' => e = .returned (.int .i64 3072) ∧ Below W.heap.size W w' from suroot_any 1 W))
  have HP0 := Lib.hid (fun W => (show Calls Tryd.prog 14 #[.agg #[.int .i64 a0, .int .i64 b0], .int .u32 0] W fun e w' => e = .returned (.int .i64 (place a0 b0 0)) ∧ Below W.heap.size W w' from suplace_any a0 b0 0 (by decide) W))
  have HCP := Lib.hid (fun W => sucap_any a0 b0 a2 w2 W)
  have HAW := Lib.hid (fun W => suawake_any W)
  have HTP := Lib.hid ht
  have XG0 := Lib.hid ((Blk.new w 23 [.int .i64 a0, .int .i64 b0] _ rfl).alloc (.cells #[.int .u16 (m : Int), .int .u16 (n : Int)] 39))
  have WB0 := Lib.hid (((Below.refl w.heap.size w).alloc (Nat.le_refl _) (.cells #[.int .i64 a0, .int .i64 b0] 23)).alloc (by simp) (.cells #[.int .u16 (m : Int), .int .u16 (n : Int)] 39))
  clear hm1 hn1 wm wn w0 x0 w2 h1 ht
  show Calls Tryd.prog 5 #[.agg #[.int .i64 a0, .int .i64 b0], .agg #[.int .u16 (m : Int), .int .u16 (n : Int)], .int .i64 a2] w _
  go_enter Tryd.func5, Tryd.ntmps5
  go_upto_region 1 with (fail)
  go_region
  obtain ⟨u0, hu0⟩ : ∃ x, x = ((w.alloc (.cells #[.int .i64 a0, .int .i64 b0] 23)).alloc (.cells #[.int .u16 (m : Int), .int .u16 (n : Int)] 39)).drew := ⟨_, rfl⟩
  have X0 := Lib.hid (show Blk u0 w.heap.size 23 [.int .i64 a0, .int .i64 b0] by rw [hu0]; exact XG0.out.drew)
  have W0 := Lib.hid (show Below w.heap.size w u0 by rw [hu0]; exact WB0.out.on (Below.refl _ _).drew)
  rw [← hu0]
  clear hu0 XG0 WB0 c0 c1
  go_upto_region 4 with (first
    | (go_at_call 12; (with_reducible refine (HA0.out u0).mono ?_); rintro e u1 ⟨rfl, bb⟩; have W1 := Lib.hid (W0.out.on bb); have X1 := Lib.hid (X0.out.below bb X0.out.lt); clear bb)
    | (go_at_call 12; (with_reducible refine (HA1.out u1).mono ?_); rintro e u2 ⟨rfl, bb⟩; have W2 := Lib.hid (W1.out.on bb); have X2 := Lib.hid (X1.out.below bb X1.out.lt); clear bb)
    | (go_at_call 12; (with_reducible refine (HA0.out u2).mono ?_); rintro e u3 ⟨rfl, bb⟩; have W3 := Lib.hid (W2.out.on bb); have X3 := Lib.hid (X2.out.below bb X2.out.lt); clear bb)
    | (go_at_call 13; (with_reducible refine (HR0.out u3).mono ?_); rintro e u4 ⟨rfl, bb⟩; have W4 := Lib.hid (W3.out.on bb); have X4 := Lib.hid (X3.out.below bb X3.out.lt); clear bb)
    | (go_at_call 12; (with_reducible refine (HA1.out u4).mono ?_); rintro e u5 ⟨rfl, bb⟩; have W5 := Lib.hid (W4.out.on bb); have X5 := Lib.hid (X4.out.below bb X4.out.lt); clear bb)
    | (go_at_call 13; (with_reducible refine (HR1.out u5).mono ?_); rintro e u6 ⟨rfl, bb⟩; have W6 := Lib.hid (W5.out.on bb); have X6 := Lib.hid (X5.out.below bb X5.out.lt); clear bb)
    | (go_at_call 13; (with_reducible refine (HR0.out u6).mono ?_); rintro e u7 ⟨rfl, bb⟩; have W7 := Lib.hid (W6.out.on bb); have X7 := Lib.hid (X6.out.below bb X6.out.lt); clear bb))
  clear X0 W0 X1 W1 X2 W2 X3 W3 X4 W4 X5 W5 X6 W6 HA0 HA1 HR0
  cases hm : may a0 b0 with
  | false =>
    obtain ⟨D0, hD0⟩ : ∃ D, D = row8 (List.replicate 32 0) := ⟨_, rfl⟩
    have hbu : Tryd.prog.built 31 [] = some D0.toArray := by rw [hD0]; exact builtSu
    have HSU := Lib.hid (fun W (hW : Below w.heap.size w W) => susum_any a0 b0 W (HTP.out.below hW))
    rw [show sum a0 b0 = List.replicate 32 0 by unfold sum; rw [hm]; rfl] at HSU
    have hss := fun w => run_eql_sum (bytes_zero 32) (bytes_zero 32) w
    simp only [decide_true] at hss
    rw [← hD0] at hss HSU
    rw [place_no hm] at HP0
    rw [cap_no hm] at HCP
    clear hD0 hm mb nb ha2
    go_wp2_with (first
      | (refine wpList_load_mid rfl 23 (.tmp 3) rfl w.heap.size 0 rfl [.int .i64 a0, .int .i64 b0] _ X7.out.range Tryd.underlying23 rfl infoGeo ?_)
      | (go_at_call 14; (with_reducible refine (HP0.out u7).mono ?_); rintro e u8 ⟨rfl, bb⟩; have W8 := Lib.hid (W7.out.on bb); have X8 := Lib.hid (X7.out.below bb X7.out.lt); clear bb)
      | (refine wpList_load_mid rfl 23 (.tmp 3) rfl w.heap.size 0 rfl [.int .i64 a0, .int .i64 b0] _ X8.out.range Tryd.underlying23 rfl infoGeo ?_)
      | (go_at_call 15; (with_reducible refine (HCP.out u8).mono ?_); rintro e u9 ⟨rfl, bb⟩; have W9 := Lib.hid (W8.out.on bb); have X9 := Lib.hid (X8.out.below bb X8.out.lt); clear bb)
      | (refine wpList_wanted rfl (.agg #[.int .i64 a0, .int .i64 b0]) (ex_geo (x := .tmp 3) rfl rfl X9.out) ?_)
      | (go_at_call 8; (with_reducible refine (HSU.out u9 W9.out).mono ?_); rintro e u10 ⟨rfl, bb⟩; have W10 := Lib.hid (W9.out.on bb); have X10 := Lib.hid (X9.out.below bb X9.out.lt); clear bb)
      | (refine wpList_wanted rfl (.agg D0.toArray) (ex_build (t := 31) rfl (Eq.trans (b := Tryd.prog.built 31 []) (by kernel_rfl) hbu)) ?_)
      | (refine wpList_wanted rfl (.bool true) (ex_binOp (b := .eql) (t := 31) (x := .tmp 46) (y := .tmp 47) rfl rfl rfl (run_eqGuard_agg _ _ _ _ _ _ _ eqTypeS) (hss _)) ?_)
      | (go_at_call 10; (with_reducible refine (HAW.out u10).mono ?_); rintro e u11 ⟨rfl, bb⟩; have W11 := Lib.hid (W10.out.on bb); have X11 := Lib.hid (X10.out.below bb X10.out.lt); clear bb))
    go_ret
    exact ⟨rfl, W11.out⟩
  | true =>
    obtain ⟨c, p, rfl, rfl, h1c, h2c, h1p, h2p⟩ := may_nat hm
    obtain ⟨Q, hQ⟩ : ∃ Q : Int, Q = (p : Int) * 512 := ⟨_, rfl⟩
    obtain ⟨A, hA⟩ : ∃ A, A = place c p m := ⟨_, rfl⟩
    obtain ⟨B, hB⟩ : ∃ B, B = place c p n := ⟨_, rfl⟩
    obtain ⟨K, hK⟩ : ∃ K, K = cap c p a2 := ⟨_, rfl⟩
    have HPM := Lib.hid (fun W => suplace_any c p m (by omega) W)
    have HPN := Lib.hid (fun W => suplace_any c p n (by omega) W)
    have hq : 512 ≤ Q ∧ Q ≤ 1024 := by omega
    have hAB : (4096 ≤ A ∧ A ≤ 67112960) ∧ (4096 ≤ B ∧ B ≤ 67112960) ∧ (m < n → A + Q ≤ B) ∧ (n < m → B + Q ≤ A) ∧ (m = n → A = B) := by
      rw [hA, hB, place_yes hm mb, place_yes hm nb, hQ]
      rcases (show p = 1 ∨ p = 2 by omega) with rfl | rfl <;> refine ⟨⟨by omega, by omega⟩, ⟨by omega, by omega⟩, fun h => by omega, fun h => by omega, fun h => by rw [h]⟩
    have hKP := cap_pos (m := a2) hm
    have hKZ := cap_zero (m := a2) hm
    rw [place_yes hm (Nat.zero_le _), show ((0 : Nat) : Int) = 0 from rfl, Int.zero_mul, Int.add_zero] at HP0
    have HPK := Lib.hid (fun (k : Nat) (hk : k ≤ 65535) W => (show Calls Tryd.prog 14 #[.agg #[.int .i64 (c : Int), .int .i64 (p : Int)], .int .u32 (k : Int)] W fun e w' => e = .returned (.int .i64 (4096 + k * Q)) ∧ Below W.heap.size W w' by rw [hQ, ← place_yes hm hk]; exact suplace_any c p k (by omega) W))
    rw [← hA] at HPM
    rw [← hB] at HPN
    rw [← hK] at HCP
    rw [← hK, ← hQ] at hKP
    rw [← hK, ← hQ] at hKZ
    have aQ : IntKind.i64.wrap (512 * (p : Int)) = Q := by rw [IntKind.wrap_i64]; omega
    obtain ⟨⟨hA0, hA1⟩, ⟨hB0, hB1⟩, hlt, hgt, heq⟩ := hAB
    have HLT := Lib.hid hlt
    have HGT := Lib.hid hgt
    have HEQ := Lib.hid heq
    have HKP := Lib.hid hKP
    have HKZ := Lib.hid hKZ
    have aAQ : IntKind.i64.wrap (A + Q) = A + Q := by rw [IntKind.wrap_i64]; omega
    have aBQ : IntKind.i64.wrap (B + Q) = B + Q := by rw [IntKind.wrap_i64]; omega
    have am : IntKind.u32.wrap (m : Int) = (m : Int) := by rw [IntKind.wrap_u32]; omega
    have an : IntKind.u32.wrap (n : Int) = (n : Int) := by rw [IntKind.wrap_u32]; omega
    obtain ⟨hq0, hq1⟩ := hq
    obtain ⟨ha20, ha21⟩ := ha2
    clear hQ hA hB hK hm hlt hgt heq hKP hKZ h1c h2c HTP
    go_upto_region 6 with (first
      | (refine wpList_load_mid rfl 23 (.tmp 3) rfl w.heap.size 0 rfl [.int .i64 (c : Int), .int .i64 (p : Int)] _ X7.out.range Tryd.underlying23 rfl infoGeo ?_)
      | (go_at_call 14; (with_reducible refine (HP0.out u7).mono ?_); rintro e u8 ⟨rfl, bb⟩; have W8 := Lib.hid (W7.out.on bb); have X8 := Lib.hid (X7.out.below bb X7.out.lt); clear bb))
    have c1 := X8.out.cell 1 _ rfl
    go_upto_region 7 with (fail)
    have XLT := Lib.hid X8.out.lt
    clear c1
    refine wp_region_g (by kernel_rfl) 10 (by decide) (by kernel_rfl) (by kernel_rfl) (by kernel_rfl) (u8.heap.size) (Nat.le_refl _) [.val (.agg #[.int .i64 (c : Int), .int .i64 (p : Int)]), .val (.int .u16 (m : Int)), .val (.int .u32 (m : Int)), .val (.int .i64 A), .val (.agg #[.int .i64 (c : Int), .int .i64 (p : Int)]), .val (.int .u16 (n : Int)), .val (.int .u32 (n : Int)), .val (.int .i64 B), .val (.int .i64 A), .val (.int .i64 B)] (fun _ => 10) ?_ ?_
    · refine ⟨?_, ?_, ?_, ?_, ?_, ?_, ?_, ?_, ?_, ?_, trivial⟩
      · intro a w' hF hB hd
        have e3 : a.eval (.tmp 3) = .pointer (some ⟨w.heap.size, 0, none⟩) := hF 3 (by decide +kernel)
        exact doesG_val rfl (ex_geo rfl e3 (X8.out.below hB XLT.out)) rfl rfl
      · intro a w' hF hB hd
        have e7 : a.eval (.tmp 7) = .int .u16 (m : Int) := hF 7 (by decide +kernel)
        exact doesG_val rfl (ex_move rfl e7) rfl rfl
      · intro a w' hF hB hd
        have e57 : a.eval (.tmp 57) = .int .u16 (m : Int) := hd 1 (by decide +kernel) (.inr (by decide))
        exact doesG_val rfl (ex_convert rfl e57 (by go_simp)) rfl rfl
      · intro a w' hF hB hd
        have e56 : a.eval (.tmp 56) = .agg #[.int .i64 (c : Int), .int .i64 (p : Int)] := hd 0 (by decide +kernel) (.inr (by decide))
        have e58 : a.eval (.tmp 58) = .int .u32 (m : Int) := hd 2 (by decide +kernel) (.inr (by decide))
        exact doesG_call rfl (ex_call (vs := #[.agg #[.int .i64 (c : Int), .int .i64 (p : Int)], .int .u32 (m : Int)]) rfl (by simp only [List.map_toArray, List.map_cons, List.map_nil, e56, e58]) (by go_simp)) rfl ((HPM.out w').mono fun e w2 hh => ⟨_, hh.1, rfl, hh.2⟩)
      · intro a w' hF hB hd
        have e3 : a.eval (.tmp 3) = .pointer (some ⟨w.heap.size, 0, none⟩) := hF 3 (by decide +kernel)
        exact doesG_val rfl (ex_geo rfl e3 (X8.out.below hB XLT.out)) rfl rfl
      · intro a w' hF hB hd
        have e8 : a.eval (.tmp 8) = .int .u16 (n : Int) := hF 8 (by decide +kernel)
        exact doesG_val rfl (ex_move rfl e8) rfl rfl
      · intro a w' hF hB hd
        have e61 : a.eval (.tmp 61) = .int .u16 (n : Int) := hd 5 (by decide +kernel) (.inr (by decide))
        exact doesG_val rfl (ex_convert rfl e61 (by go_simp)) rfl rfl
      · intro a w' hF hB hd
        have e60 : a.eval (.tmp 60) = .agg #[.int .i64 (c : Int), .int .i64 (p : Int)] := hd 4 (by decide +kernel) (.inr (by decide))
        have e62 : a.eval (.tmp 62) = .int .u32 (n : Int) := hd 6 (by decide +kernel) (.inr (by decide))
        exact doesG_call rfl (ex_call (vs := #[.agg #[.int .i64 (c : Int), .int .i64 (p : Int)], .int .u32 (n : Int)]) rfl (by simp only [List.map_toArray, List.map_cons, List.map_nil, e60, e62]) (by go_simp)) rfl ((HPN.out w').mono fun e w2 hh => ⟨_, hh.1, rfl, hh.2⟩)
      · intro a w' hF hB hd
        have e59 : a.eval (.tmp 59) = .int .i64 A := hd 3 (by decide +kernel) (.inr (by decide))
        exact doesG_val rfl (ex_assign rfl e59) rfl rfl
      · intro a w' hF hB hd
        have e63 : a.eval (.tmp 63) = .int .i64 B := hd 7 (by decide +kernel) (.inr (by decide))
        exact doesG_val rfl (ex_assign rfl e63) rfl rfl
    · intro vs u9 hb hv hap
      have e10 : vs 8 = .int .i64 A := hv 8 (by decide) (by decide)
      have e11 : vs 9 = .int .i64 B := hv 9 (by decide) (by decide)
      have W9 := Lib.hid (W8.out.on hb)
      have X9 := Lib.hid (X8.out.below hb X8.out.lt)
      clear hv hap hb X8 W8 X7 W7 HPM HPN
      simp only [List.take_succ_cons, List.take_zero, List.drop_succ_cons, List.drop_zero, putOps, Act.put, List.setIfInBounds_toArray, List.set_cons_zero, List.set_cons_succ, e10, e11]
      clear e10 e11
      generalize vs 0 = y0
      generalize vs 1 = y1
      generalize vs 2 = y2
      generalize vs 3 = y3
      generalize vs 4 = y4
      generalize vs 5 = y5
      generalize vs 6 = y6
      generalize vs 7 = y7
      rcases Nat.lt_trichotomy m n with h | h | h
      · have f1 : (m : Int) < (n : Int) := by omega
        have f2 : ¬ (n : Int) < (m : Int) := by omega
        have f3 : A + Q ≤ B := HLT.out h
        have f4 : ¬ B < A + Q := by omega
        have f5 : ((m : Int) == (n : Int)) = false := by simpa using (show ¬ (m : Int) = (n : Int) by omega)
        have f6 : (A == B) = false := by simpa using (show ¬ A = B by omega)
        have f7 : ¬ (m : Int) = (n : Int) := by omega
        have f8 : ¬ A = B := by omega
        clear HLT HGT HEQ h
        go_upto_region 10 with (first
          | (refine wpList_load_mid rfl 23 (.tmp 3) rfl w.heap.size 0 rfl [.int .i64 (c : Int), .int .i64 (p : Int)] _ X9.out.range Tryd.underlying23 rfl infoGeo ?_)
          | (go_at_call 14; (with_reducible refine (HP0.out u9).mono ?_); rintro e u10 ⟨rfl, bb⟩; have W10 := Lib.hid (W9.out.on bb); have X10 := Lib.hid (X9.out.below bb X9.out.lt); clear bb)
          | (go_at_call 13; (with_reducible refine (HR1.out u10).mono ?_); rintro e u11 ⟨rfl, bb⟩; have W11 := Lib.hid (W10.out.on bb); have X11 := Lib.hid (X10.out.below bb X10.out.lt); clear bb))
        by_cases hK0 : K = 0
        · subst hK0
          by_cases hs : a2 < 4096
          · clear HKP HKZ
            go_wp2_with (first
              | (refine wpList_load_mid rfl 23 (.tmp 3) rfl w.heap.size 0 rfl [.int .i64 (c : Int), .int .i64 (p : Int)] _ X11.out.range Tryd.underlying23 rfl infoGeo ?_)
              | (go_at_call 15; (with_reducible refine (HCP.out u11).mono ?_); rintro e u12 ⟨rfl, bb⟩; have W12 := Lib.hid (W11.out.on bb); have X12 := Lib.hid (X11.out.below bb X11.out.lt); clear bb)
              | (refine wpList_load_mid rfl 23 (.tmp 3) rfl w.heap.size 0 rfl [.int .i64 (c : Int), .int .i64 (p : Int)] _ X12.out.range Tryd.underlying23 rfl infoGeo ?_)
              | (go_at_call 14; (with_reducible refine (HP0.out u12).mono ?_); rintro e u13 ⟨rfl, bb⟩; have W13 := Lib.hid (W12.out.on bb); have X13 := Lib.hid (X12.out.below bb X12.out.lt); clear bb)
              | (go_at_call 10; (with_reducible refine (HAW.out u13).mono ?_); rintro e u14 ⟨rfl, bb⟩; have W14 := Lib.hid (W13.out.on bb); have X14 := Lib.hid (X13.out.below bb X13.out.lt); clear bb))
            go_ret
            exact ⟨rfl, W14.out⟩
          · have hz := HKZ.out rfl (by omega)
            have hd : decide (a2 < 4096) = false := decide_eq_false hs
            have az : IntKind.i64.wrap (a2 - 4096) = a2 - 4096 := by rw [IntKind.wrap_i64]; omega
            clear HKP HKZ
            go_wp2_with (first
              | (refine wpList_load_mid rfl 23 (.tmp 3) rfl w.heap.size 0 rfl [.int .i64 (c : Int), .int .i64 (p : Int)] _ X11.out.range Tryd.underlying23 rfl infoGeo ?_)
              | (go_at_call 15; (with_reducible refine (HCP.out u11).mono ?_); rintro e u12 ⟨rfl, bb⟩; have W12 := Lib.hid (W11.out.on bb); have X12 := Lib.hid (X11.out.below bb X11.out.lt); clear bb)
              | (refine wpList_load_mid rfl 23 (.tmp 3) rfl w.heap.size 0 rfl [.int .i64 (c : Int), .int .i64 (p : Int)] _ X12.out.range Tryd.underlying23 rfl infoGeo ?_)
              | (go_at_call 14; (with_reducible refine (HP0.out u12).mono ?_); rintro e u13 ⟨rfl, bb⟩; have W13 := Lib.hid (W12.out.on bb); have X13 := Lib.hid (X12.out.below bb X12.out.lt); clear bb)
              | (refine wpList_wanted rfl (.agg #[.int .i64 (c : Int), .int .i64 (p : Int)]) (ex_geo (x := .tmp 3) rfl rfl X13.out) ?_)
              | (go_at_call 14; (with_reducible refine (HP0.out u13).mono ?_); rintro e u14 ⟨rfl, bb⟩; have W14 := Lib.hid (W13.out.on bb); have X14 := Lib.hid (X13.out.below bb X13.out.lt); clear bb)
              | (go_at_call 10; (with_reducible refine (HAW.out u14).mono ?_); rintro e u15 ⟨rfl, bb⟩; have W15 := Lib.hid (W14.out.on bb); have X15 := Lib.hid (X14.out.below bb X14.out.lt); clear bb))
            go_ret
            exact ⟨rfl, W15.out⟩
        · obtain ⟨k1, k2, k3, k4⟩ := HKP.out hK0
          obtain ⟨k, hk⟩ : ∃ k : Nat, K - 1 = (k : Int) := ⟨(K - 1).toNat, by omega⟩
          rw [hk] at k4
          obtain ⟨Z, hZ⟩ : ∃ Z, Z = 4096 + (k : Int) * Q := ⟨_, rfl⟩
          have HPZ := Lib.hid (fun W => HPK.out k (by omega) W)
          rw [← hZ] at HPZ k4
          have ak : IntKind.i64.wrap (K - 1) = (k : Int) := by rw [IntKind.wrap_i64]; omega
          have ak2 : IntKind.u32.wrap (k : Int) = (k : Int) := by rw [IntKind.wrap_u32]; omega
          have asub : IntKind.i64.wrap (a2 - Q) = a2 - Q := by rw [IntKind.wrap_i64]; omega
          have kb : (K == 0) = false := by simpa using hK0
          clear hk hZ HKP HKZ HPK
          go_wp2_with (first
            | (refine wpList_load_mid rfl 23 (.tmp 3) rfl w.heap.size 0 rfl [.int .i64 (c : Int), .int .i64 (p : Int)] _ X11.out.range Tryd.underlying23 rfl infoGeo ?_)
            | (go_at_call 15; (with_reducible refine (HCP.out u11).mono ?_); rintro e u12 ⟨rfl, bb⟩; have W12 := Lib.hid (W11.out.on bb); have X12 := Lib.hid (X11.out.below bb X11.out.lt); clear bb)
            | (refine wpList_wanted rfl (.agg #[.int .i64 (c : Int), .int .i64 (p : Int)]) (ex_geo (x := .tmp 3) rfl rfl X12.out) ?_)
            | (go_at_call 14; (with_reducible refine (HPZ.out u12).mono ?_); rintro e u13 ⟨rfl, bb⟩; have W13 := Lib.hid (W12.out.on bb); have X13 := Lib.hid (X12.out.below bb X12.out.lt); clear bb)
            | (go_at_call 10; (with_reducible refine (HAW.out u13).mono ?_); rintro e u14 ⟨rfl, bb⟩; have W14 := Lib.hid (W13.out.on bb); have X14 := Lib.hid (X13.out.below bb X13.out.lt); clear bb))
          go_ret
          exact ⟨rfl, W14.out⟩
      · subst h
        obtain rfl := HEQ.out rfl
        have f2 : ¬ (m : Int) < (m : Int) := by omega
        clear HLT HGT HEQ
        go_upto_region 10 with (first
          | (refine wpList_load_mid rfl 23 (.tmp 3) rfl w.heap.size 0 rfl [.int .i64 (c : Int), .int .i64 (p : Int)] _ X9.out.range Tryd.underlying23 rfl infoGeo ?_)
          | (go_at_call 14; (with_reducible refine (HP0.out u9).mono ?_); rintro e u10 ⟨rfl, bb⟩; have W10 := Lib.hid (W9.out.on bb); have X10 := Lib.hid (X9.out.below bb X9.out.lt); clear bb)
          | (go_at_call 13; (with_reducible refine (HR1.out u10).mono ?_); rintro e u11 ⟨rfl, bb⟩; have W11 := Lib.hid (W10.out.on bb); have X11 := Lib.hid (X10.out.below bb X10.out.lt); clear bb))
        by_cases hK0 : K = 0
        · subst hK0
          by_cases hs : a2 < 4096
          · clear HKP HKZ
            go_wp2_with (first
              | (refine wpList_load_mid rfl 23 (.tmp 3) rfl w.heap.size 0 rfl [.int .i64 (c : Int), .int .i64 (p : Int)] _ X11.out.range Tryd.underlying23 rfl infoGeo ?_)
              | (go_at_call 15; (with_reducible refine (HCP.out u11).mono ?_); rintro e u12 ⟨rfl, bb⟩; have W12 := Lib.hid (W11.out.on bb); have X12 := Lib.hid (X11.out.below bb X11.out.lt); clear bb)
              | (refine wpList_load_mid rfl 23 (.tmp 3) rfl w.heap.size 0 rfl [.int .i64 (c : Int), .int .i64 (p : Int)] _ X12.out.range Tryd.underlying23 rfl infoGeo ?_)
              | (go_at_call 14; (with_reducible refine (HP0.out u12).mono ?_); rintro e u13 ⟨rfl, bb⟩; have W13 := Lib.hid (W12.out.on bb); have X13 := Lib.hid (X12.out.below bb X12.out.lt); clear bb)
              | (go_at_call 10; (with_reducible refine (HAW.out u13).mono ?_); rintro e u14 ⟨rfl, bb⟩; have W14 := Lib.hid (W13.out.on bb); have X14 := Lib.hid (X13.out.below bb X13.out.lt); clear bb))
            go_ret
            exact ⟨rfl, W14.out⟩
          · have hz := HKZ.out rfl (by omega)
            have hd : decide (a2 < 4096) = false := decide_eq_false hs
            have az : IntKind.i64.wrap (a2 - 4096) = a2 - 4096 := by rw [IntKind.wrap_i64]; omega
            clear HKP HKZ
            go_wp2_with (first
              | (refine wpList_load_mid rfl 23 (.tmp 3) rfl w.heap.size 0 rfl [.int .i64 (c : Int), .int .i64 (p : Int)] _ X11.out.range Tryd.underlying23 rfl infoGeo ?_)
              | (go_at_call 15; (with_reducible refine (HCP.out u11).mono ?_); rintro e u12 ⟨rfl, bb⟩; have W12 := Lib.hid (W11.out.on bb); have X12 := Lib.hid (X11.out.below bb X11.out.lt); clear bb)
              | (refine wpList_load_mid rfl 23 (.tmp 3) rfl w.heap.size 0 rfl [.int .i64 (c : Int), .int .i64 (p : Int)] _ X12.out.range Tryd.underlying23 rfl infoGeo ?_)
              | (go_at_call 14; (with_reducible refine (HP0.out u12).mono ?_); rintro e u13 ⟨rfl, bb⟩; have W13 := Lib.hid (W12.out.on bb); have X13 := Lib.hid (X12.out.below bb X12.out.lt); clear bb)
              | (refine wpList_wanted rfl (.agg #[.int .i64 (c : Int), .int .i64 (p : Int)]) (ex_geo (x := .tmp 3) rfl rfl X13.out) ?_)
              | (go_at_call 14; (with_reducible refine (HP0.out u13).mono ?_); rintro e u14 ⟨rfl, bb⟩; have W14 := Lib.hid (W13.out.on bb); have X14 := Lib.hid (X13.out.below bb X13.out.lt); clear bb)
              | (go_at_call 10; (with_reducible refine (HAW.out u14).mono ?_); rintro e u15 ⟨rfl, bb⟩; have W15 := Lib.hid (W14.out.on bb); have X15 := Lib.hid (X14.out.below bb X14.out.lt); clear bb))
            go_ret
            exact ⟨rfl, W15.out⟩
        · obtain ⟨k1, k2, k3, k4⟩ := HKP.out hK0
          obtain ⟨k, hk⟩ : ∃ k : Nat, K - 1 = (k : Int) := ⟨(K - 1).toNat, by omega⟩
          rw [hk] at k4
          obtain ⟨Z, hZ⟩ : ∃ Z, Z = 4096 + (k : Int) * Q := ⟨_, rfl⟩
          have HPZ := Lib.hid (fun W => HPK.out k (by omega) W)
          rw [← hZ] at HPZ k4
          have ak : IntKind.i64.wrap (K - 1) = (k : Int) := by rw [IntKind.wrap_i64]; omega
          have ak2 : IntKind.u32.wrap (k : Int) = (k : Int) := by rw [IntKind.wrap_u32]; omega
          have asub : IntKind.i64.wrap (a2 - Q) = a2 - Q := by rw [IntKind.wrap_i64]; omega
          have kb : (K == 0) = false := by simpa using hK0
          clear hk hZ HKP HKZ HPK
          go_wp2_with (first
            | (refine wpList_load_mid rfl 23 (.tmp 3) rfl w.heap.size 0 rfl [.int .i64 (c : Int), .int .i64 (p : Int)] _ X11.out.range Tryd.underlying23 rfl infoGeo ?_)
            | (go_at_call 15; (with_reducible refine (HCP.out u11).mono ?_); rintro e u12 ⟨rfl, bb⟩; have W12 := Lib.hid (W11.out.on bb); have X12 := Lib.hid (X11.out.below bb X11.out.lt); clear bb)
            | (refine wpList_wanted rfl (.agg #[.int .i64 (c : Int), .int .i64 (p : Int)]) (ex_geo (x := .tmp 3) rfl rfl X12.out) ?_)
            | (go_at_call 14; (with_reducible refine (HPZ.out u12).mono ?_); rintro e u13 ⟨rfl, bb⟩; have W13 := Lib.hid (W12.out.on bb); have X13 := Lib.hid (X12.out.below bb X12.out.lt); clear bb)
            | (go_at_call 10; (with_reducible refine (HAW.out u13).mono ?_); rintro e u14 ⟨rfl, bb⟩; have W14 := Lib.hid (W13.out.on bb); have X14 := Lib.hid (X13.out.below bb X13.out.lt); clear bb))
          go_ret
          exact ⟨rfl, W14.out⟩
      · have f1 : (n : Int) < (m : Int) := by omega
        have f2 : ¬ (m : Int) < (n : Int) := by omega
        have f3 : B + Q ≤ A := HGT.out h
        have f4 : ¬ A < B + Q := by omega
        have f5 : ((m : Int) == (n : Int)) = false := by simpa using (show ¬ (m : Int) = (n : Int) by omega)
        have f6 : (A == B) = false := by simpa using (show ¬ A = B by omega)
        have f7 : ¬ (m : Int) = (n : Int) := by omega
        have f8 : ¬ A = B := by omega
        clear HLT HGT HEQ h
        go_upto_region 10 with (first
          | (refine wpList_load_mid rfl 23 (.tmp 3) rfl w.heap.size 0 rfl [.int .i64 (c : Int), .int .i64 (p : Int)] _ X9.out.range Tryd.underlying23 rfl infoGeo ?_)
          | (go_at_call 14; (with_reducible refine (HP0.out u9).mono ?_); rintro e u10 ⟨rfl, bb⟩; have W10 := Lib.hid (W9.out.on bb); have X10 := Lib.hid (X9.out.below bb X9.out.lt); clear bb)
          | (go_at_call 13; (with_reducible refine (HR1.out u10).mono ?_); rintro e u11 ⟨rfl, bb⟩; have W11 := Lib.hid (W10.out.on bb); have X11 := Lib.hid (X10.out.below bb X10.out.lt); clear bb))
        by_cases hK0 : K = 0
        · subst hK0
          by_cases hs : a2 < 4096
          · clear HKP HKZ
            go_wp2_with (first
              | (refine wpList_load_mid rfl 23 (.tmp 3) rfl w.heap.size 0 rfl [.int .i64 (c : Int), .int .i64 (p : Int)] _ X11.out.range Tryd.underlying23 rfl infoGeo ?_)
              | (go_at_call 15; (with_reducible refine (HCP.out u11).mono ?_); rintro e u12 ⟨rfl, bb⟩; have W12 := Lib.hid (W11.out.on bb); have X12 := Lib.hid (X11.out.below bb X11.out.lt); clear bb)
              | (refine wpList_load_mid rfl 23 (.tmp 3) rfl w.heap.size 0 rfl [.int .i64 (c : Int), .int .i64 (p : Int)] _ X12.out.range Tryd.underlying23 rfl infoGeo ?_)
              | (go_at_call 14; (with_reducible refine (HP0.out u12).mono ?_); rintro e u13 ⟨rfl, bb⟩; have W13 := Lib.hid (W12.out.on bb); have X13 := Lib.hid (X12.out.below bb X12.out.lt); clear bb)
              | (go_at_call 10; (with_reducible refine (HAW.out u13).mono ?_); rintro e u14 ⟨rfl, bb⟩; have W14 := Lib.hid (W13.out.on bb); have X14 := Lib.hid (X13.out.below bb X13.out.lt); clear bb))
            go_ret
            exact ⟨rfl, W14.out⟩
          · have hz := HKZ.out rfl (by omega)
            have hd : decide (a2 < 4096) = false := decide_eq_false hs
            have az : IntKind.i64.wrap (a2 - 4096) = a2 - 4096 := by rw [IntKind.wrap_i64]; omega
            clear HKP HKZ
            go_wp2_with (first
              | (refine wpList_load_mid rfl 23 (.tmp 3) rfl w.heap.size 0 rfl [.int .i64 (c : Int), .int .i64 (p : Int)] _ X11.out.range Tryd.underlying23 rfl infoGeo ?_)
              | (go_at_call 15; (with_reducible refine (HCP.out u11).mono ?_); rintro e u12 ⟨rfl, bb⟩; have W12 := Lib.hid (W11.out.on bb); have X12 := Lib.hid (X11.out.below bb X11.out.lt); clear bb)
              | (refine wpList_load_mid rfl 23 (.tmp 3) rfl w.heap.size 0 rfl [.int .i64 (c : Int), .int .i64 (p : Int)] _ X12.out.range Tryd.underlying23 rfl infoGeo ?_)
              | (go_at_call 14; (with_reducible refine (HP0.out u12).mono ?_); rintro e u13 ⟨rfl, bb⟩; have W13 := Lib.hid (W12.out.on bb); have X13 := Lib.hid (X12.out.below bb X12.out.lt); clear bb)
              | (refine wpList_wanted rfl (.agg #[.int .i64 (c : Int), .int .i64 (p : Int)]) (ex_geo (x := .tmp 3) rfl rfl X13.out) ?_)
              | (go_at_call 14; (with_reducible refine (HP0.out u13).mono ?_); rintro e u14 ⟨rfl, bb⟩; have W14 := Lib.hid (W13.out.on bb); have X14 := Lib.hid (X13.out.below bb X13.out.lt); clear bb)
              | (go_at_call 10; (with_reducible refine (HAW.out u14).mono ?_); rintro e u15 ⟨rfl, bb⟩; have W15 := Lib.hid (W14.out.on bb); have X15 := Lib.hid (X14.out.below bb X14.out.lt); clear bb))
            go_ret
            exact ⟨rfl, W15.out⟩
        · obtain ⟨k1, k2, k3, k4⟩ := HKP.out hK0
          obtain ⟨k, hk⟩ : ∃ k : Nat, K - 1 = (k : Int) := ⟨(K - 1).toNat, by omega⟩
          rw [hk] at k4
          obtain ⟨Z, hZ⟩ : ∃ Z, Z = 4096 + (k : Int) * Q := ⟨_, rfl⟩
          have HPZ := Lib.hid (fun W => HPK.out k (by omega) W)
          rw [← hZ] at HPZ k4
          have ak : IntKind.i64.wrap (K - 1) = (k : Int) := by rw [IntKind.wrap_i64]; omega
          have ak2 : IntKind.u32.wrap (k : Int) = (k : Int) := by rw [IntKind.wrap_u32]; omega
          have asub : IntKind.i64.wrap (a2 - Q) = a2 - Q := by rw [IntKind.wrap_i64]; omega
          have kb : (K == 0) = false := by simpa using hK0
          clear hk hZ HKP HKZ HPK
          go_wp2_with (first
            | (refine wpList_load_mid rfl 23 (.tmp 3) rfl w.heap.size 0 rfl [.int .i64 (c : Int), .int .i64 (p : Int)] _ X11.out.range Tryd.underlying23 rfl infoGeo ?_)
            | (go_at_call 15; (with_reducible refine (HCP.out u11).mono ?_); rintro e u12 ⟨rfl, bb⟩; have W12 := Lib.hid (W11.out.on bb); have X12 := Lib.hid (X11.out.below bb X11.out.lt); clear bb)
            | (refine wpList_wanted rfl (.agg #[.int .i64 (c : Int), .int .i64 (p : Int)]) (ex_geo (x := .tmp 3) rfl rfl X12.out) ?_)
            | (go_at_call 14; (with_reducible refine (HPZ.out u12).mono ?_); rintro e u13 ⟨rfl, bb⟩; have W13 := Lib.hid (W12.out.on bb); have X13 := Lib.hid (X12.out.below bb X12.out.lt); clear bb)
            | (go_at_call 10; (with_reducible refine (HAW.out u13).mono ?_); rintro e u14 ⟨rfl, bb⟩; have W14 := Lib.hid (W13.out.on bb); have X14 := Lib.hid (X13.out.below bb X13.out.lt); clear bb))
          go_ret
          exact ⟨rfl, W14.out⟩
set_option maxRecDepth 100000 in
theorem reads (os : Os) {H : Type} (enc : TypeId × Value → H) : ∃ places, DataW.whole enc Tryd.prog ((World.doorLaid Tryd.prog 400 os).forCall (fun _ _ => 0) ⟨#[], #[.agg #[.int .i64 0, .int .i64 0], .agg (rowI .u16 (List.replicate 2 0)).toArray, .int .i64 0], []⟩).memory Tryd.f5.params.toList Rows.superApartSpec.vars false (#[.agg #[.int .i64 0, .int .i64 0], .agg (rowI .u16 (List.replicate 2 0)).toArray, .int .i64 0] : Array Value).toList 8 = some ([.agg [.lit (.int .i64 0), .lit (.int .i64 0)], litI .u16 (List.replicate 2 0), .lit (.int .i64 0)], [], places) :=
  ⟨[], by kernel_rfl⟩
set_option linter.unusedVariables false in
set_option maxHeartbeats 1000000 in
set_option maxRecDepth 100000 in
theorem lifted (os : Os) (started : os.Started) (H : Type) (enc : TypeId × Value → H) (F : Stop.Interp) :
    ReturnsInHanded {} Tryd.checked os 5 .any ((OpenSpec.ofChange Rows.superApartSpec).preRow enc Tryd.prog Tryd.f5 Rows.superApartRow.domain false laidP) (((OpenSpec.ofChange Rows.superApartSpec).at F).post enc Tryd.prog Tryd.f5 false true false false) := by
  obtain ⟨places, hx⟩ := reads os enc
  refine returnsInHanded_of_row (C := Tryd.checked) (s := OpenSpec.ofChange Rows.superApartSpec) own started (by kernel_rfl) Tryd.func5
    (witness_row_atRef (enc := enc) (C := Tryd.checked) false (World.doorLaid Tryd.prog 400 os) #[.agg #[.int .i64 0, .int .i64 0], .agg (rowI .u16 (List.replicate 2 0)).toArray, .int .i64 0] rfl (by kernel_rfl) (by kernel_rfl) (by kernel_rfl)
      (OpenSpec.preRow_of_cond 8 hx (by kernel_rfl) (fun k hk => by cases hk) (by kernel_rfl) (doorP_met os _))) ?_
  intro W base args ds gs before hval0 hW _ hcond hsz0 hL _ _
  have hsz : (DataW.weightsEach Tryd.prog (Tryd.f5.params.toList ++ Rows.superApartSpec.plain.varTypes Tryd.prog) (ds ++ gs)).all (· ≤ reachBytes) = true := hsz0
  clear hsz0
  have hval : ∀ (j : Nat) t v, Tryd.f5.params[j]? = some t → args[j]? = some v → Value.okWide Tryd.prog W .any base t v := hval0
  have hW' := hW
  obtain ⟨p, q, hA0, hV, rfl, _, _⟩ := hW
  have hA : DataW.TrodAll enc Tryd.prog W 0 (fun _ => true) true Tryd.f5.params.toList args.toList ds p := hA0
  rw [Tryd.params5] at hA hval hsz
  obtain ⟨v0, vs0, d0, ds0, p0, q0, hargs, rfl, rfl, g0, r0⟩ := trodAll_cons hA
  obtain ⟨v1, vs1, d1, ds1, p1, q1, rfl, rfl, rfl, g1, r1⟩ := trodAll_cons r0
  obtain ⟨v2, vs2, d2, ds2, p2, q2, rfl, rfl, rfl, g2, r2⟩ := trodAll_cons r1
  obtain ⟨rfl, rfl, rfl⟩ := trodAll_nil r2
  obtain rfl : args = #[v0, v1, v2] := by cases args; simp_all
  obtain ⟨rfl, rfl⟩ := trodVars_none hV
  obtain ⟨a0, b0, w0, x0, rfl, rfl, rfl⟩ := open_geo (hval 0 23 v0 rfl rfl) g0
  obtain ⟨l1, h1, rfl, rfl, rfl⟩ := open_arr Tryd.underlying39 Tryd.underlying35 cells35 (hval 1 39 v1 rfl rfl) cells39 g1
  obtain ⟨a2, rfl, rfl, rfl, w2⟩ := open_int Tryd.underlying3 (hval 2 3 v2 rfl rfl) g2
  clear hA0 hval0
  have hlt := hW'.lt
  refine (walk W (tabP_of_laid hL) a0 b0 w0 x0 l1 h1 a2 w2).mono fun e W' ⟨he, hb⟩ => ?_
  subst he
  have hargs : DataW.TrodAll enc Tryd.prog W' 0 (fun b => decide (b < W.heap.size)) true _ _ _ _ := (trodAll_cons_mk (shut_geo w0 x0) (trodAll_cons_mk (shut_arr Tryd.underlying39 Tryd.underlying35 cells35 cells39 h1) (trodAll_cons_mk (shut_int Tryd.underlying3 w2) trodAll_mk0)))
  simp only [List.append_nil] at hW' hargs
  exact ⟨_, rfl, post_law hW' (trodAll_cons_mk (shut_bool Tryd.underlying4 _) trodAll_mk0) hargs rfl hb⟩
theorem over : Rows.superApartRow.holds Tryd.pinned (OpenSpec.ofChange Rows.superApartSpec) :=
  OpenClaim.holds_of_cond 5 Tryd.f5 rfl rfl rfl rfl rfl rfl rfl ⟨rfl, rfl, rfl, rfl, rfl⟩ rfl rfl rfl rfl rfl (by kernel_rfl) Tryd.func5 (by kernel_rfl)
    (of_decide_eq_true (by kernel_rfl)) (by unfold Func.isWrapper; first | (rw [if_pos (by decide +kernel)]; kernel_rfl) | (rw [if_neg (by decide +kernel)]; exact ⟨rfl, rfl⟩))
    (fun os started H enc _ F => by rw [OpenClaim.pre_eq_preRow]; exact lifted os started H enc F)

/-- The given statement. -/
theorem proved : Rows.SuperApartCardSaid :=
  Claim7.holds_tied_plain_at .later [] _ _ _ _
    over (fun _ h => by cases h) (by kernel_rfl) (fun _ h => by cases h) superApart_row_tie rfl ⟨rfl, rfl⟩ (by kernel_rfl) rfl
    (fun f fn hf hfn => by
      obtain rfl : f = 5 := Option.some.inj ((show Tryd.prog.funcNamed "reliquary/reliquarylaw13.SuperApart" = some 5 by kernel_rfl).symm.trans hf) |>.symm
      obtain rfl : fn = Tryd.f5 := (Option.some.inj (Tryd.func5.symm.trans hfn)).symm
      exact ⟨by kernel_rfl, fun j t ht => by
        rw [Tryd.params5] at ht
        have hm : t ∈ [23, 39, 3] := by simpa using Array.mem_of_getElem? ht
        have hall : ([23, 39, 3].all fun u => !Tryd.prog.wantsStandIn u) = true := by kernel_rfl
        exact (show Tryd.prog.wantsStandIn t = false by simpa using List.all_eq_true.1 hall t hm)⟩)
    (by kernel_rfl)
end Go.Proofs.YtflegnlldidmaaaDoor.superApart

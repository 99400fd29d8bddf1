/- WrapTurned: with another check than the right one nothing is opened; nor by another key, or of another sealed key, but where that has the very same check; and the law's closed case holds. No condition but that the program's two tables hold their constants when the call begins. -/
import Derived.Test.YtjemajenfkjelaaDoorRows
import Derived.Test.YtjemajenfkjelaaDoorWrapLaws
import Derived.Test.YtjemajenfkjelaaDoorDoorWrap
import Derived.Test.YtjemajenfkjelaaDoorTie
import Derived.Test.YtjemajenfkjelaaDoorCards
import Derived.SevenTiedAt
import Derived.Test.YtjemajenfkjelaaDoorGridArg
import Derived.Test.YtjemajenfkjelaaDoorMem
import Derived.WalkKit
import Derived.ProofKit
import Derived.OpenShut
import Derived.SizedLaws
import Derived.Carry
import Derived.Deep.DeepHandedRow
import Derived.Deep.DeepWitnessRowRef
namespace Go.Proofs.YtjemajenfkjelaaDoor.wrapTurned
open Go.ChangeShapes Go.WideShapes Go.ChangeAt Go.RowKit
open SM AM WM
theorem row_part {L : List Nat} (i : Nat) (j : Nat) (v : Value) (h : (row8 (rowAt L 32 i))[j]? = some v) : (row8 L)[i * 32 + j]? = some v := by
  rw [row8_rowAt, List.getElem?_take] at h
  split at h
  · rw [List.getElem?_drop] at h; exact h
  · cases h
theorem set_bytes {L : List Nat} {n : Nat} (hL : Bytes n L) (p x : Nat) (hp : p < n) (hx : x < 256) : Bytes n (L.set p x) :=
  ⟨by rw [List.length_set]; exact hL.1, fun k => by
    rw [gb_set _ _ _ _ (by rw [hL.1]; exact hp)]
    split
    · exact hx
    · exact hL.2 k⟩
theorem own : ownKnob Tryd.prog.godebug = none := by kernel_rfl
theorem cells23 : Tryd.prog.cellsOf 23 = 32 := by kernel_rfl
theorem cells37 : Tryd.prog.cellsOf 37 = 96 := by kernel_rfl
theorem cells5 : Tryd.prog.cellsOf 5 = 1 := by kernel_rfl
set_option linter.unusedVariables false in
set_option maxHeartbeats 8000000 in
set_option maxRecDepth 100000 in
theorem walk (w : World) (ht : TabX w ∧ TabP w) (l0 : List Nat) (h0 : Bytes (3 * 32) l0) (a1 : Int) (w1 : (Lit.int .u8 a1).wf = true) (a2 : Int) (w2 : (Lit.int .u8 a2).wf = true) :
    Calls Tryd.prog 6 #[.agg (row8 l0).toArray, .int .u8 a1, .int .u8 a2] w fun e w' => e = .returned (.bool true) ∧ Below w.heap.size w w' := by
  obtain ⟨TX, TP⟩ := ht
  obtain ⟨q, hq256, rfl⟩ : ∃ q : Nat, q < 256 ∧ a1 = (q : Int) := by
    have k : 0 ≤ a1 ∧ a1 ≤ 255 := by simpa [Lit.wf, IntKind.min, IntKind.max, IntKind.signed, IntKind.bits] using w1
    exact ⟨a1.toNat, by omega, by omega⟩
  obtain ⟨t, ht256, rfl⟩ : ∃ t : Nat, t < 256 ∧ a2 = (t : Int) := by
    have k : 0 ≤ a2 ∧ a2 ≤ 255 := by simpa [Lit.wf, IntKind.min, IntKind.max, IntKind.signed, IntKind.bits] using w2
    exact ⟨a2.toNat, by omega, by omega⟩
  clear w1 w2
  obtain ⟨p, hpq⟩ : ∃ p, p = q % 32 := ⟨_, rfl⟩
  have hp : p < 32 := by omega
  have hpI : (q : Int) % 32 = (p : Int) := by omega
  have hpT : Int.tmod (q : Int) 32 = (p : Int) := by rw [Int.tmod_eq_emod_of_nonneg (by omega)]; exact hpI
  have HQ0 := Lib.hid hpq
  clear hpq
  obtain ⟨K0, hK0⟩ : ∃ K, K = rowAt l0 32 0 := ⟨_, rfl⟩
  obtain ⟨K1, hK1⟩ : ∃ K, K = rowAt l0 32 1 := ⟨_, rfl⟩
  obtain ⟨K2, hK2⟩ : ∃ K, K = rowAt l0 32 2 := ⟨_, rfl⟩
  have bK0 : Bytes 32 K0 := by rw [hK0]; exact rowAt_bytes h0 0 (by omega)
  have bK1 : Bytes 32 K1 := by rw [hK1]; exact rowAt_bytes h0 1 (by omega)
  have bK2 : Bytes 32 K2 := by rw [hK2]; exact rowAt_bytes h0 2 (by omega)
  have HP0 := Lib.hid (fun j v (h : (row8 K0)[j]? = some v) => (show (row8 l0)[0 + j]? = some v by rw [hK0] at h; have := row_part 0 j v h; simpa using this))
  have HP1 := Lib.hid (fun j v (h : (row8 K1)[j]? = some v) => (show (row8 l0)[32 + j]? = some v by rw [hK1] at h; have := row_part 1 j v h; simpa using this))
  have HP2 := Lib.hid (fun j v (h : (row8 K2)[j]? = some v) => (show (row8 l0)[64 + j]? = some v by rw [hK2] at h; have := row_part 2 j v h; simpa using this))
  obtain ⟨Z, hZ⟩ : ∃ Z, Z = wseal K0 K2 := ⟨_, rfl⟩
  have bZ : Bytes 32 Z := by rw [hZ]; exact wseal_bytes K0 bK2
  obtain ⟨V, hV⟩ : ∃ V, V = wcheck K0 Z := ⟨_, rfl⟩
  have bV : Bytes 32 V := by rw [hV]; exact wcheck_bytes K0 Z
  obtain ⟨D, hD⟩ : ∃ D, D = V.set p (gb V p ^^^ t) := ⟨_, rfl⟩
  have bD : Bytes 32 D := by rw [hD]; exact set_bytes bV p _ hp (FM.lt_of_xor (bV.2 p) ht256)
  obtain ⟨Q, hQ⟩ : ∃ Q, Q = Z.set p (gb Z p ^^^ t) := ⟨_, rfl⟩
  have bQ : Bytes 32 Q := by rw [hQ]; exact set_bytes bZ p _ hp (FM.lt_of_xor (bZ.2 p) ht256)
  obtain ⟨E, hE⟩ : ∃ E, E = List.replicate 32 0 := ⟨_, rfl⟩
  have bE : Bytes 32 E := by rw [hE]; exact bytes_zero 32
  have HBE := Lib.hid (show Tryd.prog.built 23 [] = some (row8 E).toArray by rw [hE]; kernel_rfl)
  obtain ⟨Y, hY⟩ : ∃ Y, Y = wopen K0 Q V := ⟨_, rfl⟩
  have bY : Bytes 32 Y := by rw [hY]; exact wopen_bytes K0 bQ V
  obtain ⟨f, hf⟩ : ∃ f, f = werr K0 Q V := ⟨_, rfl⟩
  obtain ⟨U, hU⟩ : ∃ U, U = wopen K1 Z V := ⟨_, rfl⟩
  have bU : Bytes 32 U := by rw [hU]; exact wopen_bytes K1 bZ V
  obtain ⟨g, hg⟩ : ∃ g, g = werr K1 Z V := ⟨_, rfl⟩
  have hvv := fun w => run_eql_sum bV bV w
  have hee := fun w => run_eql_keyW bE bE w
  simp only [decide_true] at hvv hee
  obtain ⟨D0, hD0⟩ : ∃ D0, D0 = row8 (List.replicate 32 0) := ⟨_, rfl⟩
  have hz : ∀ w, (zeroValue 23).run Tryd.prog w = .ok (.agg D0.toArray) w := by rw [hD0]; exact zeroKeyW
  have hz2 : ∀ w, (zeroValue 24).run Tryd.prog w = .ok (.agg D0.toArray) w := by rw [hD0]; exact zeroSumW
  have hd0 : D0.length = 32 := by rw [hD0, row8_len, List.length_replicate]
  have K032 := Lib.hid (show (row8 K0).length = 32 by rw [row8_len]; exact bK0.1)
  have K132 := Lib.hid (show (row8 K1).length = 32 by rw [row8_len]; exact bK1.1)
  have K232 := Lib.hid (show (row8 K2).length = 32 by rw [row8_len]; exact bK2.1)
  have Z32 := Lib.hid (show (row8 Z).length = 32 by rw [row8_len]; exact bZ.1)
  have V32 := Lib.hid (show (row8 V).length = 32 by rw [row8_len]; exact bV.1)
  have D32 := Lib.hid (show (row8 D).length = 32 by rw [row8_len]; exact bD.1)
  have Q32 := Lib.hid (show (row8 Q).length = 32 by rw [row8_len]; exact bQ.1)
  have E32 := Lib.hid (show (row8 E).length = 32 by rw [row8_len]; exact bE.1)
  have Y32 := Lib.hid (show (row8 Y).length = 32 by rw [row8_len]; exact bY.1)
  have U32 := Lib.hid (show (row8 U).length = 32 by rw [row8_len]; exact bU.1)
  have HS := Lib.hid (fun W (hW : Below w.heap.size w W) => pseal_any K0 K2 bK0 bK2 W (TX.below hW) (TP.below hW))
  rw [← hZ, ← hV] at HS
  have HOD := Lib.hid (fun (hne : t ≠ 0) W (hW : Below w.heap.size w W) => (show Calls Tryd.prog 13 #[.agg (row8 K0).toArray, .agg (row8 Z).toArray, .agg (row8 D).toArray] W fun e w' => e = .returned (.tuple #[.agg (row8 E).toArray, .int .i64 30]) ∧ Below W.heap.size W w' by
    have h := popen_any K0 Z D bK0 bZ bD W (TX.below hW) (TP.below hW)
    have hn : ¬ wcheck K0 Z = D := fun e => by
      rw [← hV] at e
      have e2 : gb V p = gb D p := by rw [← e]
      rw [hD, gb_set _ _ _ _ (by rw [bV.1]; exact hp), if_pos rfl] at e2
      have e3 := congrArg (gb V p ^^^ ·) e2
      simp [← Nat.xor_assoc] at e3
      exact hne e3.symm
    unfold wopen werr at h
    rw [if_neg hn, if_neg hn, ← hE] at h
    exact h))
  have HOT := Lib.hid (fun W (hW : Below w.heap.size w W) => popen_any K0 Q V bK0 bQ bV W (TX.below hW) (TP.below hW))
  rw [← hY, ← hf] at HOT
  have HOR := Lib.hid (fun W (hW : Below w.heap.size w W) => popen_any K1 Z V bK1 bZ bV W (TX.below hW) (TP.below hW))
  rw [← hU, ← hg] at HOR
  have HCP0 := Lib.hid (fun W (hW : Below w.heap.size w W) => pcheck_any K0 Q bK0 bQ W (TP.below hW))
  have HCR0 := Lib.hid (fun W (hW : Below w.heap.size w W) => pcheck_any K1 Z bK1 bZ W (TP.below hW))
  have HYE := Lib.hid (fun (h : ¬ wcheck K0 Q = V) => (show E = Y ∧ f = 30 by rw [hY, hf, hE]; unfold wopen werr; rw [if_neg h, if_neg h]; exact ⟨rfl, rfl⟩))
  have HYO := Lib.hid (fun (h : wcheck K0 Q = V) => (show f = 0 by rw [hf]; unfold werr; rw [if_pos h]))
  have HUE := Lib.hid (fun (h : ¬ wcheck K1 Z = V) => (show E = U ∧ g = 30 by rw [hU, hg, hE]; unfold wopen werr; rw [if_neg h, if_neg h]; exact ⟨rfl, rfl⟩))
  have HUO := Lib.hid (fun (h : wcheck K1 Z = V) => (show g = 0 by rw [hg]; unfold werr; rw [if_pos h]))
  have HV := Lib.hid bV
  have HZ := Lib.hid bZ
  have HD := Lib.hid hD
  have HQ := Lib.hid hQ
  have HAW := Lib.hid (fun W (hW : Below w.heap.size w W) => wawake_any W (TX.below hW) (TP.below hW))
  have v1 := (Below.refl w.heap.size w).alloc (Nat.le_refl _) (.cells (row8 l0).toArray 37)
  obtain ⟨w0, hw0⟩ : ∃ W, W = (w.alloc (.cells (row8 l0).toArray 37)) := ⟨_, rfl⟩
  have x0 := Blk.new w 37 (row8 l0) (w.heap.size) rfl
  rw [← hw0] at v1 x0
  have X00 := Lib.hid x0
  have W0 := Lib.hid v1
  have HW0 := Lib.hid hw0
  clear hw0 v1 x0
  clear hK0 hK1 hK2 bK0 bK1 bK2 hZ bZ hV bV hD bD hQ bQ hE bE hY bY hf hU bU hg hD0 TX TP
  go_enter Tryd.func6, Tryd.ntmps6
  go_upto_region 1 with (fail)
  rw [← HW0.out]
  refine wp_region_s (by kernel_rfl) 12 (by decide) (fun i => [20, 21, 22, 23, 24, 25, 7, 8, 9, 7, 8, 9].getD i 0) (by kernel_rfl) (by kernel_rfl) (by kernel_rfl) (w0.heap.size) (Nat.le_refl _) [.val (.pointer (some ⟨w.heap.size, 0, none⟩)), .val (.agg (row8 K0).toArray), .val (.pointer (some ⟨w.heap.size, 32, none⟩)), .val (.agg (row8 K1).toArray), .val (.pointer (some ⟨w.heap.size, 64, none⟩)), .val (.agg (row8 K2).toArray), .blk 23 D0, .blk 23 D0, .blk 23 D0, .blk 23 (row8 K0), .blk 23 (row8 K1), .blk 23 (row8 K2)] (fun j => if j = 8 then 11 else if j = 7 then 10 else if j = 6 then 9 else 12) ?_ ?_
  · refine ⟨?_, ?_, ?_, ?_, ?_, ?_, ?_, ?_, ?_, ?_, ?_, ?_, trivial⟩
    · intro a w' hF hB hd
      have e3 : a.eval (.tmp 3) = .pointer (some ⟨w.heap.size, 0, none⟩) := hF 3 (by decide +kernel)
      exact DoesG.toS (doesG_val rfl (v := .pointer (some ⟨w.heap.size, 0, none⟩)) (by unfold execOp; simp only [e3]; go_simp) rfl rfl) nofun (by decide +kernel)
    · intro a w' hF hB hd
      have e20 : a.eval (.tmp 20) = .pointer (some ⟨w.heap.size, 0, none⟩) := hd 0 (by decide +kernel) (.inr (by decide))
      exact DoesG.toS (doesG_wp rfl rfl fun K' hK' => wp_load_mid 23 (.tmp 20) rfl w.heap.size 0 e20 (row8 K0) _ (range_part (X00.out.below hB X00.out.lt) 0 (row8 K0) HP0.out) Tryd.underlying23 rfl (by rw [K032.out]; exact infoKeyL) (hK' _ _ rfl (Below.refl _ _))) nofun (by decide +kernel)
    · intro a w' hF hB hd
      have e3 : a.eval (.tmp 3) = .pointer (some ⟨w.heap.size, 0, none⟩) := hF 3 (by decide +kernel)
      exact DoesG.toS (doesG_val rfl (v := .pointer (some ⟨w.heap.size, 32, none⟩)) (by unfold execOp; simp only [e3]; go_simp) rfl rfl) nofun (by decide +kernel)
    · intro a w' hF hB hd
      have e22 : a.eval (.tmp 22) = .pointer (some ⟨w.heap.size, 32, none⟩) := hd 2 (by decide +kernel) (.inr (by decide))
      exact DoesG.toS (doesG_wp rfl rfl fun K' hK' => wp_load_mid 23 (.tmp 22) rfl w.heap.size 32 e22 (row8 K1) _ (range_part (X00.out.below hB X00.out.lt) 32 (row8 K1) HP1.out) Tryd.underlying23 rfl (by rw [K132.out]; exact infoKeyL) (hK' _ _ rfl (Below.refl _ _))) nofun (by decide +kernel)
    · intro a w' hF hB hd
      have e3 : a.eval (.tmp 3) = .pointer (some ⟨w.heap.size, 0, none⟩) := hF 3 (by decide +kernel)
      exact DoesG.toS (doesG_val rfl (v := .pointer (some ⟨w.heap.size, 64, none⟩)) (by unfold execOp; simp only [e3]; go_simp) rfl rfl) nofun (by decide +kernel)
    · intro a w' hF hB hd
      have e24 : a.eval (.tmp 24) = .pointer (some ⟨w.heap.size, 64, none⟩) := hd 4 (by decide +kernel) (.inr (by decide))
      exact DoesG.toS (doesG_wp rfl rfl fun K' hK' => wp_load_mid 23 (.tmp 24) rfl w.heap.size 64 e24 (row8 K2) _ (range_part (X00.out.below hB X00.out.lt) 64 (row8 K2) HP2.out) Tryd.underlying23 rfl (by rw [K232.out]; exact infoKeyL) (hK' _ _ rfl (Below.refl _ _))) nofun (by decide +kernel)
    · intro a w' hF hB hd
      exact DoesG.toS (doesG_alloc rfl 23 D0 rfl hz hB.size rfl) nofun (by decide +kernel)
    · intro a w' hF hB hd
      exact DoesG.toS (doesG_alloc rfl 23 D0 rfl hz hB.size rfl) nofun (by decide +kernel)
    · intro a w' hF hB hd
      exact DoesG.toS (doesG_alloc rfl 23 D0 rfl hz hB.size rfl) nofun (by decide +kernel)
    · intro a w' hF hB hd
      have e7 := hd 6 (by decide +kernel) (.inl (by decide))
      have e21 : a.eval (.tmp 21) = .agg (row8 K0).toArray := hd 1 (by decide +kernel) (.inr (by decide))
      exact doesS_store rfl 23 23 7 (.tmp 21) rfl rfl 6 (by decide +kernel) (by decide) D0 (row8 K0) rfl rfl rfl e7 e21 (by rw [K032.out, hd0]) (by rw [K032.out]; exact infoKeyL) (row8_one _) rfl
    · intro a w' hF hB hd
      have e8 := hd 7 (by decide +kernel) (.inl (by decide))
      have e23 : a.eval (.tmp 23) = .agg (row8 K1).toArray := hd 3 (by decide +kernel) (.inr (by decide))
      exact doesS_store rfl 23 23 8 (.tmp 23) rfl rfl 7 (by decide +kernel) (by decide) D0 (row8 K1) rfl rfl rfl e8 e23 (by rw [K132.out, hd0]) (by rw [K132.out]; exact infoKeyL) (row8_one _) rfl
    · intro a w' hF hB hd
      have e9 := hd 8 (by decide +kernel) (.inl (by decide))
      have e25 : a.eval (.tmp 25) = .agg (row8 K2).toArray := hd 5 (by decide +kernel) (.inr (by decide))
      exact doesS_store rfl 23 23 9 (.tmp 25) rfl rfl 8 (by decide +kernel) (by decide) D0 (row8 K2) rfl rfl rfl e9 e25 (by rw [K232.out, hd0]) (by rw [K232.out]; exact infoKeyL) (row8_one _) rfl
  · intro vs w1 hb hss hv hap
    obtain ⟨ka, q0, _, hka⟩ : ∃ c, vs 9 = .pointer (some ⟨c, 0, none⟩) ∧ w0.heap.size ≤ c ∧ Blk w1 c 23 (row8 K0) := hv 9 (by decide) (by decide)
    have e0 : vs 6 = .pointer (some ⟨ka, 0, none⟩) := by rw [← q0]; exact hss 6 9 (by decide)
    have KA1 := Lib.hid hka
    obtain ⟨kb, q1, _, hkb⟩ : ∃ c, vs 10 = .pointer (some ⟨c, 0, none⟩) ∧ w0.heap.size ≤ c ∧ Blk w1 c 23 (row8 K1) := hv 10 (by decide) (by decide)
    have e1 : vs 7 = .pointer (some ⟨kb, 0, none⟩) := by rw [← q1]; exact hss 7 10 (by decide)
    have KB1 := Lib.hid hkb
    obtain ⟨kc, q2, _, hkc⟩ : ∃ c, vs 11 = .pointer (some ⟨c, 0, none⟩) ∧ w0.heap.size ≤ c ∧ Blk w1 c 23 (row8 K2) := hv 11 (by decide) (by decide)
    have e2 : vs 8 = .pointer (some ⟨kc, 0, none⟩) := by rw [← q2]; exact hss 8 11 (by decide)
    have KC1 := Lib.hid hkc
    simp only [List.take_succ_cons, List.take_zero, List.drop_succ_cons, List.drop_zero, putOps, Act.put, List.setIfInBounds_toArray, List.set_cons_zero, List.set_cons_succ, e0, e1, e2]
    have W1 := Lib.hid (W0.out.on hb)
    clear hv hap hss hb e0 e1 e2 q0 q1 q2 hka hkb hkc
    generalize vs 0 = y0 at *
    generalize vs 1 = y1 at *
    generalize vs 2 = y2 at *
    generalize vs 3 = y3 at *
    generalize vs 4 = y4 at *
    generalize vs 5 = y5 at *
    have HS1 := Lib.hid (HS.out w1 W1.out)
    go_upto_region 3 with (first
    | (refine wpList_load_mid rfl 23 (.tmp 7) rfl ka 0 rfl (row8 K0) _ KA1.out.range Tryd.underlying23 rfl (by rw [K032.out]; exact infoKeyL) ?_)
    | (refine wpList_load_mid rfl 23 (.tmp 9) rfl kc 0 rfl (row8 K2) _ KC1.out.range Tryd.underlying23 rfl (by rw [K232.out]; exact infoKeyL) ?_)
    | (go_at_call 8; (with_reducible refine HS1.out.mono ?_); rintro e w2 ⟨rfl, b⟩; have W2 := Lib.hid (W1.out.on b); have KA2 := Lib.hid (KA1.out.below b KA1.out.lt); have KB2 := Lib.hid (KB1.out.below b KB1.out.lt); have KC2 := Lib.hid (KC1.out.below b KC1.out.lt);  clear b)
    | (refine wpList_store_blk rfl 23 (.tmp 10) (.tmp 30) rfl w2.heap.size 0 (row8 Z) rfl rfl 23 D0 ((Blk.new w2 23 D0 _ rfl).alloc (.cells D0.toArray 24)) (by rw [Z32.out, hd0]; exact Nat.le_refl _) (by rw [Z32.out]; exact infoKeyL) (row8_one _) ?_; intro w3 b g; rw [splice_all _ _ (by rw [Z32.out, hd0])] at b; have P3 := Lib.hid (two_a g); have Y3 := Lib.hid (two_blk g); have ZB3 := Lib.hid b; clear b g)
    | (refine wpList_store_blk rfl 24 (.tmp 11) (.tmp 31) rfl (w2.heap.size + 1) 0 (row8 V) rfl rfl 24 D0 Y3.out (by rw [V32.out, hd0]; exact Nat.le_refl _) (by rw [V32.out]; exact infoS) (row8_one _) ?_; intro w4 b g; rw [splice_all _ _ (by rw [V32.out, hd0])] at b; have hbw : Below w2.heap.size w2 w4 := P3.out.grown g P3.out.size (fun k hk => by have e : w2.heap.size + 1 = k := Option.some.inj hk; omega); have ZB4 := Lib.hid (ZB3.out.grown g (fun q => by have e : w2.heap.size = w2.heap.size + 1 := Option.some.inj q; omega)); have VB4 := Lib.hid b; have W4 := Lib.hid (W2.out.on hbw); have KA4 := Lib.hid (KA2.out.below hbw KA2.out.lt); have KB4 := Lib.hid (KB2.out.below hbw KB2.out.lt); have KC4 := Lib.hid (KC2.out.below hbw KC2.out.lt);  clear b g hbw))
    clear HS HS1 X00 W0 KA1 KB1 KC1 W1 KA2 KB2 KC2 W2 P3 Y3 ZB3 HP0 HP1 HP2
    generalize y0 = z0 at *
    by_cases ht0 : t = 0
    · subst ht0
      have HA4 := Lib.hid (HAW.out w4 W4.out)
      go_wp2_with (go_at_call 12; (with_reducible refine HA4.out.mono ?_); rintro e wz ⟨rfl, bz⟩; have WZ := Lib.hid (W4.out.on bz); clear bz)
      go_ret
      exact ⟨rfl, WZ.out⟩
    · have ht0I : ¬ (t : Int) = 0 := by omega
      have KAL := Lib.hid KA4.out.lt
      have KBL := Lib.hid KB4.out.lt
      have KCL := Lib.hid KC4.out.lt
      have ZBL := Lib.hid ZB4.out.lt
      have VBL := Lib.hid VB4.out.lt
      go_upto_region 6 with (first
    | (refine wpList_load_mid rfl 24 (.tmp 11) rfl (w2.heap.size + 1) 0 rfl (row8 V) _ VB4.out.range Tryd.underlying24 rfl (by rw [V32.out]; exact infoS) ?_)
    | (refine wpList_store_blk rfl 24 (.tmp 12) (.tmp 35) rfl w4.heap.size 0 (row8 V) rfl rfl 24 D0 (Blk.new w4 24 D0 _ rfl) (by rw [V32.out, hd0]; exact Nat.le_refl _) (by rw [V32.out]; exact infoS) (row8_one _) ?_; intro w5 b g; rw [splice_all _ _ (by rw [V32.out, hd0])] at b; have hbw : Below w4.heap.size w4 w5 := alloc_turn (Below.refl _ _) g; have DB5 := Lib.hid b; have W5 := Lib.hid (W4.out.on hbw); have KA5 := Lib.hid (KA4.out.below hbw KA4.out.lt); have KB5 := Lib.hid (KB4.out.below hbw KB4.out.lt); have KC5 := Lib.hid (KC4.out.below hbw KC4.out.lt); have ZB5 := Lib.hid (ZB4.out.below hbw ZB4.out.lt); have VB5 := Lib.hid (VB4.out.below hbw VB4.out.lt);  clear b g hbw))
      clear KA4 KB4 KC4 ZB4 VB4
      have cv := DB5.out.cell p _ (row8_val V p (by rw [HV.out.1]; exact hp))
      have fv := DB5.out.free p
      have xv := u8_xor_nat (gb V p) t (HV.out.2 p) ht256
      go_upto_region 7 with (fail)
      have nd := DB5.out.set p (.int .u8 ((gb V p ^^^ t : Nat) : Int))
      rw [row8_set, ← HD.out] at nd
      have nka := KA5.out.other ⟨w4.heap.size, p, none⟩ (.int .u8 ((gb V p ^^^ t : Nat) : Int)) (by show _ ≠ w4.heap.size; have := KAL.out; omega)
      have nkb := KB5.out.other ⟨w4.heap.size, p, none⟩ (.int .u8 ((gb V p ^^^ t : Nat) : Int)) (by show _ ≠ w4.heap.size; have := KBL.out; omega)
      have nkc := KC5.out.other ⟨w4.heap.size, p, none⟩ (.int .u8 ((gb V p ^^^ t : Nat) : Int)) (by show _ ≠ w4.heap.size; have := KCL.out; omega)
      have nzb := ZB5.out.other ⟨w4.heap.size, p, none⟩ (.int .u8 ((gb V p ^^^ t : Nat) : Int)) (by show _ ≠ w4.heap.size; have := ZBL.out; omega)
      have nvb := VB5.out.other ⟨w4.heap.size, p, none⟩ (.int .u8 ((gb V p ^^^ t : Nat) : Int)) (by show _ ≠ w4.heap.size; have := VBL.out; omega)
      have nw := W5.out.setCell (p := ⟨w4.heap.size, p, none⟩) (by show w.heap.size ≤ w4.heap.size; have := W4.out.size; omega) (.int .u8 ((gb V p ^^^ t : Nat) : Int))
      generalize w5.setCell ⟨w4.heap.size, p, none⟩ (.int .u8 ((gb V p ^^^ t : Nat) : Int)) = w6 at nd nw nka nkb nkc nzb nvb ⊢
      have DB6 := Lib.hid nd
      have W6 := Lib.hid nw
      have KA6 := Lib.hid nka
      have KB6 := Lib.hid nkb
      have KC6 := Lib.hid nkc
      have ZB6 := Lib.hid nzb
      have VB6 := Lib.hid nvb
      clear cv fv xv nd nw nka nkb nkc nzb nvb
      have HO6 := Lib.hid (HOD.out ht0 w6 W6.out)
      clear KA5 KB5 KC5 ZB5 VB5 DB5 W5 KAL KBL KCL ZBL VBL
      go_upto_region 9 with (first
    | (refine wpList_load_mid rfl 23 (.tmp 7) rfl ka 0 rfl (row8 K0) _ KA6.out.range Tryd.underlying23 rfl (by rw [K032.out]; exact infoKeyL) ?_)
    | (refine wpList_load_mid rfl 23 (.tmp 10) rfl w2.heap.size 0 rfl (row8 Z) _ ZB6.out.range Tryd.underlying23 rfl (by rw [Z32.out]; exact infoKeyL) ?_)
    | (refine wpList_load_mid rfl 24 (.tmp 12) rfl w4.heap.size 0 rfl (row8 D) _ DB6.out.range Tryd.underlying24 rfl (by rw [D32.out]; exact infoS) ?_)
    | (go_at_call 13; (with_reducible refine HO6.out.mono ?_); rintro e w7 ⟨rfl, b⟩; have W7 := Lib.hid (W6.out.on b); have KA7 := Lib.hid (KA6.out.below b KA6.out.lt); have KB7 := Lib.hid (KB6.out.below b KB6.out.lt); have KC7 := Lib.hid (KC6.out.below b KC6.out.lt); have ZB7 := Lib.hid (ZB6.out.below b ZB6.out.lt); have VB7 := Lib.hid (VB6.out.below b VB6.out.lt); have DB7 := Lib.hid (DB6.out.below b DB6.out.lt);  clear b)
    | (refine wpList_store_blk rfl 23 (.tmp 13) (.tmp 50) rfl w7.heap.size 0 (row8 E) rfl rfl 23 D0 (Blk.new w7 23 D0 _ rfl) (by rw [E32.out, hd0]; exact Nat.le_refl _) (by rw [E32.out]; exact infoKeyL) (row8_one _) ?_; intro w8 b g; rw [splice_all _ _ (by rw [E32.out, hd0])] at b; have hbw : Below w7.heap.size w7 w8 := alloc_turn (Below.refl _ _) g; have XB8 := Lib.hid b; have W8 := Lib.hid (W7.out.on hbw); have KA8 := Lib.hid (KA7.out.below hbw KA7.out.lt); have KB8 := Lib.hid (KB7.out.below hbw KB7.out.lt); have KC8 := Lib.hid (KC7.out.below hbw KC7.out.lt); have ZB8 := Lib.hid (ZB7.out.below hbw ZB7.out.lt); have VB8 := Lib.hid (VB7.out.below hbw VB7.out.lt); have DB8 := Lib.hid (DB7.out.below hbw DB7.out.lt);  clear b g hbw)
    | (refine wpList_load_mid rfl 23 (.tmp 10) rfl w2.heap.size 0 rfl (row8 Z) _ ZB8.out.range Tryd.underlying23 rfl (by rw [Z32.out]; exact infoKeyL) ?_)
    | (refine wpList_store_blk rfl 23 (.tmp 15) (.tmp 52) rfl w8.heap.size 0 (row8 Z) rfl rfl 23 D0 (Blk.new w8 23 D0 _ rfl) (by rw [Z32.out, hd0]; exact Nat.le_refl _) (by rw [Z32.out]; exact infoKeyL) (row8_one _) ?_; intro w9 b g; rw [splice_all _ _ (by rw [Z32.out, hd0])] at b; have hbw : Below w8.heap.size w8 w9 := alloc_turn (Below.refl _ _) g; have TB9 := Lib.hid b; have W9 := Lib.hid (W8.out.on hbw); have KA9 := Lib.hid (KA8.out.below hbw KA8.out.lt); have KB9 := Lib.hid (KB8.out.below hbw KB8.out.lt); have KC9 := Lib.hid (KC8.out.below hbw KC8.out.lt); have ZB9 := Lib.hid (ZB8.out.below hbw ZB8.out.lt); have VB9 := Lib.hid (VB8.out.below hbw VB8.out.lt); have DB9 := Lib.hid (DB8.out.below hbw DB8.out.lt); have XB9 := Lib.hid (XB8.out.below hbw XB8.out.lt);  clear b g hbw))
      clear HO6 HOD KA6 KB6 KC6 ZB6 VB6 DB6 W6 KA7 KB7 KC7 ZB7 VB7 DB7 W7
      have KAL := Lib.hid KA8.out.lt
      have KBL := Lib.hid KB8.out.lt
      have KCL := Lib.hid KC8.out.lt
      have ZBL := Lib.hid ZB8.out.lt
      have VBL := Lib.hid VB8.out.lt
      have XBL := Lib.hid XB8.out.lt
      have cv := TB9.out.cell p _ (row8_val Z p (by rw [HZ.out.1]; exact hp))
      have fv := TB9.out.free p
      have xv := u8_xor_nat (gb Z p) t (HZ.out.2 p) ht256
      go_upto_region 10 with (fail)
      have nd := TB9.out.set p (.int .u8 ((gb Z p ^^^ t : Nat) : Int))
      rw [row8_set, ← HQ.out] at nd
      have nka := KA9.out.other ⟨w8.heap.size, p, none⟩ (.int .u8 ((gb Z p ^^^ t : Nat) : Int)) (by show _ ≠ w8.heap.size; have := KAL.out; omega)
      have nkb := KB9.out.other ⟨w8.heap.size, p, none⟩ (.int .u8 ((gb Z p ^^^ t : Nat) : Int)) (by show _ ≠ w8.heap.size; have := KBL.out; omega)
      have nkc := KC9.out.other ⟨w8.heap.size, p, none⟩ (.int .u8 ((gb Z p ^^^ t : Nat) : Int)) (by show _ ≠ w8.heap.size; have := KCL.out; omega)
      have nzb := ZB9.out.other ⟨w8.heap.size, p, none⟩ (.int .u8 ((gb Z p ^^^ t : Nat) : Int)) (by show _ ≠ w8.heap.size; have := ZBL.out; omega)
      have nvb := VB9.out.other ⟨w8.heap.size, p, none⟩ (.int .u8 ((gb Z p ^^^ t : Nat) : Int)) (by show _ ≠ w8.heap.size; have := VBL.out; omega)
      have nxb := XB9.out.other ⟨w8.heap.size, p, none⟩ (.int .u8 ((gb Z p ^^^ t : Nat) : Int)) (by show _ ≠ w8.heap.size; have := XBL.out; omega)
      have nw := W9.out.setCell (p := ⟨w8.heap.size, p, none⟩) (by show w.heap.size ≤ w8.heap.size; have := W8.out.size; omega) (.int .u8 ((gb Z p ^^^ t : Nat) : Int))
      generalize w9.setCell ⟨w8.heap.size, p, none⟩ (.int .u8 ((gb Z p ^^^ t : Nat) : Int)) = w10 at nd nw nka nkb nkc nzb nvb nxb ⊢
      have TB10 := Lib.hid nd
      have W10 := Lib.hid nw
      have KA10 := Lib.hid nka
      have KB10 := Lib.hid nkb
      have KC10 := Lib.hid nkc
      have ZB10 := Lib.hid nzb
      have VB10 := Lib.hid nvb
      have XB10 := Lib.hid nxb
      clear cv fv xv nd nw nka nkb nkc nzb nvb nxb
      have HO10 := Lib.hid (HOT.out w10 W10.out)
      clear KA8 KB8 KC8 ZB8 VB8 XB8 W8 KA9 KB9 KC9 ZB9 VB9 XB9 TB9 W9 KAL KBL KCL ZBL VBL XBL
      go_upto_region 12 with (first
    | (refine wpList_load_mid rfl 23 (.tmp 7) rfl ka 0 rfl (row8 K0) _ KA10.out.range Tryd.underlying23 rfl (by rw [K032.out]; exact infoKeyL) ?_)
    | (refine wpList_load_mid rfl 23 (.tmp 15) rfl w8.heap.size 0 rfl (row8 Q) _ TB10.out.range Tryd.underlying23 rfl (by rw [Q32.out]; exact infoKeyL) ?_)
    | (refine wpList_load_mid rfl 24 (.tmp 11) rfl (w2.heap.size + 1) 0 rfl (row8 V) _ VB10.out.range Tryd.underlying24 rfl (by rw [V32.out]; exact infoS) ?_)
    | (go_at_call 13; (with_reducible refine HO10.out.mono ?_); rintro e w11 ⟨rfl, b⟩; have W11 := Lib.hid (W10.out.on b); have KA11 := Lib.hid (KA10.out.below b KA10.out.lt); have KB11 := Lib.hid (KB10.out.below b KB10.out.lt); have KC11 := Lib.hid (KC10.out.below b KC10.out.lt); have ZB11 := Lib.hid (ZB10.out.below b ZB10.out.lt); have VB11 := Lib.hid (VB10.out.below b VB10.out.lt); have XB11 := Lib.hid (XB10.out.below b XB10.out.lt); have TB11 := Lib.hid (TB10.out.below b TB10.out.lt); have HO11 := Lib.hid (HOR.out w11 W11.out); clear b)
    | (refine wpList_store_blk rfl 23 (.tmp 16) (.tmp 67) rfl w11.heap.size 0 (row8 Y) rfl rfl 23 D0 (Blk.new w11 23 D0 _ rfl) (by rw [Y32.out, hd0]; exact Nat.le_refl _) (by rw [Y32.out]; exact infoKeyL) (row8_one _) ?_; intro w12 b g; rw [splice_all _ _ (by rw [Y32.out, hd0])] at b; have hbw : Below w11.heap.size w11 w12 := alloc_turn (Below.refl _ _) g; have YB12 := Lib.hid b; have W12 := Lib.hid (W11.out.on hbw); have KA12 := Lib.hid (KA11.out.below hbw KA11.out.lt); have KB12 := Lib.hid (KB11.out.below hbw KB11.out.lt); have KC12 := Lib.hid (KC11.out.below hbw KC11.out.lt); have ZB12 := Lib.hid (ZB11.out.below hbw ZB11.out.lt); have VB12 := Lib.hid (VB11.out.below hbw VB11.out.lt); have XB12 := Lib.hid (XB11.out.below hbw XB11.out.lt); have TB12 := Lib.hid (TB11.out.below hbw TB11.out.lt); have HO12 := Lib.hid (HOR.out w12 W12.out); clear b g hbw)
    | (refine wpList_load_mid rfl 23 (.tmp 8) rfl kb 0 rfl (row8 K1) _ KB12.out.range Tryd.underlying23 rfl (by rw [K132.out]; exact infoKeyL) ?_)
    | (refine wpList_load_mid rfl 23 (.tmp 10) rfl w2.heap.size 0 rfl (row8 Z) _ ZB12.out.range Tryd.underlying23 rfl (by rw [Z32.out]; exact infoKeyL) ?_)
    | (refine wpList_load_mid rfl 24 (.tmp 11) rfl (w2.heap.size + 1) 0 rfl (row8 V) _ VB12.out.range Tryd.underlying24 rfl (by rw [V32.out]; exact infoS) ?_)
    | (go_at_call 13; (with_reducible refine HO12.out.mono ?_); rintro e w13 ⟨rfl, b⟩; have W13 := Lib.hid (W12.out.on b); have KA13 := Lib.hid (KA12.out.below b KA12.out.lt); have KB13 := Lib.hid (KB12.out.below b KB12.out.lt); have KC13 := Lib.hid (KC12.out.below b KC12.out.lt); have ZB13 := Lib.hid (ZB12.out.below b ZB12.out.lt); have VB13 := Lib.hid (VB12.out.below b VB12.out.lt); have XB13 := Lib.hid (XB12.out.below b XB12.out.lt); have TB13 := Lib.hid (TB12.out.below b TB12.out.lt); have YB13 := Lib.hid (YB12.out.below b YB12.out.lt);  clear b)
    | (refine wpList_store_blk rfl 23 (.tmp 18) (.tmp 74) rfl w13.heap.size 0 (row8 U) rfl rfl 23 D0 (Blk.new w13 23 D0 _ rfl) (by rw [U32.out, hd0]; exact Nat.le_refl _) (by rw [U32.out]; exact infoKeyL) (row8_one _) ?_; intro w14 b g; rw [splice_all _ _ (by rw [U32.out, hd0])] at b; have hbw : Below w13.heap.size w13 w14 := alloc_turn (Below.refl _ _) g; have UB14 := Lib.hid b; have W14 := Lib.hid (W13.out.on hbw); have KA14 := Lib.hid (KA13.out.below hbw KA13.out.lt); have KB14 := Lib.hid (KB13.out.below hbw KB13.out.lt); have KC14 := Lib.hid (KC13.out.below hbw KC13.out.lt); have ZB14 := Lib.hid (ZB13.out.below hbw ZB13.out.lt); have VB14 := Lib.hid (VB13.out.below hbw VB13.out.lt); have XB14 := Lib.hid (XB13.out.below hbw XB13.out.lt); have TB14 := Lib.hid (TB13.out.below hbw TB13.out.lt); have YB14 := Lib.hid (YB13.out.below hbw YB13.out.lt);  clear b g hbw))
      clear HO10 HOT HOR HO11 HO12 KA10 KB10 KC10 ZB10 VB10 XB10 TB10 W10 KA11 KB11 KC11 ZB11 VB11 XB11 TB11 W11 KA12 KB12 KC12 ZB12 VB12 XB12 TB12 YB12 W12 KA13 KB13 KC13 ZB13 VB13 XB13 TB13 YB13 W13
      by_cases hP : wcheck K0 Q = V
      · have HCP := HCP0
        rw [hP] at HCP
        obtain rfl := HYO.out hP
        clear HYO HYE HCP0 hP
        by_cases hR : wcheck K1 Z = V
        · have HCR := HCR0
          rw [hR] at HCR
          obtain rfl := HUO.out hR
          clear HUO HUE HCR0 hR
          refine wp_region_g (by kernel_rfl) 43 (by decide) (by kernel_rfl) (by kernel_rfl) (by kernel_rfl) (w14.heap.size) (Nat.le_refl _) [.val (.int .i64 30), .val (.bool true), .val (.bool true), .val (.agg (row8 E).toArray), .val (.agg (row8 E).toArray), .val (.bool true), .val (.bool true), .val (.bool true), .val (.int .i64 0), .val (.bool false), .val (.bool false), .val undef, .val undef, .val undef, .val (.bool false), .val (.bool false), .val (.agg (row8 K0).toArray), .val (.agg (row8 Q).toArray), .val (.agg (row8 V).toArray), .val (.agg (row8 V).toArray), .val (.bool true), .val (.bool true), .val (.bool true), .val (.bool true), .val (.int .i64 0), .val (.bool false), .val (.bool false), .val undef, .val undef, .val undef, .val (.bool false), .val (.bool false), .val (.agg (row8 K1).toArray), .val (.agg (row8 Z).toArray), .val (.agg (row8 V).toArray), .val (.agg (row8 V).toArray), .val (.bool true), .val (.bool true), .val (.bool true), .val (.bool true), .val (.bool true), .val (.bool true), .val (.bool true)] (fun _ => 43) ?_ ?_
          · refine ⟨?_, ?_, ?_, ?_, ?_, ?_, ?_, ?_, ?_, ?_, ?_, ?_, ?_, ?_, ?_, ?_, ?_, ?_, ?_, ?_, ?_, ?_, ?_, ?_, ?_, ?_, ?_, ?_, ?_, ?_, ?_, ?_, ?_, ?_, ?_, ?_, ?_, ?_, ?_, ?_, ?_, ?_, ?_, trivial⟩
            · intro a w' hF hB hd
              have e14 : a.eval (.tmp 14) = .int .i64 30 := hF 14 (by decide +kernel)
              exact doesG_val rfl (ex_move rfl e14) rfl rfl
            · intro a w' hF hB hd
              have e76 : a.eval (.tmp 76) = .int .i64 30 := hd 0 (by decide +kernel) (.inr (by decide))
              exact doesG_val rfl (ex_binOp rfl e76 rfl (by go_simp) (by go_simp)) rfl rfl
            · intro a w' hF hB hd
              have e77 : a.eval (.tmp 77) = .bool true := hd 1 (by decide +kernel) (.inr (by decide))
              exact doesG_val rfl (ex_move rfl e77) rfl rfl
            · intro a w' hF hB hd
              have e78 : a.eval (.tmp 78) = .bool true := hd 2 (by decide +kernel) (.inr (by decide))
              have e13 : a.eval (.tmp 13) = .pointer (some ⟨w7.heap.size, 0, none⟩) := hF 13 (by decide +kernel)
              exact doesG_wp (wanted_of rfl (yielded_of rfl e78)) rfl fun K' hK' => wp_load_mid 23 (.tmp 13) rfl w7.heap.size 0 e13 (row8 E) _ (XB14.out.below hB XB14.out.lt).range Tryd.underlying23 rfl (by rw [E32.out]; exact infoKeyL) (hK' _ _ rfl (Below.refl _ _))
            · intro a w' hF hB hd
              have e78 : a.eval (.tmp 78) = .bool true := hd 2 (by decide +kernel) (.inr (by decide))
              exact doesG_val (wanted_of rfl (yielded_of rfl e78)) (ex_build rfl (Eq.trans (b := Tryd.prog.built 23 []) (by kernel_rfl) HBE.out)) rfl rfl
            · intro a w' hF hB hd
              have e78 : a.eval (.tmp 78) = .bool true := hd 2 (by decide +kernel) (.inr (by decide))
              have e79 : a.eval (.tmp 79) = .agg (row8 E).toArray := hd 3 (by decide +kernel) (.inr (by decide))
              have e80 : a.eval (.tmp 80) = .agg (row8 E).toArray := hd 4 (by decide +kernel) (.inr (by decide))
              exact doesG_val (wanted_of rfl (yielded_of rfl e78)) (ex_binOp rfl e79 e80 (run_eqGuard_agg (P := Tryd.prog) (w := w') .eql 23 _ _ _ _ eqTypeKW) (hee w')) rfl rfl
            · intro a w' hF hB hd
              have e78 : a.eval (.tmp 78) = .bool true := hd 2 (by decide +kernel) (.inr (by decide))
              have e81 : a.eval (.tmp 81) = .bool true := hd 5 (by decide +kernel) (.inr (by decide))
              exact doesG_val rfl (ex_pick rfl e78 (by simp [e81])) rfl rfl
            · intro a w' hF hB hd
              have e82 : a.eval (.tmp 82) = .bool true := hd 6 (by decide +kernel) (.inr (by decide))
              exact doesG_val rfl (ex_move rfl e82) rfl rfl
            · intro a w' hF hB hd
              have e83 : a.eval (.tmp 83) = .bool true := hd 7 (by decide +kernel) (.inr (by decide))
              have e17 : a.eval (.tmp 17) = .int .i64 0 := hF 17 (by decide +kernel)
              exact doesG_val (wanted_of rfl (yielded_of rfl e83)) (ex_move rfl e17) rfl rfl
            · intro a w' hF hB hd
              have e83 : a.eval (.tmp 83) = .bool true := hd 7 (by decide +kernel) (.inr (by decide))
              have e84 : a.eval (.tmp 84) = .int .i64 0 := hd 8 (by decide +kernel) (.inr (by decide))
              exact doesG_val (wanted_of rfl (yielded_of rfl e83)) (ex_binOp rfl e84 rfl (by go_simp) (by go_simp)) rfl rfl
            · intro a w' hF hB hd
              have e83 : a.eval (.tmp 83) = .bool true := hd 7 (by decide +kernel) (.inr (by decide))
              have e85 : a.eval (.tmp 85) = .bool false := hd 9 (by decide +kernel) (.inr (by decide))
              exact doesG_val (wanted_of rfl (yielded_of rfl e83)) (ex_move rfl e85) rfl rfl
            · intro a w' hF hB hd
              have e86 : a.eval (.tmp 86) = .bool false := hd 10 (by decide +kernel) (.inr (by decide))
              exact doesG_skip (unwanted_of rfl (yielded_of rfl e86) (by decide)) rfl
            · intro a w' hF hB hd
              have e86 : a.eval (.tmp 86) = .bool false := hd 10 (by decide +kernel) (.inr (by decide))
              exact doesG_skip (unwanted_of rfl (yielded_of rfl e86) (by decide)) rfl
            · intro a w' hF hB hd
              have e86 : a.eval (.tmp 86) = .bool false := hd 10 (by decide +kernel) (.inr (by decide))
              exact doesG_skip (unwanted_of rfl (yielded_of rfl e86) (by decide)) rfl
            · intro a w' hF hB hd
              have e83 : a.eval (.tmp 83) = .bool true := hd 7 (by decide +kernel) (.inr (by decide))
              have e86 : a.eval (.tmp 86) = .bool false := hd 10 (by decide +kernel) (.inr (by decide))
              exact doesG_val (wanted_of rfl (yielded_of rfl e83)) (ex_pick rfl e86 (rfl)) rfl rfl
            · intro a w' hF hB hd
              have e83 : a.eval (.tmp 83) = .bool true := hd 7 (by decide +kernel) (.inr (by decide))
              have e90 : a.eval (.tmp 90) = .bool false := hd 14 (by decide +kernel) (.inr (by decide))
              exact doesG_val (wanted_of rfl (yielded_of rfl e83)) (ex_move rfl e90) rfl rfl
            · intro a w' hF hB hd
              have e91 : a.eval (.tmp 91) = .bool false := hd 15 (by decide +kernel) (.inr (by decide))
              have e7 : a.eval (.tmp 7) = .pointer (some ⟨ka, 0, none⟩) := hF 7 (by decide +kernel)
              exact doesG_wp (wanted_of rfl (yielded_of rfl e91)) rfl fun K' hK' => wp_load_mid 23 (.tmp 7) rfl ka 0 e7 (row8 K0) _ (KA14.out.below hB KA14.out.lt).range Tryd.underlying23 rfl (by rw [K032.out]; exact infoKeyL) (hK' _ _ rfl (Below.refl _ _))
            · intro a w' hF hB hd
              have e91 : a.eval (.tmp 91) = .bool false := hd 15 (by decide +kernel) (.inr (by decide))
              have e15 : a.eval (.tmp 15) = .pointer (some ⟨w8.heap.size, 0, none⟩) := hF 15 (by decide +kernel)
              exact doesG_wp (wanted_of rfl (yielded_of rfl e91)) rfl fun K' hK' => wp_load_mid 23 (.tmp 15) rfl w8.heap.size 0 e15 (row8 Q) _ (TB14.out.below hB TB14.out.lt).range Tryd.underlying23 rfl (by rw [Q32.out]; exact infoKeyL) (hK' _ _ rfl (Below.refl _ _))
            · intro a w' hF hB hd
              have e91 : a.eval (.tmp 91) = .bool false := hd 15 (by decide +kernel) (.inr (by decide))
              have e92 : a.eval (.tmp 92) = .agg (row8 K0).toArray := hd 16 (by decide +kernel) (.inr (by decide))
              have e93 : a.eval (.tmp 93) = .agg (row8 Q).toArray := hd 17 (by decide +kernel) (.inr (by decide))
              exact doesG_call (wanted_of rfl (yielded_of rfl e91)) (ex_call (vs := #[.agg (row8 K0).toArray, .agg (row8 Q).toArray]) rfl (by simp only [List.map_toArray, List.map_cons, List.map_nil, e92, e93]) (by go_simp)) rfl ((HCP.out w' (W14.out.on hB)).mono fun e w2 hh => ⟨_, hh.1, rfl, hh.2⟩)
            · intro a w' hF hB hd
              have e91 : a.eval (.tmp 91) = .bool false := hd 15 (by decide +kernel) (.inr (by decide))
              have e11 : a.eval (.tmp 11) = .pointer (some ⟨w2.heap.size + 1, 0, none⟩) := hF 11 (by decide +kernel)
              exact doesG_wp (wanted_of rfl (yielded_of rfl e91)) rfl fun K' hK' => wp_load_mid 24 (.tmp 11) rfl (w2.heap.size + 1) 0 e11 (row8 V) _ (VB14.out.below hB VB14.out.lt).range Tryd.underlying24 rfl (by rw [V32.out]; exact infoS) (hK' _ _ rfl (Below.refl _ _))
            · intro a w' hF hB hd
              have e91 : a.eval (.tmp 91) = .bool false := hd 15 (by decide +kernel) (.inr (by decide))
              have e94 : a.eval (.tmp 94) = .agg (row8 V).toArray := hd 18 (by decide +kernel) (.inr (by decide))
              have e95 : a.eval (.tmp 95) = .agg (row8 V).toArray := hd 19 (by decide +kernel) (.inr (by decide))
              exact doesG_val (wanted_of rfl (yielded_of rfl e91)) (ex_binOp rfl e94 e95 (run_eqGuard_agg (P := Tryd.prog) (w := w') .eql 24 _ _ _ _ eqTypeSW) (hvv w')) rfl rfl
            · intro a w' hF hB hd
              have e83 : a.eval (.tmp 83) = .bool true := hd 7 (by decide +kernel) (.inr (by decide))
              have e91 : a.eval (.tmp 91) = .bool false := hd 15 (by decide +kernel) (.inr (by decide))
              have e96 : a.eval (.tmp 96) = .bool true := hd 20 (by decide +kernel) (.inr (by decide))
              exact doesG_val (wanted_of rfl (yielded_of rfl e83)) (ex_pick rfl e91 (by simp [e96])) rfl rfl
            · intro a w' hF hB hd
              have e83 : a.eval (.tmp 83) = .bool true := hd 7 (by decide +kernel) (.inr (by decide))
              have e97 : a.eval (.tmp 97) = .bool true := hd 21 (by decide +kernel) (.inr (by decide))
              exact doesG_val rfl (ex_pick rfl e83 (by simp [e97])) rfl rfl
            · intro a w' hF hB hd
              have e98 : a.eval (.tmp 98) = .bool true := hd 22 (by decide +kernel) (.inr (by decide))
              exact doesG_val rfl (ex_move rfl e98) rfl rfl
            · intro a w' hF hB hd
              have e99 : a.eval (.tmp 99) = .bool true := hd 23 (by decide +kernel) (.inr (by decide))
              have e19 : a.eval (.tmp 19) = .int .i64 0 := hF 19 (by decide +kernel)
              exact doesG_val (wanted_of rfl (yielded_of rfl e99)) (ex_move rfl e19) rfl rfl
            · intro a w' hF hB hd
              have e99 : a.eval (.tmp 99) = .bool true := hd 23 (by decide +kernel) (.inr (by decide))
              have e100 : a.eval (.tmp 100) = .int .i64 0 := hd 24 (by decide +kernel) (.inr (by decide))
              exact doesG_val (wanted_of rfl (yielded_of rfl e99)) (ex_binOp rfl e100 rfl (by go_simp) (by go_simp)) rfl rfl
            · intro a w' hF hB hd
              have e99 : a.eval (.tmp 99) = .bool true := hd 23 (by decide +kernel) (.inr (by decide))
              have e101 : a.eval (.tmp 101) = .bool false := hd 25 (by decide +kernel) (.inr (by decide))
              exact doesG_val (wanted_of rfl (yielded_of rfl e99)) (ex_move rfl e101) rfl rfl
            · intro a w' hF hB hd
              have e102 : a.eval (.tmp 102) = .bool false := hd 26 (by decide +kernel) (.inr (by decide))
              exact doesG_skip (unwanted_of rfl (yielded_of rfl e102) (by decide)) rfl
            · intro a w' hF hB hd
              have e102 : a.eval (.tmp 102) = .bool false := hd 26 (by decide +kernel) (.inr (by decide))
              exact doesG_skip (unwanted_of rfl (yielded_of rfl e102) (by decide)) rfl
            · intro a w' hF hB hd
              have e102 : a.eval (.tmp 102) = .bool false := hd 26 (by decide +kernel) (.inr (by decide))
              exact doesG_skip (unwanted_of rfl (yielded_of rfl e102) (by decide)) rfl
            · intro a w' hF hB hd
              have e99 : a.eval (.tmp 99) = .bool true := hd 23 (by decide +kernel) (.inr (by decide))
              have e102 : a.eval (.tmp 102) = .bool false := hd 26 (by decide +kernel) (.inr (by decide))
              exact doesG_val (wanted_of rfl (yielded_of rfl e99)) (ex_pick rfl e102 (rfl)) rfl rfl
            · intro a w' hF hB hd
              have e99 : a.eval (.tmp 99) = .bool true := hd 23 (by decide +kernel) (.inr (by decide))
              have e106 : a.eval (.tmp 106) = .bool false := hd 30 (by decide +kernel) (.inr (by decide))
              exact doesG_val (wanted_of rfl (yielded_of rfl e99)) (ex_move rfl e106) rfl rfl
            · intro a w' hF hB hd
              have e107 : a.eval (.tmp 107) = .bool false := hd 31 (by decide +kernel) (.inr (by decide))
              have e8 : a.eval (.tmp 8) = .pointer (some ⟨kb, 0, none⟩) := hF 8 (by decide +kernel)
              exact doesG_wp (wanted_of rfl (yielded_of rfl e107)) rfl fun K' hK' => wp_load_mid 23 (.tmp 8) rfl kb 0 e8 (row8 K1) _ (KB14.out.below hB KB14.out.lt).range Tryd.underlying23 rfl (by rw [K132.out]; exact infoKeyL) (hK' _ _ rfl (Below.refl _ _))
            · intro a w' hF hB hd
              have e107 : a.eval (.tmp 107) = .bool false := hd 31 (by decide +kernel) (.inr (by decide))
              have e10 : a.eval (.tmp 10) = .pointer (some ⟨w2.heap.size, 0, none⟩) := hF 10 (by decide +kernel)
              exact doesG_wp (wanted_of rfl (yielded_of rfl e107)) rfl fun K' hK' => wp_load_mid 23 (.tmp 10) rfl w2.heap.size 0 e10 (row8 Z) _ (ZB14.out.below hB ZB14.out.lt).range Tryd.underlying23 rfl (by rw [Z32.out]; exact infoKeyL) (hK' _ _ rfl (Below.refl _ _))
            · intro a w' hF hB hd
              have e107 : a.eval (.tmp 107) = .bool false := hd 31 (by decide +kernel) (.inr (by decide))
              have e108 : a.eval (.tmp 108) = .agg (row8 K1).toArray := hd 32 (by decide +kernel) (.inr (by decide))
              have e109 : a.eval (.tmp 109) = .agg (row8 Z).toArray := hd 33 (by decide +kernel) (.inr (by decide))
              exact doesG_call (wanted_of rfl (yielded_of rfl e107)) (ex_call (vs := #[.agg (row8 K1).toArray, .agg (row8 Z).toArray]) rfl (by simp only [List.map_toArray, List.map_cons, List.map_nil, e108, e109]) (by go_simp)) rfl ((HCR.out w' (W14.out.on hB)).mono fun e w2 hh => ⟨_, hh.1, rfl, hh.2⟩)
            · intro a w' hF hB hd
              have e107 : a.eval (.tmp 107) = .bool false := hd 31 (by decide +kernel) (.inr (by decide))
              have e11 : a.eval (.tmp 11) = .pointer (some ⟨w2.heap.size + 1, 0, none⟩) := hF 11 (by decide +kernel)
              exact doesG_wp (wanted_of rfl (yielded_of rfl e107)) rfl fun K' hK' => wp_load_mid 24 (.tmp 11) rfl (w2.heap.size + 1) 0 e11 (row8 V) _ (VB14.out.below hB VB14.out.lt).range Tryd.underlying24 rfl (by rw [V32.out]; exact infoS) (hK' _ _ rfl (Below.refl _ _))
            · intro a w' hF hB hd
              have e107 : a.eval (.tmp 107) = .bool false := hd 31 (by decide +kernel) (.inr (by decide))
              have e110 : a.eval (.tmp 110) = .agg (row8 V).toArray := hd 34 (by decide +kernel) (.inr (by decide))
              have e111 : a.eval (.tmp 111) = .agg (row8 V).toArray := hd 35 (by decide +kernel) (.inr (by decide))
              exact doesG_val (wanted_of rfl (yielded_of rfl e107)) (ex_binOp rfl e110 e111 (run_eqGuard_agg (P := Tryd.prog) (w := w') .eql 24 _ _ _ _ eqTypeSW) (hvv w')) rfl rfl
            · intro a w' hF hB hd
              have e99 : a.eval (.tmp 99) = .bool true := hd 23 (by decide +kernel) (.inr (by decide))
              have e107 : a.eval (.tmp 107) = .bool false := hd 31 (by decide +kernel) (.inr (by decide))
              have e112 : a.eval (.tmp 112) = .bool true := hd 36 (by decide +kernel) (.inr (by decide))
              exact doesG_val (wanted_of rfl (yielded_of rfl e99)) (ex_pick rfl e107 (by simp [e112])) rfl rfl
            · intro a w' hF hB hd
              have e99 : a.eval (.tmp 99) = .bool true := hd 23 (by decide +kernel) (.inr (by decide))
              have e113 : a.eval (.tmp 113) = .bool true := hd 37 (by decide +kernel) (.inr (by decide))
              exact doesG_val rfl (ex_pick rfl e99 (by simp [e113])) rfl rfl
            · intro a w' hF hB hd
              have e114 : a.eval (.tmp 114) = .bool true := hd 38 (by decide +kernel) (.inr (by decide))
              exact doesG_val rfl (ex_move rfl e114) rfl rfl
            · intro a w' hF hB hd
              have e115 : a.eval (.tmp 115) = .bool true := hd 39 (by decide +kernel) (.inr (by decide))
              exact doesG_call (wanted_of rfl (yielded_of rfl e115)) (ex_call (vs := #[]) rfl (by simp) (by go_simp)) rfl ((HAW.out w' (W14.out.on hB)).mono fun e w2 hh => ⟨_, hh.1, rfl, hh.2⟩)
            · intro a w' hF hB hd
              have e115 : a.eval (.tmp 115) = .bool true := hd 39 (by decide +kernel) (.inr (by decide))
              have e116 : a.eval (.tmp 116) = .bool true := hd 40 (by decide +kernel) (.inr (by decide))
              exact doesG_val rfl (ex_pick rfl e115 (by simp [e116])) rfl rfl
            · intro a w' hF hB hd
              have e117 : a.eval (.tmp 117) = .bool true := hd 41 (by decide +kernel) (.inr (by decide))
              exact doesG_val rfl (ex_assign rfl e117) rfl rfl
          · intro vs wz hb hv hap
            have e2 : vs 42 = .bool true := hv 42 (by decide) (by decide)
            simp only [List.take_succ_cons, List.take_zero, List.drop_succ_cons, List.drop_zero, putOps, Act.put, List.setIfInBounds_toArray, List.set_cons_zero, List.set_cons_succ, e2]
            have HB := Lib.hid (W14.out.on hb)
            clear hv hap e2 hb
            go_wp2_with fail
            go_ret
            exact ⟨rfl, HB.out⟩
        · obtain ⟨e1, e2⟩ := HUE.out hR
          subst e1
          subst e2
          clear HUO HUE HCR0 hR
          refine wp_region_g (by kernel_rfl) 43 (by decide) (by kernel_rfl) (by kernel_rfl) (by kernel_rfl) (w14.heap.size) (Nat.le_refl _) [.val (.int .i64 30), .val (.bool true), .val (.bool true), .val (.agg (row8 E).toArray), .val (.agg (row8 E).toArray), .val (.bool true), .val (.bool true), .val (.bool true), .val (.int .i64 0), .val (.bool false), .val (.bool false), .val undef, .val undef, .val undef, .val (.bool false), .val (.bool false), .val (.agg (row8 K0).toArray), .val (.agg (row8 Q).toArray), .val (.agg (row8 V).toArray), .val (.agg (row8 V).toArray), .val (.bool true), .val (.bool true), .val (.bool true), .val (.bool true), .val (.int .i64 30), .val (.bool true), .val (.bool true), .val (.agg (row8 E).toArray), .val (.agg (row8 E).toArray), .val (.bool true), .val (.bool true), .val (.bool true), .val undef, .val undef, .val undef, .val undef, .val undef, .val (.bool true), .val (.bool true), .val (.bool true), .val (.bool true), .val (.bool true), .val (.bool true)] (fun _ => 43) ?_ ?_
          · refine ⟨?_, ?_, ?_, ?_, ?_, ?_, ?_, ?_, ?_, ?_, ?_, ?_, ?_, ?_, ?_, ?_, ?_, ?_, ?_, ?_, ?_, ?_, ?_, ?_, ?_, ?_, ?_, ?_, ?_, ?_, ?_, ?_, ?_, ?_, ?_, ?_, ?_, ?_, ?_, ?_, ?_, ?_, ?_, trivial⟩
            · intro a w' hF hB hd
              have e14 : a.eval (.tmp 14) = .int .i64 30 := hF 14 (by decide +kernel)
              exact doesG_val rfl (ex_move rfl e14) rfl rfl
            · intro a w' hF hB hd
              have e76 : a.eval (.tmp 76) = .int .i64 30 := hd 0 (by decide +kernel) (.inr (by decide))
              exact doesG_val rfl (ex_binOp rfl e76 rfl (by go_simp) (by go_simp)) rfl rfl
            · intro a w' hF hB hd
              have e77 : a.eval (.tmp 77) = .bool true := hd 1 (by decide +kernel) (.inr (by decide))
              exact doesG_val rfl (ex_move rfl e77) rfl rfl
            · intro a w' hF hB hd
              have e78 : a.eval (.tmp 78) = .bool true := hd 2 (by decide +kernel) (.inr (by decide))
              have e13 : a.eval (.tmp 13) = .pointer (some ⟨w7.heap.size, 0, none⟩) := hF 13 (by decide +kernel)
              exact doesG_wp (wanted_of rfl (yielded_of rfl e78)) rfl fun K' hK' => wp_load_mid 23 (.tmp 13) rfl w7.heap.size 0 e13 (row8 E) _ (XB14.out.below hB XB14.out.lt).range Tryd.underlying23 rfl (by rw [E32.out]; exact infoKeyL) (hK' _ _ rfl (Below.refl _ _))
            · intro a w' hF hB hd
              have e78 : a.eval (.tmp 78) = .bool true := hd 2 (by decide +kernel) (.inr (by decide))
              exact doesG_val (wanted_of rfl (yielded_of rfl e78)) (ex_build rfl (Eq.trans (b := Tryd.prog.built 23 []) (by kernel_rfl) HBE.out)) rfl rfl
            · intro a w' hF hB hd
              have e78 : a.eval (.tmp 78) = .bool true := hd 2 (by decide +kernel) (.inr (by decide))
              have e79 : a.eval (.tmp 79) = .agg (row8 E).toArray := hd 3 (by decide +kernel) (.inr (by decide))
              have e80 : a.eval (.tmp 80) = .agg (row8 E).toArray := hd 4 (by decide +kernel) (.inr (by decide))
              exact doesG_val (wanted_of rfl (yielded_of rfl e78)) (ex_binOp rfl e79 e80 (run_eqGuard_agg (P := Tryd.prog) (w := w') .eql 23 _ _ _ _ eqTypeKW) (hee w')) rfl rfl
            · intro a w' hF hB hd
              have e78 : a.eval (.tmp 78) = .bool true := hd 2 (by decide +kernel) (.inr (by decide))
              have e81 : a.eval (.tmp 81) = .bool true := hd 5 (by decide +kernel) (.inr (by decide))
              exact doesG_val rfl (ex_pick rfl e78 (by simp [e81])) rfl rfl
            · intro a w' hF hB hd
              have e82 : a.eval (.tmp 82) = .bool true := hd 6 (by decide +kernel) (.inr (by decide))
              exact doesG_val rfl (ex_move rfl e82) rfl rfl
            · intro a w' hF hB hd
              have e83 : a.eval (.tmp 83) = .bool true := hd 7 (by decide +kernel) (.inr (by decide))
              have e17 : a.eval (.tmp 17) = .int .i64 0 := hF 17 (by decide +kernel)
              exact doesG_val (wanted_of rfl (yielded_of rfl e83)) (ex_move rfl e17) rfl rfl
            · intro a w' hF hB hd
              have e83 : a.eval (.tmp 83) = .bool true := hd 7 (by decide +kernel) (.inr (by decide))
              have e84 : a.eval (.tmp 84) = .int .i64 0 := hd 8 (by decide +kernel) (.inr (by decide))
              exact doesG_val (wanted_of rfl (yielded_of rfl e83)) (ex_binOp rfl e84 rfl (by go_simp) (by go_simp)) rfl rfl
            · intro a w' hF hB hd
              have e83 : a.eval (.tmp 83) = .bool true := hd 7 (by decide +kernel) (.inr (by decide))
              have e85 : a.eval (.tmp 85) = .bool false := hd 9 (by decide +kernel) (.inr (by decide))
              exact doesG_val (wanted_of rfl (yielded_of rfl e83)) (ex_move rfl e85) rfl rfl
            · intro a w' hF hB hd
              have e86 : a.eval (.tmp 86) = .bool false := hd 10 (by decide +kernel) (.inr (by decide))
              exact doesG_skip (unwanted_of rfl (yielded_of rfl e86) (by decide)) rfl
            · intro a w' hF hB hd
              have e86 : a.eval (.tmp 86) = .bool false := hd 10 (by decide +kernel) (.inr (by decide))
              exact doesG_skip (unwanted_of rfl (yielded_of rfl e86) (by decide)) rfl
            · intro a w' hF hB hd
              have e86 : a.eval (.tmp 86) = .bool false := hd 10 (by decide +kernel) (.inr (by decide))
              exact doesG_skip (unwanted_of rfl (yielded_of rfl e86) (by decide)) rfl
            · intro a w' hF hB hd
              have e83 : a.eval (.tmp 83) = .bool true := hd 7 (by decide +kernel) (.inr (by decide))
              have e86 : a.eval (.tmp 86) = .bool false := hd 10 (by decide +kernel) (.inr (by decide))
              exact doesG_val (wanted_of rfl (yielded_of rfl e83)) (ex_pick rfl e86 (rfl)) rfl rfl
            · intro a w' hF hB hd
              have e83 : a.eval (.tmp 83) = .bool true := hd 7 (by decide +kernel) (.inr (by decide))
              have e90 : a.eval (.tmp 90) = .bool false := hd 14 (by decide +kernel) (.inr (by decide))
              exact doesG_val (wanted_of rfl (yielded_of rfl e83)) (ex_move rfl e90) rfl rfl
            · intro a w' hF hB hd
              have e91 : a.eval (.tmp 91) = .bool false := hd 15 (by decide +kernel) (.inr (by decide))
              have e7 : a.eval (.tmp 7) = .pointer (some ⟨ka, 0, none⟩) := hF 7 (by decide +kernel)
              exact doesG_wp (wanted_of rfl (yielded_of rfl e91)) rfl fun K' hK' => wp_load_mid 23 (.tmp 7) rfl ka 0 e7 (row8 K0) _ (KA14.out.below hB KA14.out.lt).range Tryd.underlying23 rfl (by rw [K032.out]; exact infoKeyL) (hK' _ _ rfl (Below.refl _ _))
            · intro a w' hF hB hd
              have e91 : a.eval (.tmp 91) = .bool false := hd 15 (by decide +kernel) (.inr (by decide))
              have e15 : a.eval (.tmp 15) = .pointer (some ⟨w8.heap.size, 0, none⟩) := hF 15 (by decide +kernel)
              exact doesG_wp (wanted_of rfl (yielded_of rfl e91)) rfl fun K' hK' => wp_load_mid 23 (.tmp 15) rfl w8.heap.size 0 e15 (row8 Q) _ (TB14.out.below hB TB14.out.lt).range Tryd.underlying23 rfl (by rw [Q32.out]; exact infoKeyL) (hK' _ _ rfl (Below.refl _ _))
            · intro a w' hF hB hd
              have e91 : a.eval (.tmp 91) = .bool false := hd 15 (by decide +kernel) (.inr (by decide))
              have e92 : a.eval (.tmp 92) = .agg (row8 K0).toArray := hd 16 (by decide +kernel) (.inr (by decide))
              have e93 : a.eval (.tmp 93) = .agg (row8 Q).toArray := hd 17 (by decide +kernel) (.inr (by decide))
              exact doesG_call (wanted_of rfl (yielded_of rfl e91)) (ex_call (vs := #[.agg (row8 K0).toArray, .agg (row8 Q).toArray]) rfl (by simp only [List.map_toArray, List.map_cons, List.map_nil, e92, e93]) (by go_simp)) rfl ((HCP.out w' (W14.out.on hB)).mono fun e w2 hh => ⟨_, hh.1, rfl, hh.2⟩)
            · intro a w' hF hB hd
              have e91 : a.eval (.tmp 91) = .bool false := hd 15 (by decide +kernel) (.inr (by decide))
              have e11 : a.eval (.tmp 11) = .pointer (some ⟨w2.heap.size + 1, 0, none⟩) := hF 11 (by decide +kernel)
              exact doesG_wp (wanted_of rfl (yielded_of rfl e91)) rfl fun K' hK' => wp_load_mid 24 (.tmp 11) rfl (w2.heap.size + 1) 0 e11 (row8 V) _ (VB14.out.below hB VB14.out.lt).range Tryd.underlying24 rfl (by rw [V32.out]; exact infoS) (hK' _ _ rfl (Below.refl _ _))
            · intro a w' hF hB hd
              have e91 : a.eval (.tmp 91) = .bool false := hd 15 (by decide +kernel) (.inr (by decide))
              have e94 : a.eval (.tmp 94) = .agg (row8 V).toArray := hd 18 (by decide +kernel) (.inr (by decide))
              have e95 : a.eval (.tmp 95) = .agg (row8 V).toArray := hd 19 (by decide +kernel) (.inr (by decide))
              exact doesG_val (wanted_of rfl (yielded_of rfl e91)) (ex_binOp rfl e94 e95 (run_eqGuard_agg (P := Tryd.prog) (w := w') .eql 24 _ _ _ _ eqTypeSW) (hvv w')) rfl rfl
            · intro a w' hF hB hd
              have e83 : a.eval (.tmp 83) = .bool true := hd 7 (by decide +kernel) (.inr (by decide))
              have e91 : a.eval (.tmp 91) = .bool false := hd 15 (by decide +kernel) (.inr (by decide))
              have e96 : a.eval (.tmp 96) = .bool true := hd 20 (by decide +kernel) (.inr (by decide))
              exact doesG_val (wanted_of rfl (yielded_of rfl e83)) (ex_pick rfl e91 (by simp [e96])) rfl rfl
            · intro a w' hF hB hd
              have e83 : a.eval (.tmp 83) = .bool true := hd 7 (by decide +kernel) (.inr (by decide))
              have e97 : a.eval (.tmp 97) = .bool true := hd 21 (by decide +kernel) (.inr (by decide))
              exact doesG_val rfl (ex_pick rfl e83 (by simp [e97])) rfl rfl
            · intro a w' hF hB hd
              have e98 : a.eval (.tmp 98) = .bool true := hd 22 (by decide +kernel) (.inr (by decide))
              exact doesG_val rfl (ex_move rfl e98) rfl rfl
            · intro a w' hF hB hd
              have e99 : a.eval (.tmp 99) = .bool true := hd 23 (by decide +kernel) (.inr (by decide))
              have e19 : a.eval (.tmp 19) = .int .i64 30 := hF 19 (by decide +kernel)
              exact doesG_val (wanted_of rfl (yielded_of rfl e99)) (ex_move rfl e19) rfl rfl
            · intro a w' hF hB hd
              have e99 : a.eval (.tmp 99) = .bool true := hd 23 (by decide +kernel) (.inr (by decide))
              have e100 : a.eval (.tmp 100) = .int .i64 30 := hd 24 (by decide +kernel) (.inr (by decide))
              exact doesG_val (wanted_of rfl (yielded_of rfl e99)) (ex_binOp rfl e100 rfl (by go_simp) (by go_simp)) rfl rfl
            · intro a w' hF hB hd
              have e99 : a.eval (.tmp 99) = .bool true := hd 23 (by decide +kernel) (.inr (by decide))
              have e101 : a.eval (.tmp 101) = .bool true := hd 25 (by decide +kernel) (.inr (by decide))
              exact doesG_val (wanted_of rfl (yielded_of rfl e99)) (ex_move rfl e101) rfl rfl
            · intro a w' hF hB hd
              have e102 : a.eval (.tmp 102) = .bool true := hd 26 (by decide +kernel) (.inr (by decide))
              have e18 : a.eval (.tmp 18) = .pointer (some ⟨w13.heap.size, 0, none⟩) := hF 18 (by decide +kernel)
              exact doesG_wp (wanted_of rfl (yielded_of rfl e102)) rfl fun K' hK' => wp_load_mid 23 (.tmp 18) rfl w13.heap.size 0 e18 (row8 E) _ (UB14.out.below hB UB14.out.lt).range Tryd.underlying23 rfl (by rw [E32.out]; exact infoKeyL) (hK' _ _ rfl (Below.refl _ _))
            · intro a w' hF hB hd
              have e102 : a.eval (.tmp 102) = .bool true := hd 26 (by decide +kernel) (.inr (by decide))
              exact doesG_val (wanted_of rfl (yielded_of rfl e102)) (ex_build rfl (Eq.trans (b := Tryd.prog.built 23 []) (by kernel_rfl) HBE.out)) rfl rfl
            · intro a w' hF hB hd
              have e102 : a.eval (.tmp 102) = .bool true := hd 26 (by decide +kernel) (.inr (by decide))
              have e103 : a.eval (.tmp 103) = .agg (row8 E).toArray := hd 27 (by decide +kernel) (.inr (by decide))
              have e104 : a.eval (.tmp 104) = .agg (row8 E).toArray := hd 28 (by decide +kernel) (.inr (by decide))
              exact doesG_val (wanted_of rfl (yielded_of rfl e102)) (ex_binOp rfl e103 e104 (run_eqGuard_agg (P := Tryd.prog) (w := w') .eql 23 _ _ _ _ eqTypeKW) (hee w')) rfl rfl
            · intro a w' hF hB hd
              have e99 : a.eval (.tmp 99) = .bool true := hd 23 (by decide +kernel) (.inr (by decide))
              have e102 : a.eval (.tmp 102) = .bool true := hd 26 (by decide +kernel) (.inr (by decide))
              have e105 : a.eval (.tmp 105) = .bool true := hd 29 (by decide +kernel) (.inr (by decide))
              exact doesG_val (wanted_of rfl (yielded_of rfl e99)) (ex_pick rfl e102 (by simp [e105])) rfl rfl
            · intro a w' hF hB hd
              have e99 : a.eval (.tmp 99) = .bool true := hd 23 (by decide +kernel) (.inr (by decide))
              have e106 : a.eval (.tmp 106) = .bool true := hd 30 (by decide +kernel) (.inr (by decide))
              exact doesG_val (wanted_of rfl (yielded_of rfl e99)) (ex_move rfl e106) rfl rfl
            · intro a w' hF hB hd
              have e107 : a.eval (.tmp 107) = .bool true := hd 31 (by decide +kernel) (.inr (by decide))
              exact doesG_skip (unwanted_of rfl (yielded_of rfl e107) (by decide)) rfl
            · intro a w' hF hB hd
              have e107 : a.eval (.tmp 107) = .bool true := hd 31 (by decide +kernel) (.inr (by decide))
              exact doesG_skip (unwanted_of rfl (yielded_of rfl e107) (by decide)) rfl
            · intro a w' hF hB hd
              have e107 : a.eval (.tmp 107) = .bool true := hd 31 (by decide +kernel) (.inr (by decide))
              exact doesG_skip (unwanted_of rfl (yielded_of rfl e107) (by decide)) rfl
            · intro a w' hF hB hd
              have e107 : a.eval (.tmp 107) = .bool true := hd 31 (by decide +kernel) (.inr (by decide))
              exact doesG_skip (unwanted_of rfl (yielded_of rfl e107) (by decide)) rfl
            · intro a w' hF hB hd
              have e107 : a.eval (.tmp 107) = .bool true := hd 31 (by decide +kernel) (.inr (by decide))
              exact doesG_skip (unwanted_of rfl (yielded_of rfl e107) (by decide)) rfl
            · intro a w' hF hB hd
              have e99 : a.eval (.tmp 99) = .bool true := hd 23 (by decide +kernel) (.inr (by decide))
              have e107 : a.eval (.tmp 107) = .bool true := hd 31 (by decide +kernel) (.inr (by decide))
              exact doesG_val (wanted_of rfl (yielded_of rfl e99)) (ex_pick rfl e107 (rfl)) rfl rfl
            · intro a w' hF hB hd
              have e99 : a.eval (.tmp 99) = .bool true := hd 23 (by decide +kernel) (.inr (by decide))
              have e113 : a.eval (.tmp 113) = .bool true := hd 37 (by decide +kernel) (.inr (by decide))
              exact doesG_val rfl (ex_pick rfl e99 (by simp [e113])) rfl rfl
            · intro a w' hF hB hd
              have e114 : a.eval (.tmp 114) = .bool true := hd 38 (by decide +kernel) (.inr (by decide))
              exact doesG_val rfl (ex_move rfl e114) rfl rfl
            · intro a w' hF hB hd
              have e115 : a.eval (.tmp 115) = .bool true := hd 39 (by decide +kernel) (.inr (by decide))
              exact doesG_call (wanted_of rfl (yielded_of rfl e115)) (ex_call (vs := #[]) rfl (by simp) (by go_simp)) rfl ((HAW.out w' (W14.out.on hB)).mono fun e w2 hh => ⟨_, hh.1, rfl, hh.2⟩)
            · intro a w' hF hB hd
              have e115 : a.eval (.tmp 115) = .bool true := hd 39 (by decide +kernel) (.inr (by decide))
              have e116 : a.eval (.tmp 116) = .bool true := hd 40 (by decide +kernel) (.inr (by decide))
              exact doesG_val rfl (ex_pick rfl e115 (by simp [e116])) rfl rfl
            · intro a w' hF hB hd
              have e117 : a.eval (.tmp 117) = .bool true := hd 41 (by decide +kernel) (.inr (by decide))
              exact doesG_val rfl (ex_assign rfl e117) rfl rfl
          · intro vs wz hb hv hap
            have e2 : vs 42 = .bool true := hv 42 (by decide) (by decide)
            simp only [List.take_succ_cons, List.take_zero, List.drop_succ_cons, List.drop_zero, putOps, Act.put, List.setIfInBounds_toArray, List.set_cons_zero, List.set_cons_succ, e2]
            have HB := Lib.hid (W14.out.on hb)
            clear hv hap e2 hb
            go_wp2_with fail
            go_ret
            exact ⟨rfl, HB.out⟩
      · obtain ⟨e1, e2⟩ := HYE.out hP
        subst e1
        subst e2
        clear HYO HYE HCP0 hP
        by_cases hR : wcheck K1 Z = V
        · have HCR := HCR0
          rw [hR] at HCR
          obtain rfl := HUO.out hR
          clear HUO HUE HCR0 hR
          refine wp_region_g (by kernel_rfl) 43 (by decide) (by kernel_rfl) (by kernel_rfl) (by kernel_rfl) (w14.heap.size) (Nat.le_refl _) [.val (.int .i64 30), .val (.bool true), .val (.bool true), .val (.agg (row8 E).toArray), .val (.agg (row8 E).toArray), .val (.bool true), .val (.bool true), .val (.bool true), .val (.int .i64 30), .val (.bool true), .val (.bool true), .val (.agg (row8 E).toArray), .val (.agg (row8 E).toArray), .val (.bool true), .val (.bool true), .val (.bool true), .val undef, .val undef, .val undef, .val undef, .val undef, .val (.bool true), .val (.bool true), .val (.bool true), .val (.int .i64 0), .val (.bool false), .val (.bool false), .val undef, .val undef, .val undef, .val (.bool false), .val (.bool false), .val (.agg (row8 K1).toArray), .val (.agg (row8 Z).toArray), .val (.agg (row8 V).toArray), .val (.agg (row8 V).toArray), .val (.bool true), .val (.bool true), .val (.bool true), .val (.bool true), .val (.bool true), .val (.bool true), .val (.bool true)] (fun _ => 43) ?_ ?_
          · refine ⟨?_, ?_, ?_, ?_, ?_, ?_, ?_, ?_, ?_, ?_, ?_, ?_, ?_, ?_, ?_, ?_, ?_, ?_, ?_, ?_, ?_, ?_, ?_, ?_, ?_, ?_, ?_, ?_, ?_, ?_, ?_, ?_, ?_, ?_, ?_, ?_, ?_, ?_, ?_, ?_, ?_, ?_, ?_, trivial⟩
            · intro a w' hF hB hd
              have e14 : a.eval (.tmp 14) = .int .i64 30 := hF 14 (by decide +kernel)
              exact doesG_val rfl (ex_move rfl e14) rfl rfl
            · intro a w' hF hB hd
              have e76 : a.eval (.tmp 76) = .int .i64 30 := hd 0 (by decide +kernel) (.inr (by decide))
              exact doesG_val rfl (ex_binOp rfl e76 rfl (by go_simp) (by go_simp)) rfl rfl
            · intro a w' hF hB hd
              have e77 : a.eval (.tmp 77) = .bool true := hd 1 (by decide +kernel) (.inr (by decide))
              exact doesG_val rfl (ex_move rfl e77) rfl rfl
            · intro a w' hF hB hd
              have e78 : a.eval (.tmp 78) = .bool true := hd 2 (by decide +kernel) (.inr (by decide))
              have e13 : a.eval (.tmp 13) = .pointer (some ⟨w7.heap.size, 0, none⟩) := hF 13 (by decide +kernel)
              exact doesG_wp (wanted_of rfl (yielded_of rfl e78)) rfl fun K' hK' => wp_load_mid 23 (.tmp 13) rfl w7.heap.size 0 e13 (row8 E) _ (XB14.out.below hB XB14.out.lt).range Tryd.underlying23 rfl (by rw [E32.out]; exact infoKeyL) (hK' _ _ rfl (Below.refl _ _))
            · intro a w' hF hB hd
              have e78 : a.eval (.tmp 78) = .bool true := hd 2 (by decide +kernel) (.inr (by decide))
              exact doesG_val (wanted_of rfl (yielded_of rfl e78)) (ex_build rfl (Eq.trans (b := Tryd.prog.built 23 []) (by kernel_rfl) HBE.out)) rfl rfl
            · intro a w' hF hB hd
              have e78 : a.eval (.tmp 78) = .bool true := hd 2 (by decide +kernel) (.inr (by decide))
              have e79 : a.eval (.tmp 79) = .agg (row8 E).toArray := hd 3 (by decide +kernel) (.inr (by decide))
              have e80 : a.eval (.tmp 80) = .agg (row8 E).toArray := hd 4 (by decide +kernel) (.inr (by decide))
              exact doesG_val (wanted_of rfl (yielded_of rfl e78)) (ex_binOp rfl e79 e80 (run_eqGuard_agg (P := Tryd.prog) (w := w') .eql 23 _ _ _ _ eqTypeKW) (hee w')) rfl rfl
            · intro a w' hF hB hd
              have e78 : a.eval (.tmp 78) = .bool true := hd 2 (by decide +kernel) (.inr (by decide))
              have e81 : a.eval (.tmp 81) = .bool true := hd 5 (by decide +kernel) (.inr (by decide))
              exact doesG_val rfl (ex_pick rfl e78 (by simp [e81])) rfl rfl
            · intro a w' hF hB hd
              have e82 : a.eval (.tmp 82) = .bool true := hd 6 (by decide +kernel) (.inr (by decide))
              exact doesG_val rfl (ex_move rfl e82) rfl rfl
            · intro a w' hF hB hd
              have e83 : a.eval (.tmp 83) = .bool true := hd 7 (by decide +kernel) (.inr (by decide))
              have e17 : a.eval (.tmp 17) = .int .i64 30 := hF 17 (by decide +kernel)
              exact doesG_val (wanted_of rfl (yielded_of rfl e83)) (ex_move rfl e17) rfl rfl
            · intro a w' hF hB hd
              have e83 : a.eval (.tmp 83) = .bool true := hd 7 (by decide +kernel) (.inr (by decide))
              have e84 : a.eval (.tmp 84) = .int .i64 30 := hd 8 (by decide +kernel) (.inr (by decide))
              exact doesG_val (wanted_of rfl (yielded_of rfl e83)) (ex_binOp rfl e84 rfl (by go_simp) (by go_simp)) rfl rfl
            · intro a w' hF hB hd
              have e83 : a.eval (.tmp 83) = .bool true := hd 7 (by decide +kernel) (.inr (by decide))
              have e85 : a.eval (.tmp 85) = .bool true := hd 9 (by decide +kernel) (.inr (by decide))
              exact doesG_val (wanted_of rfl (yielded_of rfl e83)) (ex_move rfl e85) rfl rfl
            · intro a w' hF hB hd
              have e86 : a.eval (.tmp 86) = .bool true := hd 10 (by decide +kernel) (.inr (by decide))
              have e16 : a.eval (.tmp 16) = .pointer (some ⟨w11.heap.size, 0, none⟩) := hF 16 (by decide +kernel)
              exact doesG_wp (wanted_of rfl (yielded_of rfl e86)) rfl fun K' hK' => wp_load_mid 23 (.tmp 16) rfl w11.heap.size 0 e16 (row8 E) _ (YB14.out.below hB YB14.out.lt).range Tryd.underlying23 rfl (by rw [E32.out]; exact infoKeyL) (hK' _ _ rfl (Below.refl _ _))
            · intro a w' hF hB hd
              have e86 : a.eval (.tmp 86) = .bool true := hd 10 (by decide +kernel) (.inr (by decide))
              exact doesG_val (wanted_of rfl (yielded_of rfl e86)) (ex_build rfl (Eq.trans (b := Tryd.prog.built 23 []) (by kernel_rfl) HBE.out)) rfl rfl
            · intro a w' hF hB hd
              have e86 : a.eval (.tmp 86) = .bool true := hd 10 (by decide +kernel) (.inr (by decide))
              have e87 : a.eval (.tmp 87) = .agg (row8 E).toArray := hd 11 (by decide +kernel) (.inr (by decide))
              have e88 : a.eval (.tmp 88) = .agg (row8 E).toArray := hd 12 (by decide +kernel) (.inr (by decide))
              exact doesG_val (wanted_of rfl (yielded_of rfl e86)) (ex_binOp rfl e87 e88 (run_eqGuard_agg (P := Tryd.prog) (w := w') .eql 23 _ _ _ _ eqTypeKW) (hee w')) rfl rfl
            · intro a w' hF hB hd
              have e83 : a.eval (.tmp 83) = .bool true := hd 7 (by decide +kernel) (.inr (by decide))
              have e86 : a.eval (.tmp 86) = .bool true := hd 10 (by decide +kernel) (.inr (by decide))
              have e89 : a.eval (.tmp 89) = .bool true := hd 13 (by decide +kernel) (.inr (by decide))
              exact doesG_val (wanted_of rfl (yielded_of rfl e83)) (ex_pick rfl e86 (by simp [e89])) rfl rfl
            · intro a w' hF hB hd
              have e83 : a.eval (.tmp 83) = .bool true := hd 7 (by decide +kernel) (.inr (by decide))
              have e90 : a.eval (.tmp 90) = .bool true := hd 14 (by decide +kernel) (.inr (by decide))
              exact doesG_val (wanted_of rfl (yielded_of rfl e83)) (ex_move rfl e90) rfl rfl
            · intro a w' hF hB hd
              have e91 : a.eval (.tmp 91) = .bool true := hd 15 (by decide +kernel) (.inr (by decide))
              exact doesG_skip (unwanted_of rfl (yielded_of rfl e91) (by decide)) rfl
            · intro a w' hF hB hd
              have e91 : a.eval (.tmp 91) = .bool true := hd 15 (by decide +kernel) (.inr (by decide))
              exact doesG_skip (unwanted_of rfl (yielded_of rfl e91) (by decide)) rfl
            · intro a w' hF hB hd
              have e91 : a.eval (.tmp 91) = .bool true := hd 15 (by decide +kernel) (.inr (by decide))
              exact doesG_skip (unwanted_of rfl (yielded_of rfl e91) (by decide)) rfl
            · intro a w' hF hB hd
              have e91 : a.eval (.tmp 91) = .bool true := hd 15 (by decide +kernel) (.inr (by decide))
              exact doesG_skip (unwanted_of rfl (yielded_of rfl e91) (by decide)) rfl
            · intro a w' hF hB hd
              have e91 : a.eval (.tmp 91) = .bool true := hd 15 (by decide +kernel) (.inr (by decide))
              exact doesG_skip (unwanted_of rfl (yielded_of rfl e91) (by decide)) rfl
            · intro a w' hF hB hd
              have e83 : a.eval (.tmp 83) = .bool true := hd 7 (by decide +kernel) (.inr (by decide))
              have e91 : a.eval (.tmp 91) = .bool true := hd 15 (by decide +kernel) (.inr (by decide))
              exact doesG_val (wanted_of rfl (yielded_of rfl e83)) (ex_pick rfl e91 (rfl)) rfl rfl
            · intro a w' hF hB hd
              have e83 : a.eval (.tmp 83) = .bool true := hd 7 (by decide +kernel) (.inr (by decide))
              have e97 : a.eval (.tmp 97) = .bool true := hd 21 (by decide +kernel) (.inr (by decide))
              exact doesG_val rfl (ex_pick rfl e83 (by simp [e97])) rfl rfl
            · intro a w' hF hB hd
              have e98 : a.eval (.tmp 98) = .bool true := hd 22 (by decide +kernel) (.inr (by decide))
              exact doesG_val rfl (ex_move rfl e98) rfl rfl
            · intro a w' hF hB hd
              have e99 : a.eval (.tmp 99) = .bool true := hd 23 (by decide +kernel) (.inr (by decide))
              have e19 : a.eval (.tmp 19) = .int .i64 0 := hF 19 (by decide +kernel)
              exact doesG_val (wanted_of rfl (yielded_of rfl e99)) (ex_move rfl e19) rfl rfl
            · intro a w' hF hB hd
              have e99 : a.eval (.tmp 99) = .bool true := hd 23 (by decide +kernel) (.inr (by decide))
              have e100 : a.eval (.tmp 100) = .int .i64 0 := hd 24 (by decide +kernel) (.inr (by decide))
              exact doesG_val (wanted_of rfl (yielded_of rfl e99)) (ex_binOp rfl e100 rfl (by go_simp) (by go_simp)) rfl rfl
            · intro a w' hF hB hd
              have e99 : a.eval (.tmp 99) = .bool true := hd 23 (by decide +kernel) (.inr (by decide))
              have e101 : a.eval (.tmp 101) = .bool false := hd 25 (by decide +kernel) (.inr (by decide))
              exact doesG_val (wanted_of rfl (yielded_of rfl e99)) (ex_move rfl e101) rfl rfl
            · intro a w' hF hB hd
              have e102 : a.eval (.tmp 102) = .bool false := hd 26 (by decide +kernel) (.inr (by decide))
              exact doesG_skip (unwanted_of rfl (yielded_of rfl e102) (by decide)) rfl
            · intro a w' hF hB hd
              have e102 : a.eval (.tmp 102) = .bool false := hd 26 (by decide +kernel) (.inr (by decide))
              exact doesG_skip (unwanted_of rfl (yielded_of rfl e102) (by decide)) rfl
            · intro a w' hF hB hd
              have e102 : a.eval (.tmp 102) = .bool false := hd 26 (by decide +kernel) (.inr (by decide))
              exact doesG_skip (unwanted_of rfl (yielded_of rfl e102) (by decide)) rfl
            · intro a w' hF hB hd
              have e99 : a.eval (.tmp 99) = .bool true := hd 23 (by decide +kernel) (.inr (by decide))
              have e102 : a.eval (.tmp 102) = .bool false := hd 26 (by decide +kernel) (.inr (by decide))
              exact doesG_val (wanted_of rfl (yielded_of rfl e99)) (ex_pick rfl e102 (rfl)) rfl rfl
            · intro a w' hF hB hd
              have e99 : a.eval (.tmp 99) = .bool true := hd 23 (by decide +kernel) (.inr (by decide))
              have e106 : a.eval (.tmp 106) = .bool false := hd 30 (by decide +kernel) (.inr (by decide))
              exact doesG_val (wanted_of rfl (yielded_of rfl e99)) (ex_move rfl e106) rfl rfl
            · intro a w' hF hB hd
              have e107 : a.eval (.tmp 107) = .bool false := hd 31 (by decide +kernel) (.inr (by decide))
              have e8 : a.eval (.tmp 8) = .pointer (some ⟨kb, 0, none⟩) := hF 8 (by decide +kernel)
              exact doesG_wp (wanted_of rfl (yielded_of rfl e107)) rfl fun K' hK' => wp_load_mid 23 (.tmp 8) rfl kb 0 e8 (row8 K1) _ (KB14.out.below hB KB14.out.lt).range Tryd.underlying23 rfl (by rw [K132.out]; exact infoKeyL) (hK' _ _ rfl (Below.refl _ _))
            · intro a w' hF hB hd
              have e107 : a.eval (.tmp 107) = .bool false := hd 31 (by decide +kernel) (.inr (by decide))
              have e10 : a.eval (.tmp 10) = .pointer (some ⟨w2.heap.size, 0, none⟩) := hF 10 (by decide +kernel)
              exact doesG_wp (wanted_of rfl (yielded_of rfl e107)) rfl fun K' hK' => wp_load_mid 23 (.tmp 10) rfl w2.heap.size 0 e10 (row8 Z) _ (ZB14.out.below hB ZB14.out.lt).range Tryd.underlying23 rfl (by rw [Z32.out]; exact infoKeyL) (hK' _ _ rfl (Below.refl _ _))
            · intro a w' hF hB hd
              have e107 : a.eval (.tmp 107) = .bool false := hd 31 (by decide +kernel) (.inr (by decide))
              have e108 : a.eval (.tmp 108) = .agg (row8 K1).toArray := hd 32 (by decide +kernel) (.inr (by decide))
              have e109 : a.eval (.tmp 109) = .agg (row8 Z).toArray := hd 33 (by decide +kernel) (.inr (by decide))
              exact doesG_call (wanted_of rfl (yielded_of rfl e107)) (ex_call (vs := #[.agg (row8 K1).toArray, .agg (row8 Z).toArray]) rfl (by simp only [List.map_toArray, List.map_cons, List.map_nil, e108, e109]) (by go_simp)) rfl ((HCR.out w' (W14.out.on hB)).mono fun e w2 hh => ⟨_, hh.1, rfl, hh.2⟩)
            · intro a w' hF hB hd
              have e107 : a.eval (.tmp 107) = .bool false := hd 31 (by decide +kernel) (.inr (by decide))
              have e11 : a.eval (.tmp 11) = .pointer (some ⟨w2.heap.size + 1, 0, none⟩) := hF 11 (by decide +kernel)
              exact doesG_wp (wanted_of rfl (yielded_of rfl e107)) rfl fun K' hK' => wp_load_mid 24 (.tmp 11) rfl (w2.heap.size + 1) 0 e11 (row8 V) _ (VB14.out.below hB VB14.out.lt).range Tryd.underlying24 rfl (by rw [V32.out]; exact infoS) (hK' _ _ rfl (Below.refl _ _))
            · intro a w' hF hB hd
              have e107 : a.eval (.tmp 107) = .bool false := hd 31 (by decide +kernel) (.inr (by decide))
              have e110 : a.eval (.tmp 110) = .agg (row8 V).toArray := hd 34 (by decide +kernel) (.inr (by decide))
              have e111 : a.eval (.tmp 111) = .agg (row8 V).toArray := hd 35 (by decide +kernel) (.inr (by decide))
              exact doesG_val (wanted_of rfl (yielded_of rfl e107)) (ex_binOp rfl e110 e111 (run_eqGuard_agg (P := Tryd.prog) (w := w') .eql 24 _ _ _ _ eqTypeSW) (hvv w')) rfl rfl
            · intro a w' hF hB hd
              have e99 : a.eval (.tmp 99) = .bool true := hd 23 (by decide +kernel) (.inr (by decide))
              have e107 : a.eval (.tmp 107) = .bool false := hd 31 (by decide +kernel) (.inr (by decide))
              have e112 : a.eval (.tmp 112) = .bool true := hd 36 (by decide +kernel) (.inr (by decide))
              exact doesG_val (wanted_of rfl (yielded_of rfl e99)) (ex_pick rfl e107 (by simp [e112])) rfl rfl
            · intro a w' hF hB hd
              have e99 : a.eval (.tmp 99) = .bool true := hd 23 (by decide +kernel) (.inr (by decide))
              have e113 : a.eval (.tmp 113) = .bool true := hd 37 (by decide +kernel) (.inr (by decide))
              exact doesG_val rfl (ex_pick rfl e99 (by simp [e113])) rfl rfl
            · intro a w' hF hB hd
              have e114 : a.eval (.tmp 114) = .bool true := hd 38 (by decide +kernel) (.inr (by decide))
              exact doesG_val rfl (ex_move rfl e114) rfl rfl
            · intro a w' hF hB hd
              have e115 : a.eval (.tmp 115) = .bool true := hd 39 (by decide +kernel) (.inr (by decide))
              exact doesG_call (wanted_of rfl (yielded_of rfl e115)) (ex_call (vs := #[]) rfl (by simp) (by go_simp)) rfl ((HAW.out w' (W14.out.on hB)).mono fun e w2 hh => ⟨_, hh.1, rfl, hh.2⟩)
            · intro a w' hF hB hd
              have e115 : a.eval (.tmp 115) = .bool true := hd 39 (by decide +kernel) (.inr (by decide))
              have e116 : a.eval (.tmp 116) = .bool true := hd 40 (by decide +kernel) (.inr (by decide))
              exact doesG_val rfl (ex_pick rfl e115 (by simp [e116])) rfl rfl
            · intro a w' hF hB hd
              have e117 : a.eval (.tmp 117) = .bool true := hd 41 (by decide +kernel) (.inr (by decide))
              exact doesG_val rfl (ex_assign rfl e117) rfl rfl
          · intro vs wz hb hv hap
            have e2 : vs 42 = .bool true := hv 42 (by decide) (by decide)
            simp only [List.take_succ_cons, List.take_zero, List.drop_succ_cons, List.drop_zero, putOps, Act.put, List.setIfInBounds_toArray, List.set_cons_zero, List.set_cons_succ, e2]
            have HB := Lib.hid (W14.out.on hb)
            clear hv hap e2 hb
            go_wp2_with fail
            go_ret
            exact ⟨rfl, HB.out⟩
        · obtain ⟨e1, e2⟩ := HUE.out hR
          subst e1
          subst e2
          clear HUO HUE HCR0 hR
          refine wp_region_g (by kernel_rfl) 43 (by decide) (by kernel_rfl) (by kernel_rfl) (by kernel_rfl) (w14.heap.size) (Nat.le_refl _) [.val (.int .i64 30), .val (.bool true), .val (.bool true), .val (.agg (row8 E).toArray), .val (.agg (row8 E).toArray), .val (.bool true), .val (.bool true), .val (.bool true), .val (.int .i64 30), .val (.bool true), .val (.bool true), .val (.agg (row8 E).toArray), .val (.agg (row8 E).toArray), .val (.bool true), .val (.bool true), .val (.bool true), .val undef, .val undef, .val undef, .val undef, .val undef, .val (.bool true), .val (.bool true), .val (.bool true), .val (.int .i64 30), .val (.bool true), .val (.bool true), .val (.agg (row8 E).toArray), .val (.agg (row8 E).toArray), .val (.bool true), .val (.bool true), .val (.bool true), .val undef, .val undef, .val undef, .val undef, .val undef, .val (.bool true), .val (.bool true), .val (.bool true), .val (.bool true), .val (.bool true), .val (.bool true)] (fun _ => 43) ?_ ?_
          · refine ⟨?_, ?_, ?_, ?_, ?_, ?_, ?_, ?_, ?_, ?_, ?_, ?_, ?_, ?_, ?_, ?_, ?_, ?_, ?_, ?_, ?_, ?_, ?_, ?_, ?_, ?_, ?_, ?_, ?_, ?_, ?_, ?_, ?_, ?_, ?_, ?_, ?_, ?_, ?_, ?_, ?_, ?_, ?_, trivial⟩
            · intro a w' hF hB hd
              have e14 : a.eval (.tmp 14) = .int .i64 30 := hF 14 (by decide +kernel)
              exact doesG_val rfl (ex_move rfl e14) rfl rfl
            · intro a w' hF hB hd
              have e76 : a.eval (.tmp 76) = .int .i64 30 := hd 0 (by decide +kernel) (.inr (by decide))
              exact doesG_val rfl (ex_binOp rfl e76 rfl (by go_simp) (by go_simp)) rfl rfl
            · intro a w' hF hB hd
              have e77 : a.eval (.tmp 77) = .bool true := hd 1 (by decide +kernel) (.inr (by decide))
              exact doesG_val rfl (ex_move rfl e77) rfl rfl
            · intro a w' hF hB hd
              have e78 : a.eval (.tmp 78) = .bool true := hd 2 (by decide +kernel) (.inr (by decide))
              have e13 : a.eval (.tmp 13) = .pointer (some ⟨w7.heap.size, 0, none⟩) := hF 13 (by decide +kernel)
              exact doesG_wp (wanted_of rfl (yielded_of rfl e78)) rfl fun K' hK' => wp_load_mid 23 (.tmp 13) rfl w7.heap.size 0 e13 (row8 E) _ (XB14.out.below hB XB14.out.lt).range Tryd.underlying23 rfl (by rw [E32.out]; exact infoKeyL) (hK' _ _ rfl (Below.refl _ _))
            · intro a w' hF hB hd
              have e78 : a.eval (.tmp 78) = .bool true := hd 2 (by decide +kernel) (.inr (by decide))
              exact doesG_val (wanted_of rfl (yielded_of rfl e78)) (ex_build rfl (Eq.trans (b := Tryd.prog.built 23 []) (by kernel_rfl) HBE.out)) rfl rfl
            · intro a w' hF hB hd
              have e78 : a.eval (.tmp 78) = .bool true := hd 2 (by decide +kernel) (.inr (by decide))
              have e79 : a.eval (.tmp 79) = .agg (row8 E).toArray := hd 3 (by decide +kernel) (.inr (by decide))
              have e80 : a.eval (.tmp 80) = .agg (row8 E).toArray := hd 4 (by decide +kernel) (.inr (by decide))
              exact doesG_val (wanted_of rfl (yielded_of rfl e78)) (ex_binOp rfl e79 e80 (run_eqGuard_agg (P := Tryd.prog) (w := w') .eql 23 _ _ _ _ eqTypeKW) (hee w')) rfl rfl
            · intro a w' hF hB hd
              have e78 : a.eval (.tmp 78) = .bool true := hd 2 (by decide +kernel) (.inr (by decide))
              have e81 : a.eval (.tmp 81) = .bool true := hd 5 (by decide +kernel) (.inr (by decide))
              exact doesG_val rfl (ex_pick rfl e78 (by simp [e81])) rfl rfl
            · intro a w' hF hB hd
              have e82 : a.eval (.tmp 82) = .bool true := hd 6 (by decide +kernel) (.inr (by decide))
              exact doesG_val rfl (ex_move rfl e82) rfl rfl
            · intro a w' hF hB hd
              have e83 : a.eval (.tmp 83) = .bool true := hd 7 (by decide +kernel) (.inr (by decide))
              have e17 : a.eval (.tmp 17) = .int .i64 30 := hF 17 (by decide +kernel)
              exact doesG_val (wanted_of rfl (yielded_of rfl e83)) (ex_move rfl e17) rfl rfl
            · intro a w' hF hB hd
              have e83 : a.eval (.tmp 83) = .bool true := hd 7 (by decide +kernel) (.inr (by decide))
              have e84 : a.eval (.tmp 84) = .int .i64 30 := hd 8 (by decide +kernel) (.inr (by decide))
              exact doesG_val (wanted_of rfl (yielded_of rfl e83)) (ex_binOp rfl e84 rfl (by go_simp) (by go_simp)) rfl rfl
            · intro a w' hF hB hd
              have e83 : a.eval (.tmp 83) = .bool true := hd 7 (by decide +kernel) (.inr (by decide))
              have e85 : a.eval (.tmp 85) = .bool true := hd 9 (by decide +kernel) (.inr (by decide))
              exact doesG_val (wanted_of rfl (yielded_of rfl e83)) (ex_move rfl e85) rfl rfl
            · intro a w' hF hB hd
              have e86 : a.eval (.tmp 86) = .bool true := hd 10 (by decide +kernel) (.inr (by decide))
              have e16 : a.eval (.tmp 16) = .pointer (some ⟨w11.heap.size, 0, none⟩) := hF 16 (by decide +kernel)
              exact doesG_wp (wanted_of rfl (yielded_of rfl e86)) rfl fun K' hK' => wp_load_mid 23 (.tmp 16) rfl w11.heap.size 0 e16 (row8 E) _ (YB14.out.below hB YB14.out.lt).range Tryd.underlying23 rfl (by rw [E32.out]; exact infoKeyL) (hK' _ _ rfl (Below.refl _ _))
            · intro a w' hF hB hd
              have e86 : a.eval (.tmp 86) = .bool true := hd 10 (by decide +kernel) (.inr (by decide))
              exact doesG_val (wanted_of rfl (yielded_of rfl e86)) (ex_build rfl (Eq.trans (b := Tryd.prog.built 23 []) (by kernel_rfl) HBE.out)) rfl rfl
            · intro a w' hF hB hd
              have e86 : a.eval (.tmp 86) = .bool true := hd 10 (by decide +kernel) (.inr (by decide))
              have e87 : a.eval (.tmp 87) = .agg (row8 E).toArray := hd 11 (by decide +kernel) (.inr (by decide))
              have e88 : a.eval (.tmp 88) = .agg (row8 E).toArray := hd 12 (by decide +kernel) (.inr (by decide))
              exact doesG_val (wanted_of rfl (yielded_of rfl e86)) (ex_binOp rfl e87 e88 (run_eqGuard_agg (P := Tryd.prog) (w := w') .eql 23 _ _ _ _ eqTypeKW) (hee w')) rfl rfl
            · intro a w' hF hB hd
              have e83 : a.eval (.tmp 83) = .bool true := hd 7 (by decide +kernel) (.inr (by decide))
              have e86 : a.eval (.tmp 86) = .bool true := hd 10 (by decide +kernel) (.inr (by decide))
              have e89 : a.eval (.tmp 89) = .bool true := hd 13 (by decide +kernel) (.inr (by decide))
              exact doesG_val (wanted_of rfl (yielded_of rfl e83)) (ex_pick rfl e86 (by simp [e89])) rfl rfl
            · intro a w' hF hB hd
              have e83 : a.eval (.tmp 83) = .bool true := hd 7 (by decide +kernel) (.inr (by decide))
              have e90 : a.eval (.tmp 90) = .bool true := hd 14 (by decide +kernel) (.inr (by decide))
              exact doesG_val (wanted_of rfl (yielded_of rfl e83)) (ex_move rfl e90) rfl rfl
            · intro a w' hF hB hd
              have e91 : a.eval (.tmp 91) = .bool true := hd 15 (by decide +kernel) (.inr (by decide))
              exact doesG_skip (unwanted_of rfl (yielded_of rfl e91) (by decide)) rfl
            · intro a w' hF hB hd
              have e91 : a.eval (.tmp 91) = .bool true := hd 15 (by decide +kernel) (.inr (by decide))
              exact doesG_skip (unwanted_of rfl (yielded_of rfl e91) (by decide)) rfl
            · intro a w' hF hB hd
              have e91 : a.eval (.tmp 91) = .bool true := hd 15 (by decide +kernel) (.inr (by decide))
              exact doesG_skip (unwanted_of rfl (yielded_of rfl e91) (by decide)) rfl
            · intro a w' hF hB hd
              have e91 : a.eval (.tmp 91) = .bool true := hd 15 (by decide +kernel) (.inr (by decide))
              exact doesG_skip (unwanted_of rfl (yielded_of rfl e91) (by decide)) rfl
            · intro a w' hF hB hd
              have e91 : a.eval (.tmp 91) = .bool true := hd 15 (by decide +kernel) (.inr (by decide))
              exact doesG_skip (unwanted_of rfl (yielded_of rfl e91) (by decide)) rfl
            · intro a w' hF hB hd
              have e83 : a.eval (.tmp 83) = .bool true := hd 7 (by decide +kernel) (.inr (by decide))
              have e91 : a.eval (.tmp 91) = .bool true := hd 15 (by decide +kernel) (.inr (by decide))
              exact doesG_val (wanted_of rfl (yielded_of rfl e83)) (ex_pick rfl e91 (rfl)) rfl rfl
            · intro a w' hF hB hd
              have e83 : a.eval (.tmp 83) = .bool true := hd 7 (by decide +kernel) (.inr (by decide))
              have e97 : a.eval (.tmp 97) = .bool true := hd 21 (by decide +kernel) (.inr (by decide))
              exact doesG_val rfl (ex_pick rfl e83 (by simp [e97])) rfl rfl
            · intro a w' hF hB hd
              have e98 : a.eval (.tmp 98) = .bool true := hd 22 (by decide +kernel) (.inr (by decide))
              exact doesG_val rfl (ex_move rfl e98) rfl rfl
            · intro a w' hF hB hd
              have e99 : a.eval (.tmp 99) = .bool true := hd 23 (by decide +kernel) (.inr (by decide))
              have e19 : a.eval (.tmp 19) = .int .i64 30 := hF 19 (by decide +kernel)
              exact doesG_val (wanted_of rfl (yielded_of rfl e99)) (ex_move rfl e19) rfl rfl
            · intro a w' hF hB hd
              have e99 : a.eval (.tmp 99) = .bool true := hd 23 (by decide +kernel) (.inr (by decide))
              have e100 : a.eval (.tmp 100) = .int .i64 30 := hd 24 (by decide +kernel) (.inr (by decide))
              exact doesG_val (wanted_of rfl (yielded_of rfl e99)) (ex_binOp rfl e100 rfl (by go_simp) (by go_simp)) rfl rfl
            · intro a w' hF hB hd
              have e99 : a.eval (.tmp 99) = .bool true := hd 23 (by decide +kernel) (.inr (by decide))
              have e101 : a.eval (.tmp 101) = .bool true := hd 25 (by decide +kernel) (.inr (by decide))
              exact doesG_val (wanted_of rfl (yielded_of rfl e99)) (ex_move rfl e101) rfl rfl
            · intro a w' hF hB hd
              have e102 : a.eval (.tmp 102) = .bool true := hd 26 (by decide +kernel) (.inr (by decide))
              have e18 : a.eval (.tmp 18) = .pointer (some ⟨w13.heap.size, 0, none⟩) := hF 18 (by decide +kernel)
              exact doesG_wp (wanted_of rfl (yielded_of rfl e102)) rfl fun K' hK' => wp_load_mid 23 (.tmp 18) rfl w13.heap.size 0 e18 (row8 E) _ (UB14.out.below hB UB14.out.lt).range Tryd.underlying23 rfl (by rw [E32.out]; exact infoKeyL) (hK' _ _ rfl (Below.refl _ _))
            · intro a w' hF hB hd
              have e102 : a.eval (.tmp 102) = .bool true := hd 26 (by decide +kernel) (.inr (by decide))
              exact doesG_val (wanted_of rfl (yielded_of rfl e102)) (ex_build rfl (Eq.trans (b := Tryd.prog.built 23 []) (by kernel_rfl) HBE.out)) rfl rfl
            · intro a w' hF hB hd
              have e102 : a.eval (.tmp 102) = .bool true := hd 26 (by decide +kernel) (.inr (by decide))
              have e103 : a.eval (.tmp 103) = .agg (row8 E).toArray := hd 27 (by decide +kernel) (.inr (by decide))
              have e104 : a.eval (.tmp 104) = .agg (row8 E).toArray := hd 28 (by decide +kernel) (.inr (by decide))
              exact doesG_val (wanted_of rfl (yielded_of rfl e102)) (ex_binOp rfl e103 e104 (run_eqGuard_agg (P := Tryd.prog) (w := w') .eql 23 _ _ _ _ eqTypeKW) (hee w')) rfl rfl
            · intro a w' hF hB hd
              have e99 : a.eval (.tmp 99) = .bool true := hd 23 (by decide +kernel) (.inr (by decide))
              have e102 : a.eval (.tmp 102) = .bool true := hd 26 (by decide +kernel) (.inr (by decide))
              have e105 : a.eval (.tmp 105) = .bool true := hd 29 (by decide +kernel) (.inr (by decide))
              exact doesG_val (wanted_of rfl (yielded_of rfl e99)) (ex_pick rfl e102 (by simp [e105])) rfl rfl
            · intro a w' hF hB hd
              have e99 : a.eval (.tmp 99) = .bool true := hd 23 (by decide +kernel) (.inr (by decide))
              have e106 : a.eval (.tmp 106) = .bool true := hd 30 (by decide +kernel) (.inr (by decide))
              exact doesG_val (wanted_of rfl (yielded_of rfl e99)) (ex_move rfl e106) rfl rfl
            · intro a w' hF hB hd
              have e107 : a.eval (.tmp 107) = .bool true := hd 31 (by decide +kernel) (.inr (by decide))
              exact doesG_skip (unwanted_of rfl (yielded_of rfl e107) (by decide)) rfl
            · intro a w' hF hB hd
              have e107 : a.eval (.tmp 107) = .bool true := hd 31 (by decide +kernel) (.inr (by decide))
              exact doesG_skip (unwanted_of rfl (yielded_of rfl e107) (by decide)) rfl
            · intro a w' hF hB hd
              have e107 : a.eval (.tmp 107) = .bool true := hd 31 (by decide +kernel) (.inr (by decide))
              exact doesG_skip (unwanted_of rfl (yielded_of rfl e107) (by decide)) rfl
            · intro a w' hF hB hd
              have e107 : a.eval (.tmp 107) = .bool true := hd 31 (by decide +kernel) (.inr (by decide))
              exact doesG_skip (unwanted_of rfl (yielded_of rfl e107) (by decide)) rfl
            · intro a w' hF hB hd
              have e107 : a.eval (.tmp 107) = .bool true := hd 31 (by decide +kernel) (.inr (by decide))
              exact doesG_skip (unwanted_of rfl (yielded_of rfl e107) (by decide)) rfl
            · intro a w' hF hB hd
              have e99 : a.eval (.tmp 99) = .bool true := hd 23 (by decide +kernel) (.inr (by decide))
              have e107 : a.eval (.tmp 107) = .bool true := hd 31 (by decide +kernel) (.inr (by decide))
              exact doesG_val (wanted_of rfl (yielded_of rfl e99)) (ex_pick rfl e107 (rfl)) rfl rfl
            · intro a w' hF hB hd
              have e99 : a.eval (.tmp 99) = .bool true := hd 23 (by decide +kernel) (.inr (by decide))
              have e113 : a.eval (.tmp 113) = .bool true := hd 37 (by decide +kernel) (.inr (by decide))
              exact doesG_val rfl (ex_pick rfl e99 (by simp [e113])) rfl rfl
            · intro a w' hF hB hd
              have e114 : a.eval (.tmp 114) = .bool true := hd 38 (by decide +kernel) (.inr (by decide))
              exact doesG_val rfl (ex_move rfl e114) rfl rfl
            · intro a w' hF hB hd
              have e115 : a.eval (.tmp 115) = .bool true := hd 39 (by decide +kernel) (.inr (by decide))
              exact doesG_call (wanted_of rfl (yielded_of rfl e115)) (ex_call (vs := #[]) rfl (by simp) (by go_simp)) rfl ((HAW.out w' (W14.out.on hB)).mono fun e w2 hh => ⟨_, hh.1, rfl, hh.2⟩)
            · intro a w' hF hB hd
              have e115 : a.eval (.tmp 115) = .bool true := hd 39 (by decide +kernel) (.inr (by decide))
              have e116 : a.eval (.tmp 116) = .bool true := hd 40 (by decide +kernel) (.inr (by decide))
              exact doesG_val rfl (ex_pick rfl e115 (by simp [e116])) rfl rfl
            · intro a w' hF hB hd
              have e117 : a.eval (.tmp 117) = .bool true := hd 41 (by decide +kernel) (.inr (by decide))
              exact doesG_val rfl (ex_assign rfl e117) rfl rfl
          · intro vs wz hb hv hap
            have e2 : vs 42 = .bool true := hv 42 (by decide) (by decide)
            simp only [List.take_succ_cons, List.take_zero, List.drop_succ_cons, List.drop_zero, putOps, Act.put, List.setIfInBounds_toArray, List.set_cons_zero, List.set_cons_succ, e2]
            have HB := Lib.hid (W14.out.on hb)
            clear hv hap e2 hb
            go_wp2_with fail
            go_ret
            exact ⟨rfl, HB.out⟩
set_option maxRecDepth 100000 in
theorem reads (os : Os) {H : Type} (enc : TypeId × Value → H) : ∃ places, DataW.whole enc Tryd.prog ((World.doorLaid Tryd.prog 400 os).forCall (fun _ _ => 0) ⟨#[], #[.agg (row8 (List.replicate 96 0)).toArray, .int .u8 0, .int .u8 0], []⟩).memory Tryd.f6.params.toList Rows.wrapTurnedSpec.vars false (#[.agg (row8 (List.replicate 96 0)).toArray, .int .u8 0, .int .u8 0] : Array Value).toList 8 = some ([litG 3 32 (List.replicate 96 0), .lit (.int .u8 0), .lit (.int .u8 0)], [], places) :=
  ⟨[], by kernel_rfl⟩
set_option linter.unusedVariables false in
set_option maxHeartbeats 1000000 in
set_option maxRecDepth 100000 in
theorem lifted (os : Os) (started : os.Started) (H : Type) (enc : TypeId × Value → H) (F : Stop.Interp) :
    ReturnsInHanded {} Tryd.checked os 6 .any ((OpenSpec.ofChange Rows.wrapTurnedSpec).preRow enc Tryd.prog Tryd.f6 Rows.wrapTurnedRow.domain false laidXPs) (((OpenSpec.ofChange Rows.wrapTurnedSpec).at F).post enc Tryd.prog Tryd.f6 false true false false) := by
  obtain ⟨places, hx⟩ := reads os enc
  refine returnsInHanded_of_row (C := Tryd.checked) (s := OpenSpec.ofChange Rows.wrapTurnedSpec) own started (by kernel_rfl) Tryd.func6
    (witness_row_atRef (enc := enc) (C := Tryd.checked) false (World.doorLaid Tryd.prog 400 os) #[.agg (row8 (List.replicate 96 0)).toArray, .int .u8 0, .int .u8 0] rfl (by kernel_rfl) (by kernel_rfl) (by kernel_rfl)
      (OpenSpec.preRow_of_cond 8 hx (by kernel_rfl) (fun k hk => by cases hk) (by kernel_rfl) (doorXPs_met os _))) ?_
  intro W base args ds gs before hval0 hW _ hcond hsz0 hL _ _
  have hsz : (DataW.weightsEach Tryd.prog (Tryd.f6.params.toList ++ Rows.wrapTurnedSpec.plain.varTypes Tryd.prog) (ds ++ gs)).all (· ≤ reachBytes) = true := hsz0
  clear hsz0
  have hval : ∀ (j : Nat) t v, Tryd.f6.params[j]? = some t → args[j]? = some v → Value.okWide Tryd.prog W .any base t v := hval0
  have hW' := hW
  obtain ⟨p, q, hA0, hV, rfl, _, _⟩ := hW
  have hA : DataW.TrodAll enc Tryd.prog W 0 (fun _ => true) true Tryd.f6.params.toList args.toList ds p := hA0
  rw [Tryd.params6] at hA hval hsz
  obtain ⟨v0, vs0, d0, ds0, p0, q0, hargs, rfl, rfl, g0, r0⟩ := trodAll_cons hA
  obtain ⟨v1, vs1, d1, ds1, p1, q1, rfl, rfl, rfl, g1, r1⟩ := trodAll_cons r0
  obtain ⟨v2, vs2, d2, ds2, p2, q2, rfl, rfl, rfl, g2, r2⟩ := trodAll_cons r1
  obtain ⟨rfl, rfl, rfl⟩ := trodAll_nil r2
  obtain rfl : args = #[v0, v1, v2] := by cases args; simp_all
  obtain ⟨rfl, rfl⟩ := trodVars_none hV
  obtain ⟨l0, h0, rfl, rfl, rfl⟩ := open_grid Tryd.underlying37 Tryd.underlying23 Tryd.underlying5 cells5 cells23 (hval 0 37 v0 rfl rfl) cells37 g0
  obtain ⟨a1, rfl, rfl, rfl, w1⟩ := open_int Tryd.underlying5 (hval 1 5 v1 rfl rfl) g1
  obtain ⟨a2, rfl, rfl, rfl, w2⟩ := open_int Tryd.underlying5 (hval 2 5 v2 rfl rfl) g2
  clear hA0 hval0
  have hlt := hW'.lt
  refine (walk W (tabsXPs_of_laid hL) l0 h0 a1 w1 a2 w2).mono fun e W' ⟨he, hb⟩ => ?_
  subst he
  have hargs : DataW.TrodAll enc Tryd.prog W' 0 (fun b => decide (b < W.heap.size)) true _ _ _ _ := (trodAll_cons_mk (shut_grid Tryd.underlying37 Tryd.underlying23 Tryd.underlying5 cells5 cells23 cells37 h0) (trodAll_cons_mk (shut_int Tryd.underlying5 w1) (trodAll_cons_mk (shut_int Tryd.underlying5 w2) trodAll_mk0)))
  simp only [List.append_nil] at hW' hargs
  exact ⟨_, rfl, post_law hW' (trodAll_cons_mk (shut_bool Tryd.underlying4 _) trodAll_mk0) hargs rfl hb⟩

theorem over : Rows.wrapTurnedRow.holds Tryd.pinned (OpenSpec.ofChange Rows.wrapTurnedSpec) :=
  OpenClaim.holds_of_cond 6 Tryd.f6 rfl rfl rfl rfl rfl rfl rfl ⟨rfl, rfl, rfl, rfl, rfl⟩ rfl rfl rfl rfl rfl (by kernel_rfl) Tryd.func6 (by kernel_rfl)
    (of_decide_eq_true (by kernel_rfl)) (by unfold Func.isWrapper; first | (rw [if_pos (by decide +kernel)]; kernel_rfl) | (rw [if_neg (by decide +kernel)]; exact ⟨rfl, rfl⟩))
    (fun os started H enc _ F => by rw [OpenClaim.pre_eq_preRow]; exact lifted os started H enc F)

/-- The given statement. -/
theorem proved : Rows.WrapTurnedCardSaid :=
  Claim7.holds_tied_plain_at .later [] _ _ _ _
    over (fun _ h => by cases h) (by kernel_rfl) (fun _ h => by cases h) wrapTurned_row_tie rfl ⟨rfl, rfl⟩ (by kernel_rfl) rfl
    (fun f fn hf hfn => by
      obtain rfl : f = 6 := Option.some.inj ((show Tryd.prog.funcNamed "reliquary/reliquarylaw08.WrapTurned" = some 6 by kernel_rfl).symm.trans hf) |>.symm
      obtain rfl : fn = Tryd.f6 := (Option.some.inj (Tryd.func6.symm.trans hfn)).symm
      exact ⟨by kernel_rfl, fun j t ht => by
        rw [Tryd.params6] at ht
        have hm : t ∈ [37, 5, 5] := by simpa using Array.mem_of_getElem? ht
        have hall : ([37, 5, 5].all fun u => !Tryd.prog.wantsStandIn u) = true := by kernel_rfl
        exact (show Tryd.prog.wantsStandIn t = false by simpa using List.all_eq_true.1 hall t hm)⟩)
    (by kernel_rfl)
end Go.Proofs.YtjemajenfkjelaaDoor.wrapTurned

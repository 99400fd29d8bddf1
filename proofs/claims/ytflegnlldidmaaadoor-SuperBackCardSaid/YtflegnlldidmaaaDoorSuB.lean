/- May a geometry be; where clusters begin, and how many there is room for: contracts, the program's and the document's. Written by gen_su.py. Own work. -/
import Derived.Test.YtflegnlldidmaaaDoorSuA
import Derived.Test.YtflegnlldidmaaaDoorFactsO
import Derived.Deep.DeepCutAuto
namespace Go.Proofs.YtflegnlldidmaaaDoor
open Go.ChangeShapes Go.WideShapes Go.ChangeAt Go.RowKit
open SU

set_option maxHeartbeats 400000 in
theorem sumay_any (C P : Int) (w : World) : Calls Tryd.prog 16 #[.agg #[.int .i64 C, .int .i64 P]] w fun e w' => e = .returned (.bool (may C P)) ∧ Below w.heap.size w w' := by
  have X1 := Lib.hid (Blk.new w 23 [.int .i64 C, .int .i64 P] _ rfl)
  have W1 := Lib.hid ((Below.refl w.heap.size w).alloc (Nat.le_refl _) (.cells [Value.int .i64 C, .int .i64 P].toArray 23))
  go_enter Tryd.func16, Tryd.ntmps16
  go_upto_region 1 with (fail)
  obtain ⟨w1, hw1⟩ : ∃ x, x = w.alloc (.cells #[.int .i64 C, .int .i64 P] 23) := ⟨_, rfl⟩
  have X1' := Lib.hid (show Blk w1 w.heap.size 23 [.int .i64 C, .int .i64 P] by rw [hw1]; exact X1.out)
  have W1' := Lib.hid (show Below w.heap.size w w1 by rw [hw1]; exact W1.out)
  rw [← hw1]
  clear hw1 X1 W1
  have X1 := X1'
  have W1 := W1'
  clear X1' W1'
  refine wp_region_g (by kernel_rfl) 5 (by decide) (by kernel_rfl) (by kernel_rfl) (by kernel_rfl) (w1.heap.size) (Nat.le_refl _) [.val (.agg #[.int .i64 C, .int .i64 P]), .val (.agg #[.int .i64 C, .int .i64 P]), .val (.agg #[.int .i64 (near 64 C), .int .i64 (near 2 P)]), .val (.bool (may C P)), .val (.bool (may C P))] (fun _ => 5) ?_ ?_
  · refine ⟨?_, ?_, ?_, ?_, ?_, trivial⟩
    · intro a w' hF hB hd
      have e1 : a.eval (.tmp 1) = .pointer (some ⟨w.heap.size, 0, none⟩) := hF 1 (by decide +kernel)
      exact doesG_val rfl (ex_geo rfl e1 (X1.out.below hB X1.out.lt)) rfl rfl
    · intro a w' hF hB hd
      have e1 : a.eval (.tmp 1) = .pointer (some ⟨w.heap.size, 0, none⟩) := hF 1 (by decide +kernel)
      exact doesG_val rfl (ex_geo rfl e1 (X1.out.below hB X1.out.lt)) rfl rfl
    · intro a w' hF hB hd
      have e4 : a.eval (.tmp 4) = .agg #[.int .i64 C, .int .i64 P] := hd 1 (by decide +kernel) (.inr (by decide))
      exact doesG_call rfl (ex_call (vs := #[.agg #[.int .i64 C, .int .i64 P]]) rfl (by simp only [List.map_toArray, List.map_cons, List.map_nil, e4]) (by go_simp)) rfl ((sunear_any C P w').mono fun e w2 hh => ⟨_, hh.1, rfl, hh.2⟩)
    · intro a w' hF hB hd
      have e3 : a.eval (.tmp 3) = .agg #[.int .i64 C, .int .i64 P] := hd 0 (by decide +kernel) (.inr (by decide))
      have e5 : a.eval (.tmp 5) = .agg #[.int .i64 (near 64 C), .int .i64 (near 2 P)] := hd 2 (by decide +kernel) (.inr (by decide))
      exact doesG_val rfl (ex_binOp rfl e3 e5 (run_eqGuard_agg (P := Tryd.prog) (w := w') .eql 23 _ _ _ _ eqTypeGeo) (by rw [run_eql_geo, near_may])) rfl rfl
    · intro a w' hF hB hd
      have e6 : a.eval (.tmp 6) = .bool (may C P) := hd 3 (by decide +kernel) (.inr (by decide))
      exact doesG_val rfl (ex_assign rfl e6) rfl rfl
  · intro vs w2 hb hv hap
    have e2 : vs 4 = .bool (may C P) := hv 4 (by decide) (by decide)
    simp only [List.take_succ_cons, List.take_zero, List.drop_succ_cons, List.drop_zero, putOps, Act.put, List.setIfInBounds_toArray, List.set_cons_zero, List.set_cons_succ, e2]
    have HB := Lib.hid (W1.out.on hb)
    clear hv hap e2 hb
    go_wp2_with fail
    go_ret
    exact ⟨rfl, HB.out⟩

set_option maxHeartbeats 400000 in
theorem suplace_any (C P : Int) (n : Nat) (hn : n < 4294967296) (w : World) : Calls Tryd.prog 14 #[.agg #[.int .i64 C, .int .i64 P], .int .u32 (n : Int)] w fun e w' => e = .returned (.int .i64 (place C P n)) ∧ Below w.heap.size w w' := by
  obtain ⟨R, hR⟩ : ∃ R, R = place C P n := ⟨_, rfl⟩
  rw [← hR]
  have X1 := Lib.hid (Blk.new w 23 [.int .i64 C, .int .i64 P] _ rfl)
  have W1 := Lib.hid ((Below.refl w.heap.size w).alloc (Nat.le_refl _) (.cells [Value.int .i64 C, .int .i64 P].toArray 23))
  have HM := Lib.hid (fun W => sumay_any C P W)
  unfold place at hR
  by_cases hm : may C P = true
  · rw [hm] at HM
    obtain ⟨_, _, h1, h2⟩ := may_iff.1 hm
    by_cases hk : n ≤ 65535
    · rw [if_pos ⟨hm, hk⟩] at hR
      have HR := Lib.hid hR
      have HZ := Lib.hid (fun W => susize_any C P ⟨h1, h2⟩ W)
      obtain ⟨Q, hQ⟩ : ∃ Q, Q = P * 512 := ⟨_, rfl⟩
      obtain ⟨M, hM⟩ : ∃ M, M = (n : Int) * Q := ⟨_, rfl⟩
      have hb : 0 ≤ M ∧ M ≤ 67107840 := by
        rcases (show P = 1 ∨ P = 2 by omega) with rfl | rfl <;> (subst hQ; omega)
      rw [← hQ] at HZ HR
      rw [← hM] at HR
      have a0 : ¬ (65535 : Int) < (n : Int) := by omega
      have a1 : IntKind.i64.wrap (n : Int) = (n : Int) := by rw [IntKind.wrap_i64]; omega
      have a2 : IntKind.i64.wrap ((n : Int) * Q) = M := by rw [← hM, IntKind.wrap_i64]; omega
      have a3 : IntKind.i64.wrap (4096 + M) = 4096 + M := by rw [IntKind.wrap_i64]; omega
      clear hM hQ hR h1 h2 hm
      go_enter Tryd.func14, Tryd.ntmps14
      go_wp2_with (first
        | (refine wpList_load_mid rfl 23 (.tmp 2) rfl w.heap.size 0 rfl [.int .i64 C, .int .i64 P] _ X1.out.range Tryd.underlying23 rfl infoGeo ?_)
        | (go_at_call 16; (with_reducible refine (HM.out _).mono ?_); rintro e w2 ⟨rfl, b2⟩; have W2 := Lib.hid (W1.out.on b2); have X2 := Lib.hid (X1.out.below b2 X1.out.lt); have c0 := X2.out.cell 0 _ rfl; have c1 := X2.out.cell 1 _ rfl; clear b2)
        | (refine wpList_load_mid rfl 23 (.tmp 2) rfl w.heap.size 0 rfl [.int .i64 C, .int .i64 P] _ X2.out.range Tryd.underlying23 rfl infoGeo ?_)
        | (go_at_call 30; (with_reducible refine (HZ.out _).mono ?_); rintro e w3 ⟨rfl, b3⟩; have W3 := Lib.hid (W2.out.on b3); clear b3))
      go_ret
      exact ⟨by rw [HR.out]; rfl, W3.out⟩
    · rw [if_neg (fun h => hk h.2)] at hR
      subst hR
      have a0 : (65535 : Int) < (n : Int) := by omega
      clear h1 h2 hm
      go_enter Tryd.func14, Tryd.ntmps14
      go_wp2_with (first
        | (refine wpList_load_mid rfl 23 (.tmp 2) rfl w.heap.size 0 rfl [.int .i64 C, .int .i64 P] _ X1.out.range Tryd.underlying23 rfl infoGeo ?_)
        | (go_at_call 16; (with_reducible refine (HM.out _).mono ?_); rintro e w2 ⟨rfl, b2⟩; have W2 := Lib.hid (W1.out.on b2); have X2 := Lib.hid (X1.out.below b2 X1.out.lt); have c0 := X2.out.cell 0 _ rfl; have c1 := X2.out.cell 1 _ rfl; clear b2))
      go_ret
      exact ⟨rfl, W2.out⟩
  · rw [if_neg (fun h => hm h.1)] at hR
    subst hR
    rw [Bool.eq_false_iff.2 hm] at HM
    clear hm
    go_enter Tryd.func14, Tryd.ntmps14
    go_wp2_with (first
      | (refine wpList_load_mid rfl 23 (.tmp 2) rfl w.heap.size 0 rfl [.int .i64 C, .int .i64 P] _ X1.out.range Tryd.underlying23 rfl infoGeo ?_)
      | (go_at_call 16; (with_reducible refine (HM.out _).mono ?_); rintro e w2 ⟨rfl, b2⟩; have W2 := Lib.hid (W1.out.on b2); have X2 := Lib.hid (X1.out.below b2 X1.out.lt); have c0 := X2.out.cell 0 _ rfl; have c1 := X2.out.cell 1 _ rfl; clear b2))
    go_ret
    exact ⟨rfl, W2.out⟩

set_option maxHeartbeats 400000 in
theorem sucap_any (C P : Int) (m : Int) (hmf : (Lit.int .i64 m).wf = true) (w : World) : Calls Tryd.prog 15 #[.agg #[.int .i64 C, .int .i64 P], .int .i64 m] w fun e w' => e = .returned (.int .i64 (cap C P m)) ∧ Below w.heap.size w w' := by
  obtain ⟨R, hR⟩ : ∃ R, R = cap C P m := ⟨_, rfl⟩
  rw [← hR]
  have X1 := Lib.hid (Blk.new w 23 [.int .i64 C, .int .i64 P] _ rfl)
  have W1 := Lib.hid ((Below.refl w.heap.size w).alloc (Nat.le_refl _) (.cells [Value.int .i64 C, .int .i64 P].toArray 23))
  have HM := Lib.hid (fun W => sumay_any C P W)
  have hmw : -9223372036854775808 ≤ m ∧ m ≤ 9223372036854775807 := by simpa [Lit.wf, IntKind.min, IntKind.max, IntKind.signed, IntKind.bits] using hmf
  clear hmf
  unfold cap at hR
  by_cases hm : may C P = true
  · rw [hm] at HM
    obtain ⟨_, _, h1, h2⟩ := may_iff.1 hm
    by_cases hk : 4096 ≤ m
    · rw [if_pos ⟨hm, hk⟩] at hR
      have HZ := Lib.hid (fun W => susize_any C P ⟨h1, h2⟩ W)
      obtain ⟨Q, hQ⟩ : ∃ Q, Q = P * 512 := ⟨_, rfl⟩
      have hq : 512 ≤ Q := by omega
      rw [← hQ] at HZ hR
      obtain ⟨D, hD⟩ : ∃ D, D = (m - 4096) / Q := ⟨_, rfl⟩
      rw [← hD] at hR
      have HR := Lib.hid hR
      have d0 : 0 ≤ D ∧ D ≤ m := by
        rw [hD]; exact ⟨Int.ediv_nonneg (by omega) (by omega), Int.le_trans (Int.ediv_le_self _ (by omega)) (by omega)⟩
      have hk' : ¬ m < 4096 := by omega
      have q0 : Q ≠ 0 := by omega
      have a1 : IntKind.i64.wrap (m - 4096) = m - 4096 := by rw [IntKind.wrap_i64]; omega
      have a2 : (m - 4096).tdiv Q = D := by rw [hD]; exact Int.tdiv_eq_ediv_of_nonneg (by omega)
      have a3 : IntKind.i64.wrap D = D := by rw [IntKind.wrap_i64]; omega
      clear hD hQ hR h1 h2 hm
      go_enter Tryd.func15, Tryd.ntmps15
      go_wp2_with (first
        | (refine wpList_load_mid rfl 23 (.tmp 2) rfl w.heap.size 0 rfl [.int .i64 C, .int .i64 P] _ X1.out.range Tryd.underlying23 rfl infoGeo ?_)
        | (go_at_call 16; (with_reducible refine (HM.out _).mono ?_); rintro e w2 ⟨rfl, b2⟩; have W2 := Lib.hid (W1.out.on b2); have X2 := Lib.hid (X1.out.below b2 X1.out.lt); have c0 := X2.out.cell 0 _ rfl; have c1 := X2.out.cell 1 _ rfl; clear b2)
        | (refine wpList_load_mid rfl 23 (.tmp 2) rfl w.heap.size 0 rfl [.int .i64 C, .int .i64 P] _ X2.out.range Tryd.underlying23 rfl infoGeo ?_)
        | (go_at_call 30; (with_reducible refine (HZ.out _).mono ?_); rintro e w3 ⟨rfl, b3⟩; have W3 := Lib.hid (W2.out.on b3); clear b3))
      all_goals
        go_ret
        first | exact ⟨by rw [HR.out, if_pos (by omega)]; rfl, W3.out⟩ | exact ⟨by rw [HR.out, if_neg (by omega)]; rfl, W3.out⟩
    · rw [if_neg (fun h => hk h.2)] at hR
      subst hR
      have hk' : m < 4096 := by omega
      clear h1 h2 hm
      go_enter Tryd.func15, Tryd.ntmps15
      go_wp2_with (first
        | (refine wpList_load_mid rfl 23 (.tmp 2) rfl w.heap.size 0 rfl [.int .i64 C, .int .i64 P] _ X1.out.range Tryd.underlying23 rfl infoGeo ?_)
        | (go_at_call 16; (with_reducible refine (HM.out _).mono ?_); rintro e w2 ⟨rfl, b2⟩; have W2 := Lib.hid (W1.out.on b2); have X2 := Lib.hid (X1.out.below b2 X1.out.lt); have c0 := X2.out.cell 0 _ rfl; have c1 := X2.out.cell 1 _ rfl; clear b2))
      go_ret
      exact ⟨rfl, W2.out⟩
  · rw [if_neg (fun h => hm h.1)] at hR
    subst hR
    rw [Bool.eq_false_iff.2 hm] at HM
    clear hm
    go_enter Tryd.func15, Tryd.ntmps15
    go_wp2_with (first
      | (refine wpList_load_mid rfl 23 (.tmp 2) rfl w.heap.size 0 rfl [.int .i64 C, .int .i64 P] _ X1.out.range Tryd.underlying23 rfl infoGeo ?_)
      | (go_at_call 16; (with_reducible refine (HM.out _).mono ?_); rintro e w2 ⟨rfl, b2⟩; have W2 := Lib.hid (W1.out.on b2); have X2 := Lib.hid (X1.out.below b2 X1.out.lt); have c0 := X2.out.cell 0 _ rfl; have c1 := X2.out.cell 1 _ rfl; clear b2))
    go_ret
    exact ⟨rfl, W2.out⟩

end Go.Proofs.YtflegnlldidmaaaDoor

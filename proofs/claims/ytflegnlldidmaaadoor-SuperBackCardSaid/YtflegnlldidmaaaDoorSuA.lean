/- Geometries on numbers; the small functions of package super and of the document's answer: contracts. Own work. -/
import Derived.Test.YtflegnlldidmaaaDoorMem
import Derived.Test.YtflegnlldidmaaaDoorReg
import Derived.Test.YtflegnlldidmaaaDoorSuEq
import Derived.Test.YtflegnlldidmaaaDoorFactsO
import Derived.BigQuiet
namespace Go.Proofs.YtflegnlldidmaaaDoor
open Go.ChangeShapes Go.WideShapes Go.ChangeAt Go.RowKit
namespace SU
/-- May a geometry be? -/
def may (C P : Int) : Bool := decide (1 ≤ C ∧ C ≤ 64 ∧ 1 ≤ P ∧ P ≤ 2)
theorem may_iff {C P : Int} : may C P = true ↔ (1 ≤ C ∧ C ≤ 64 ∧ 1 ≤ P ∧ P ≤ 2) := decide_eq_true_iff
/-- The nearest number from 1 to m. -/
def near (m C : Int) : Int := if C < 1 then 1 else if m < C then m else C
theorem near_may (C P : Int) : decide (C = near 64 C ∧ P = near 2 P) = may C P := by
  unfold may near
  congr 1
  apply propext
  constructor
  · rintro ⟨h1, h2⟩; split at h1 <;> split at h2 <;> (try split at h1) <;> (try split at h2) <;> omega
  · rintro ⟨h1, h2, h3, h4⟩; rw [if_neg (by omega), if_neg (by omega), if_neg (by omega), if_neg (by omega)]; exact ⟨rfl, rfl⟩
/-- Where the area i, the root i and the cluster n begin, and how many clusters there is room for. -/
def pair (a s i : Int) : Int := if i < 0 ∨ 2 ≤ i then -1 else (a + i * s) * 512
def place (C P : Int) (n : Nat) : Int := if may C P = true ∧ n ≤ 65535 then 4096 + n * (P * 512) else -1
def cap (C P most : Int) : Int := if may C P = true ∧ 4096 ≤ most then (if (most - 4096) / (P * 512) ≤ 65536 then (most - 4096) / (P * 512) else 65536) else 0
end SU
open SU
theorem near_lt {m C : Int} (h : C < 1) : near m C = 1 := if_pos h
theorem near_gt {m C : Int} (h0 : 1 ≤ C) (h : m < C) : near m C = m := by unfold near; rw [if_neg (by omega), if_pos h]
theorem near_in {m C : Int} (h0 : 1 ≤ C) (h : C ≤ m) : near m C = C := by unfold near; rw [if_neg (by omega), if_neg (by omega)]
set_option maxHeartbeats 400000 in
theorem sunear_any (C P : Int) (w : World) : Calls Tryd.prog 31 #[.agg #[.int .i64 C, .int .i64 P]] w fun e w' => e = .returned (.agg #[.int .i64 (near 64 C), .int .i64 (near 2 P)]) ∧ Below w.heap.size w w' := by
  go_enter Tryd.func31, Tryd.ntmps31
  go_wp2_with fail
  all_goals
    refine bodyPost_ret (results_mid rfl _ _ (w.heap.size + 1) [_, _] _ rfl (Blk.new _ _ _ _ (by simp)).range Tryd.underlying23 rfl infoGeo) rfl ?_
    refine ⟨?_, ((Below.refl _ _).alloc (Nat.le_refl _) _).alloc (by simp) _⟩
    first
      | rw [near_lt (by assumption), near_lt (by assumption)]
      | rw [near_lt (by assumption), near_gt (by assumption) (by assumption)]
      | rw [near_lt (by assumption), near_in (by assumption) (by assumption)]
      | rw [near_gt (by assumption) (by assumption), near_lt (by assumption)]
      | rw [near_gt (by assumption) (by assumption), near_gt (by assumption) (by assumption)]
      | rw [near_gt (by assumption) (by assumption), near_in (by assumption) (by assumption)]
      | rw [near_in (by assumption) (by assumption), near_lt (by assumption)]
      | rw [near_in (by assumption) (by assumption), near_gt (by assumption) (by assumption)]
      | rw [near_in (by assumption) (by assumption), near_in (by assumption) (by assumption)]
set_option maxHeartbeats 400000 in
theorem susize_any (C P : Int) (hP : 1 ≤ P ∧ P ≤ 2) (w : World) : Calls Tryd.prog 30 #[.agg #[.int .i64 C, .int .i64 P]] w fun e w' => e = .returned (.int .i64 (P * 512)) ∧ Below w.heap.size w w' := by
  have aw : IntKind.i64.wrap (P * 512) = P * 512 := by rw [IntKind.wrap_i64]; omega
  go_enter Tryd.func30, Tryd.ntmps30
  go_wp2_with fail
  go_ret
  exact ⟨rfl, (Below.refl _ _).alloc (Nat.le_refl _) _⟩
set_option maxHeartbeats 400000 in
theorem rsumay_any (C P : Int) (w : World) : Calls Tryd.prog 20 #[.agg #[.int .i64 C, .int .i64 P]] w fun e w' => e = .returned (.bool (may C P)) ∧ Below w.heap.size w w' := by
  obtain ⟨R, hR⟩ : ∃ R, R = may C P := ⟨_, rfl⟩
  rw [← hR]
  unfold may at hR
  by_cases h1 : 1 ≤ C
  · by_cases h2 : C ≤ 64
    · by_cases h3 : 1 ≤ P
      · by_cases h4 : P ≤ 2
        · rw [decide_eq_true ⟨h1, h2, h3, h4⟩] at hR
          subst hR
          go_enter Tryd.func20, Tryd.ntmps20
          go_wp2_with fail
          go_ret
          exact ⟨rfl, (Below.refl _ _).alloc (Nat.le_refl _) _⟩
        · rw [decide_eq_false (fun h => h4 h.2.2.2)] at hR
          subst hR
          go_enter Tryd.func20, Tryd.ntmps20
          go_wp2_with fail
          go_ret
          exact ⟨rfl, (Below.refl _ _).alloc (Nat.le_refl _) _⟩
      · rw [decide_eq_false (fun h => h3 h.2.2.1)] at hR
        subst hR
        go_enter Tryd.func20, Tryd.ntmps20
        go_wp2_with fail
        go_ret
        exact ⟨rfl, (Below.refl _ _).alloc (Nat.le_refl _) _⟩
    · rw [decide_eq_false (fun h => h2 h.2.1)] at hR
      subst hR
      go_enter Tryd.func20, Tryd.ntmps20
      go_wp2_with fail
      go_ret
      exact ⟨rfl, (Below.refl _ _).alloc (Nat.le_refl _) _⟩
  · rw [decide_eq_false (fun h => h1 h.1)] at hR
    subst hR
    go_enter Tryd.func20, Tryd.ntmps20
    go_wp2_with fail
    go_ret
    exact ⟨rfl, (Below.refl _ _).alloc (Nat.le_refl _) _⟩
set_option maxHeartbeats 400000 in
/-- Of two things of s sectors each, from the sector a on. -/
theorem supair_any (i a s : Int) (ha : 0 ≤ a ∧ a ≤ 100) (hs : 0 ≤ s ∧ s ≤ 100) (w : World) : Calls Tryd.prog 29 #[.int .i64 i, .int .i64 a, .int .i64 s] w fun e w' => e = .returned (.int .i64 (pair a s i)) ∧ Below w.heap.size w w' := by
  obtain ⟨R, hR⟩ : ∃ R, R = pair a s i := ⟨_, rfl⟩
  rw [← hR]
  unfold pair at hR
  by_cases h1 : i < 0
  · rw [if_pos (.inl h1)] at hR
    subst hR
    go_enter Tryd.func29, Tryd.ntmps29
    go_wp2_with fail
    go_ret
    exact ⟨rfl, Below.refl _ _⟩
  · by_cases h2 : 2 ≤ i
    · rw [if_pos (.inr h2)] at hR
      subst hR
      go_enter Tryd.func29, Tryd.ntmps29
      go_wp2_with fail
      go_ret
      exact ⟨rfl, Below.refl _ _⟩
    · rw [if_neg (by omega)] at hR
      have HR := Lib.hid hR
      have hi : i = 0 ∨ i = 1 := by omega
      have hm : 0 ≤ i * s ∧ i * s ≤ 100 := by rcases hi with rfl | rfl <;> omega
      obtain ⟨m, hm2⟩ : ∃ m, m = i * s := ⟨_, rfl⟩
      rw [← hm2] at hm
      have aw : IntKind.i64.wrap (i * s) = m := by rw [← hm2, IntKind.wrap_i64]; omega
      have aw2 : IntKind.i64.wrap (a + m) = a + m := by rw [IntKind.wrap_i64]; omega
      have aw3 : IntKind.i64.wrap ((a + m) * 512) = (a + m) * 512 := by rw [IntKind.wrap_i64]; omega
      have HM := Lib.hid hm2
      clear hm2 hR hi
      go_enter Tryd.func29, Tryd.ntmps29
      go_wp2_with fail
      go_ret
      exact ⟨by rw [HR.out, ← HM.out]; rfl, Below.refl _ _⟩
set_option maxHeartbeats 400000 in
theorem suarea_any (i : Int) (w : World) : Calls Tryd.prog 12 #[.int .i64 i] w fun e w' => e = .returned (.int .i64 (pair 1 2 i)) ∧ Below w.heap.size w w' := by
  have H := Lib.hid (supair_any i 1 2 (by decide) (by decide) w)
  go_enter Tryd.func12, Tryd.ntmps12
  go_wp2_with (go_at_call 29; (with_reducible refine H.out.mono ?_); rintro e w1 ⟨rfl, b1⟩; have B1 := Lib.hid b1; clear b1)
  go_ret
  exact ⟨rfl, B1.out⟩
set_option maxHeartbeats 400000 in
theorem suroot_any (i : Int) (w : World) : Calls Tryd.prog 13 #[.int .i64 i] w fun e w' => e = .returned (.int .i64 (pair 5 1 i)) ∧ Below w.heap.size w w' := by
  have H := Lib.hid (supair_any i 5 1 (by decide) (by decide) w)
  go_enter Tryd.func13, Tryd.ntmps13
  go_wp2_with (go_at_call 29; (with_reducible refine H.out.mono ?_); rintro e w1 ⟨rfl, b1⟩; have B1 := Lib.hid b1; clear b1)
  go_ret
  exact ⟨rfl, B1.out⟩
end Go.Proofs.YtflegnlldidmaaaDoor

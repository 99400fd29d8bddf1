/- What every right program takes of three: the law's awake. Own work. -/
import Derived.Test.YtlckhlcccifbfaaDoorAlRT
namespace Go.Proofs.YtlckhlcccifbfaaDoor
open Go.ChangeShapes Go.WideShapes Go.ChangeAt Go.RowKit
theorem take_at (b g T n : Nat) (u : Nat → Bool) (w : World) (h : Sets w b g T u) (hT : TabD w) (hl : AL.Low u n) (N E : Int) (hN : ((tnum T n : Nat) : Int) = N) (hE : ((terr T n : Nat) : Int) = E) : Calls Tryd.prog 15 #[.pointer (some ⟨b, 0, none⟩)] w fun e w' => e = .returned (.tuple #[.int .u32 N, .int .i64 E]) ∧ Sets w' b g T (AL.mark T u n) ∧ w.grownBy w' (some g) := by
  refine (atake_any b g T u w h hT).mono fun e w' ⟨m, hm, he, hs, hg⟩ => ?_
  obtain rfl : m = n := hm.one hl
  rw [hN, hE] at he
  exact ⟨he, hs, hg⟩
theorem mark_at (b g T n : Nat) (u : Nat → Bool) (w : World) (h : Sets w b g T u) (N E : Int) (hN : (n : Int) = N) (hE : ((AL.merr T u n : Nat) : Int) = E) : Calls Tryd.prog 16 #[.pointer (some ⟨b, 0, none⟩), .int .u32 N] w fun e w' => e = .returned (.int .i64 E) ∧ Sets w' b g T (AL.mark T u n) ∧ w.grownBy w' (some g) := by
  rw [← hE, ← hN]; exact amark_any b g T n u w h
theorem used_at (b g T : Nat) (u : Nat → Bool) (w : World) (h : Sets w b g T u) (N : Int) (hn : (((AL.lst T u).length : Nat) : Int) = N) : Calls Tryd.prog 19 #[.pointer (some ⟨b, 0, none⟩)] w fun e w' => e = .returned (.int .i64 N) ∧ w' = w := by
  rw [← hn]; exact aused_any b g T u w h
theorem free_at (b g T : Nat) (u : Nat → Bool) (w : World) (h : Sets w b g T u) (N : Int) (hn : (((T - (AL.lst T u).length : Nat) : Nat) : Int) = N) : Calls Tryd.prog 20 #[.pointer (some ⟨b, 0, none⟩)] w fun e w' => e = .returned (.int .i64 N) ∧ w' = w := by
  rw [← hn]; exact afree_any b g T u w h
/-- The three sets of awake. -/
def ua : Nat → Bool := fun _ => false
def ub : Nat → Bool := AL.mark 3 ua 0
def uc : Nat → Bool := AL.mark 3 ub 1
theorem low_a : AL.Low ua 0 := ⟨rfl, fun j hj => absurd hj (by omega)⟩
theorem low_b : AL.Low ub 1 := ⟨rfl, fun j hj => by
  have h0 : j = 0 := Nat.lt_one_iff.1 hj
  subst h0; rfl⟩
theorem uc_1 : AL.mark 3 uc 1 = uc := AL.mark_same 3 uc 1 (.inr rfl)
theorem uc_3 : AL.mark 3 uc 3 = uc := AL.mark_same 3 uc 3 (.inl (by omega))
set_option maxHeartbeats 1000000 in
theorem aawake_any (w : World) (hT : TabD w) : Calls Tryd.prog 9 #[] w fun e w' => e = .returned (.bool true) ∧ Below w.heap.size w w' := by
  have HT := Lib.hid hT
  clear hT
  go_enter Tryd.func9, Tryd.ntmps9
  go_wp2_with (first
    | (go_at_call 10; refine (anew_any 3 w).mono ?_; rintro e1 w1 ⟨b, g, rfl, qb, qg, s1, b1⟩; have QG := Lib.hid qg; have B1 := Lib.hid b1; have H2 := Lib.hid (take_at b g 3 0 ua w1 s1 (HT.out.below b1) low_a 0 0 rfl rfl); clear s1 b1 qb qg)
    | (go_at_call 15; (with_reducible refine H2.out.mono ?_); rintro e2 w2 ⟨rfl, s2, g2⟩; have B2 := Lib.hid (below_then B1.out g2 QG.out); have H3 := Lib.hid (take_at b g 3 1 ub w2 s2 (HT.out.below B2.out) low_b 1 0 rfl rfl); clear s2 g2)
    | (go_at_call 15; (with_reducible refine H3.out.mono ?_); rintro e3 w3 ⟨rfl, s3, g3⟩; have B3 := Lib.hid (below_then B2.out g3 QG.out); have H4 := Lib.hid (mark_at b g 3 1 uc w3 s3 1 23 rfl rfl); clear s3 g3)
    | (go_at_call 16; (with_reducible refine H4.out.mono ?_); rintro e4 w4 ⟨rfl, s4, g4⟩; rw [uc_1] at s4; have B4 := Lib.hid (below_then B3.out g4 QG.out); have H5 := Lib.hid (mark_at b g 3 3 uc w4 s4 3 43 rfl rfl); clear s4 g4)
    | (go_at_call 16; (with_reducible refine H5.out.mono ?_); rintro e5 w5 ⟨rfl, s5, g5⟩; rw [uc_3] at s5; have B5 := Lib.hid (below_then B4.out g5 QG.out); have H6 := Lib.hid (used_at b g 3 uc w5 s5 2 rfl); clear s5 g5)
    | (go_at_call 19; (with_reducible refine H6.out.mono ?_); rintro e6 w6 ⟨rfl, hw6⟩; subst w6))
  go_ret
  exact ⟨rfl, B5.out⟩
end Go.Proofs.YtlckhlcccifbfaaDoor

/- A step of the program's device: contracts. Written by gen_devstep.py. Own work. -/
import Derived.Test.YtipdcocliefppaaDevGA
namespace Go.Proofs.Ytipdcocliefppaa
open Go.ChangeShapes Go.WideShapes Go.ChangeAt Go.RowKit
open DM
/-- The device behind the count of a step. -/
def counted (S : DS) (dn : Bool) (af : Nat) : DS := { S with steps := S.steps + 1, down := dn, after := af }
/-- From w on the device has come to be as S says. -/
def Gone (w : World) (d : Nat) (sv fv lv : Value) (S : DS) (w' : World) : Prop := ∃ sv' fv' lv' t', Mem w' d S sv' fv' lv' t' ∧ Move w (Blks d sv fv lv) w' (Blks d sv' fv' lv')
theorem Gone.after {w w1 w2 : World} {d : Nat} {sv fv lv : Value} {S : DS} (h : Move w (Blks d sv fv lv) w1 (Blks d sv fv lv)) (k : Gone w1 d sv fv lv S w2) : Gone w d sv fv lv S w2 := by
  obtain ⟨sv', fv', lv', t', hm, hv⟩ := k
  exact ⟨sv', fv', lv', t', hm, h.trans hv⟩
set_option maxHeartbeats 1000000 in
theorem pstep_write_a (w : World) (d : Nat) (S S2 : DS) (sv fv lv : Value) (p1 p2 p3 : Nat) (h : Mem w d S sv fv lv false) (hd : S.down = false) (hs : S.steps < 9223372036854775807) (hS : S.after = 0) (h2 : S2.down = false)
    (H : ∀ w1, Mem w1 d (counted S false 0) sv fv lv false → Move w (fun k => k = d) w1 (fun k => k = d) → Calls Try.prog 44 #[.pointer (some ⟨p1, 0, none⟩), .pointer (some ⟨p2, 0, none⟩), .pointer (some ⟨p3, 0, none⟩)] w1 fun e w' => e = .returned (.tuple #[]) ∧ Gone w1 d sv fv lv S2 w') :
    Calls Try.prog 43 #[.pointer (some ⟨d, 0, none⟩), .func (.func 44) #[] #[.pointer (some ⟨p1, 0, none⟩), .pointer (some ⟨p2, 0, none⟩), .pointer (some ⟨p3, 0, none⟩)]] w fun e w' => e = .returned (.int .i64 0) ∧ Gone w d sv fv lv S2 w' := by
  have htl := h.tl hd
  have c4 := h.c4
  have c5 := h.c5
  have c6 := h.c6
  have c7 := h.c7
  have c8 := h.c8
  have f4 := h.blk.free 4
  have f5 := h.blk.free 5
  have f7 := h.blk.free 7
  rw [hd] at c5
  rw [hS] at c7
  obtain ⟨s, hsv⟩ : ∃ s, s = S.steps := ⟨_, rfl⟩
  rw [← hsv] at c4 hs
  have hw : IntKind.i64.wrap ((s : Int) + 1) = (s : Int) + 1 := by rw [IntKind.wrap_i64]; omega
  have m1 := h.field 4 (.int .i64 ((s : Int) + 1)) (S' := { S with steps := S.steps + 1 }) (t' := false) (by rw [hsv]; rfl) rfl rfl rfl (fun _ => htl)
  have m2 := m1.1.field 5 (.bool false) (S' := { S with steps := S.steps + 1, down := false }) (t' := false) rfl rfl rfl rfl (fun _ => htl)
  have HM := Lib.hid (show Mem _ d (counted S false 0) sv fv lv false from by have := m2.1; unfold counted; rw [← hS]; exact this)
  have HV := Lib.hid (m1.2.trans m2.2)
  have HT := Lib.hid (show Move w (fun k => k = d) ((w.setCell ⟨d, 4, none⟩ (.int .i64 ((s : Int) + 1))).setCell ⟨d, 5, none⟩ (.bool false)) (fun k => k = d) from ⟨Turn.of_grown (only_trans (grownBy_cell _ _ _ _) (grownBy_cell _ _ _ _)) rfl, fun _ h => .inl h⟩)
  have HC := Lib.hid (H _ HM.out HT.out)
  have H2 := Lib.hid h2
  clear H m1 m2 h hsv htl h2 hS
  go_enter Try.func43, Try.ntmps43
  go_wp2_with (first
    | (go_at_call 44; (with_reducible refine HC.out.mono ?_); rintro e w1 ⟨rfl, g1⟩; have G1 := Lib.hid g1; have HR := Lib.hid (show Calls Try.prog 42 #[.pointer (some ⟨d, 0, none⟩)] w1 fun e w' => e = .returned (.int .i64 0) ∧ w' = w1 from by obtain ⟨_, _, _, _, hm, _⟩ := g1; have hr := pdready_any _ _ _ _ _ _ _ hm; rw [H2.out] at hr; exact hr); clear g1)
    | (go_at_call 42; (with_reducible refine HR.out.mono ?_); rintro e w2 ⟨rfl, hq⟩; rw [hq]; clear hq w2))
  go_ret
  exact ⟨rfl, Gone.after HV.out G1.out⟩
set_option maxHeartbeats 1000000 in
theorem pstep_write_b (w : World) (d : Nat) (S S2 : DS) (sv fv lv : Value) (p1 p2 p3 : Nat) (h : Mem w d S sv fv lv true) (hd : S.down = false) (hs : S.steps < 9223372036854775807) (af : Nat) (hS : S.after = af + 1) (haf : af < 9223372036854775807) (h2 : S2.down = false)
    (H : ∀ w1, Mem w1 d (counted S false af) sv fv lv true → Move w (fun k => k = d) w1 (fun k => k = d) → Calls Try.prog 44 #[.pointer (some ⟨p1, 0, none⟩), .pointer (some ⟨p2, 0, none⟩), .pointer (some ⟨p3, 0, none⟩)] w1 fun e w' => e = .returned (.tuple #[]) ∧ Gone w1 d sv fv lv S2 w') :
    Calls Try.prog 43 #[.pointer (some ⟨d, 0, none⟩), .func (.func 44) #[] #[.pointer (some ⟨p1, 0, none⟩), .pointer (some ⟨p2, 0, none⟩), .pointer (some ⟨p3, 0, none⟩)]] w fun e w' => e = .returned (.int .i64 0) ∧ Gone w d sv fv lv S2 w' := by
  have htl := h.tl hd
  have c4 := h.c4
  have c5 := h.c5
  have c6 := h.c6
  have c7 := h.c7
  have c8 := h.c8
  have f4 := h.blk.free 4
  have f5 := h.blk.free 5
  have f7 := h.blk.free 7
  rw [hd] at c5
  rw [hS] at c7
  obtain ⟨s, hsv⟩ : ∃ s, s = S.steps := ⟨_, rfl⟩
  rw [← hsv] at c4 hs
  have hw : IntKind.i64.wrap ((s : Int) + 1) = (s : Int) + 1 := by rw [IntKind.wrap_i64]; omega
  have m1 := h.field 4 (.int .i64 ((s : Int) + 1)) (S' := { S with steps := S.steps + 1 }) (t' := true) (by rw [hsv]; rfl) rfl rfl rfl (fun _ => htl)
  obtain ⟨A, hA⟩ : ∃ A, A = af + 1 := ⟨_, rfl⟩
  have hA0 : ((A : Int) == 0) = false := by rw [beq_eq_false_iff_ne]; omega
  have m2 := m1.1.field 5 (.bool ((A : Int) == 0)) (S' := { S with steps := S.steps + 1, down := false }) (t' := true) (by rw [hA0]; rfl) rfl rfl rfl (fun _ => htl)
  rw [← hA] at c7
  have hA2 : (A : Int) - 1 = (af : Int) := by omega
  have m3 := m2.1.field 7 (.int .i64 ((A : Int) - 1)) (S' := counted S false af) (t' := true) (by rw [hA2]; rfl) rfl rfl rfl (fun _ => htl)
  have hw2 : IntKind.i64.wrap ((A : Int) - 1) = (A : Int) - 1 := by rw [IntKind.wrap_i64]; omega
  have hw4 : (0 : Int) < (A : Int) := by omega
  have hw5 : ¬ (A : Int) = 0 := by omega
  clear hA2 hA0
  have HM := Lib.hid m3.1
  have HV := Lib.hid (m1.2.trans (m2.2.trans m3.2))
  have HT := Lib.hid (show Move w (fun k => k = d) (((w.setCell ⟨d, 4, none⟩ (.int .i64 ((s : Int) + 1))).setCell ⟨d, 5, none⟩ (.bool ((A : Int) == 0))).setCell ⟨d, 7, none⟩ (.int .i64 ((A : Int) - 1))) (fun k => k = d) from ⟨Turn.of_grown (only_trans (only_trans (grownBy_cell _ _ _ _) (grownBy_cell _ _ _ _)) (grownBy_cell _ _ _ _)) rfl, fun _ h => .inl h⟩)
  have HC := Lib.hid (H _ HM.out HT.out)
  have H2 := Lib.hid h2
  clear H m1 m2 m3 hA h hsv htl h2 hS
  go_enter Try.func43, Try.ntmps43
  go_wp2_with (first
    | (go_at_call 44; (with_reducible refine HC.out.mono ?_); rintro e w1 ⟨rfl, g1⟩; have G1 := Lib.hid g1; have HR := Lib.hid (show Calls Try.prog 42 #[.pointer (some ⟨d, 0, none⟩)] w1 fun e w' => e = .returned (.int .i64 0) ∧ w' = w1 from by obtain ⟨_, _, _, _, hm, _⟩ := g1; have hr := pdready_any _ _ _ _ _ _ _ hm; rw [H2.out] at hr; exact hr); clear g1)
    | (go_at_call 42; (with_reducible refine HR.out.mono ?_); rintro e w2 ⟨rfl, hq⟩; rw [hq]; clear hq w2))
  go_ret
  exact ⟨rfl, Gone.after HV.out G1.out⟩
set_option maxHeartbeats 1000000 in
theorem pstep_write_c (w : World) (d : Nat) (S S2 : DS) (sv fv lv : Value) (p1 p2 p3 : Nat) (h : Mem w d S sv fv lv true) (hd : S.down = false) (hs : S.steps < 9223372036854775807) (hS : S.after = 0) (hD : S.done = true) (h2 : S2.down = true)
    (H : ∀ w1, Mem w1 d (counted S true 0) sv fv lv true → Move w (fun k => k = d) w1 (fun k => k = d) → Calls Try.prog 44 #[.pointer (some ⟨p1, 0, none⟩), .pointer (some ⟨p2, 0, none⟩), .pointer (some ⟨p3, 0, none⟩)] w1 fun e w' => e = .returned (.tuple #[]) ∧ Gone w1 d sv fv lv S2 w') :
    Calls Try.prog 43 #[.pointer (some ⟨d, 0, none⟩), .func (.func 44) #[] #[.pointer (some ⟨p1, 0, none⟩), .pointer (some ⟨p2, 0, none⟩), .pointer (some ⟨p3, 0, none⟩)]] w fun e w' => e = .returned (.int .i64 20) ∧ Gone w d sv fv lv S2 w' := by
  have htl := h.tl hd
  have c4 := h.c4
  have c5 := h.c5
  have c6 := h.c6
  have c7 := h.c7
  have c8 := h.c8
  have f4 := h.blk.free 4
  have f5 := h.blk.free 5
  have f7 := h.blk.free 7
  rw [hd] at c5
  rw [hS] at c7
  rw [hD] at c8
  obtain ⟨s, hsv⟩ : ∃ s, s = S.steps := ⟨_, rfl⟩
  rw [← hsv] at c4 hs
  have hw : IntKind.i64.wrap ((s : Int) + 1) = (s : Int) + 1 := by rw [IntKind.wrap_i64]; omega
  have m1 := h.field 4 (.int .i64 ((s : Int) + 1)) (S' := { S with steps := S.steps + 1 }) (t' := true) (by rw [hsv]; rfl) rfl rfl rfl (fun _ => htl)
  have m2 := m1.1.field 5 (.bool true) (S' := { S with steps := S.steps + 1, down := true }) (t' := true) rfl rfl rfl rfl (fun _ => htl)
  have HM := Lib.hid (show Mem _ d (counted S true 0) sv fv lv true from by have := m2.1; unfold counted; rw [← hS]; exact this)
  have HV := Lib.hid (m1.2.trans m2.2)
  have HT := Lib.hid (show Move w (fun k => k = d) ((w.setCell ⟨d, 4, none⟩ (.int .i64 ((s : Int) + 1))).setCell ⟨d, 5, none⟩ (.bool true)) (fun k => k = d) from ⟨Turn.of_grown (only_trans (grownBy_cell _ _ _ _) (grownBy_cell _ _ _ _)) rfl, fun _ h => .inl h⟩)
  have HC := Lib.hid (H _ HM.out HT.out)
  have H2 := Lib.hid h2
  clear H m1 m2 h hsv htl h2 hS hD
  go_enter Try.func43, Try.ntmps43
  go_wp2_with (first
    | (go_at_call 44; (with_reducible refine HC.out.mono ?_); rintro e w1 ⟨rfl, g1⟩; have G1 := Lib.hid g1; have HR := Lib.hid (show Calls Try.prog 42 #[.pointer (some ⟨d, 0, none⟩)] w1 fun e w' => e = .returned (.int .i64 20) ∧ w' = w1 from by obtain ⟨_, _, _, _, hm, _⟩ := g1; have hr := pdready_any _ _ _ _ _ _ _ hm; rw [H2.out] at hr; exact hr); clear g1)
    | (go_at_call 42; (with_reducible refine HR.out.mono ?_); rintro e w2 ⟨rfl, hq⟩; rw [hq]; clear hq w2))
  go_ret
  exact ⟨rfl, Gone.after HV.out G1.out⟩
set_option maxHeartbeats 1000000 in
theorem pstep_write_d (w : World) (d : Nat) (S : DS) (sv fv lv : Value) (p1 p2 p3 : Nat) (h : Mem w d S sv fv lv true) (hd : S.down = false) (hs : S.steps < 9223372036854775807) (hS : S.after = 0) (hD : S.done = false) :
    Calls Try.prog 43 #[.pointer (some ⟨d, 0, none⟩), .func (.func 44) #[] #[.pointer (some ⟨p1, 0, none⟩), .pointer (some ⟨p2, 0, none⟩), .pointer (some ⟨p3, 0, none⟩)]] w fun e w' => e = .returned (.int .i64 20) ∧ Gone w d sv fv lv (counted S true 0) w' := by
  have htl := h.tl hd
  have c4 := h.c4
  have c5 := h.c5
  have c6 := h.c6
  have c7 := h.c7
  have c8 := h.c8
  have f4 := h.blk.free 4
  have f5 := h.blk.free 5
  rw [hd] at c5
  rw [hS] at c7
  rw [hD] at c8
  obtain ⟨s, hsv⟩ : ∃ s, s = S.steps := ⟨_, rfl⟩
  rw [← hsv] at c4 hs
  have hw : IntKind.i64.wrap ((s : Int) + 1) = (s : Int) + 1 := by rw [IntKind.wrap_i64]; omega
  have m1 := h.field 4 (.int .i64 ((s : Int) + 1)) (S' := { S with steps := S.steps + 1 }) (t' := true) (by rw [hsv]; rfl) rfl rfl rfl (fun _ => htl)
  have m2 := m1.1.field 5 (.bool true) (S' := { S with steps := S.steps + 1, down := true }) (t' := true) rfl rfl rfl rfl (fun _ => htl)
  have HM := Lib.hid (show Mem _ d (counted S true 0) sv fv lv true from by have := m2.1; unfold counted; rw [← hS]; exact this)
  have HV := Lib.hid (m1.2.trans m2.2)
  have HR := Lib.hid (pdready_any _ _ _ _ _ _ _ HM.out)
  clear m1 m2 h hsv htl hS hD
  go_enter Try.func43, Try.ntmps43
  go_wp2_with (go_at_call 42; (with_reducible refine HR.out.mono ?_); rintro e w2 ⟨rfl, hq⟩; rw [hq]; clear hq w2)
  go_ret
  exact ⟨rfl, _, _, _, _, HM.out, HV.out⟩
set_option maxHeartbeats 1000000 in
theorem pstep_sync_a (w : World) (d : Nat) (S S2 : DS) (sv fv lv : Value) (h : Mem w d S sv fv lv false) (hd : S.down = false) (hs : S.steps < 9223372036854775807) (hS : S.after = 0) (h2 : S2.down = false)
    (H : ∀ w1, Mem w1 d (counted S false 0) sv fv lv false → Move w (fun k => k = d) w1 (fun k => k = d) → Calls Try.prog 46 #[.pointer (some ⟨d, 0, none⟩)] w1 fun e w' => e = .returned (.tuple #[]) ∧ Gone w1 d sv fv lv S2 w') :
    Calls Try.prog 43 #[.pointer (some ⟨d, 0, none⟩), .func (.func 46) #[.pointer (some ⟨d, 0, none⟩)] #[]] w fun e w' => e = .returned (.int .i64 0) ∧ Gone w d sv fv lv S2 w' := by
  have htl := h.tl hd
  have c4 := h.c4
  have c5 := h.c5
  have c6 := h.c6
  have c7 := h.c7
  have c8 := h.c8
  have f4 := h.blk.free 4
  have f5 := h.blk.free 5
  have f7 := h.blk.free 7
  rw [hd] at c5
  rw [hS] at c7
  obtain ⟨s, hsv⟩ : ∃ s, s = S.steps := ⟨_, rfl⟩
  rw [← hsv] at c4 hs
  have hw : IntKind.i64.wrap ((s : Int) + 1) = (s : Int) + 1 := by rw [IntKind.wrap_i64]; omega
  have m1 := h.field 4 (.int .i64 ((s : Int) + 1)) (S' := { S with steps := S.steps + 1 }) (t' := false) (by rw [hsv]; rfl) rfl rfl rfl (fun _ => htl)
  have m2 := m1.1.field 5 (.bool false) (S' := { S with steps := S.steps + 1, down := false }) (t' := false) rfl rfl rfl rfl (fun _ => htl)
  have HM := Lib.hid (show Mem _ d (counted S false 0) sv fv lv false from by have := m2.1; unfold counted; rw [← hS]; exact this)
  have HV := Lib.hid (m1.2.trans m2.2)
  have HT := Lib.hid (show Move w (fun k => k = d) ((w.setCell ⟨d, 4, none⟩ (.int .i64 ((s : Int) + 1))).setCell ⟨d, 5, none⟩ (.bool false)) (fun k => k = d) from ⟨Turn.of_grown (only_trans (grownBy_cell _ _ _ _) (grownBy_cell _ _ _ _)) rfl, fun _ h => .inl h⟩)
  have HC := Lib.hid (H _ HM.out HT.out)
  have H2 := Lib.hid h2
  clear H m1 m2 h hsv htl h2 hS
  go_enter Try.func43, Try.ntmps43
  go_wp2_with (first
    | (go_at_call 46; (with_reducible refine HC.out.mono ?_); rintro e w1 ⟨rfl, g1⟩; have G1 := Lib.hid g1; have HR := Lib.hid (show Calls Try.prog 42 #[.pointer (some ⟨d, 0, none⟩)] w1 fun e w' => e = .returned (.int .i64 0) ∧ w' = w1 from by obtain ⟨_, _, _, _, hm, _⟩ := g1; have hr := pdready_any _ _ _ _ _ _ _ hm; rw [H2.out] at hr; exact hr); clear g1)
    | (go_at_call 42; (with_reducible refine HR.out.mono ?_); rintro e w2 ⟨rfl, hq⟩; rw [hq]; clear hq w2))
  go_ret
  exact ⟨rfl, Gone.after HV.out G1.out⟩
set_option maxHeartbeats 1000000 in
theorem pstep_sync_b (w : World) (d : Nat) (S S2 : DS) (sv fv lv : Value) (h : Mem w d S sv fv lv true) (hd : S.down = false) (hs : S.steps < 9223372036854775807) (af : Nat) (hS : S.after = af + 1) (haf : af < 9223372036854775807) (h2 : S2.down = false)
    (H : ∀ w1, Mem w1 d (counted S false af) sv fv lv true → Move w (fun k => k = d) w1 (fun k => k = d) → Calls Try.prog 46 #[.pointer (some ⟨d, 0, none⟩)] w1 fun e w' => e = .returned (.tuple #[]) ∧ Gone w1 d sv fv lv S2 w') :
    Calls Try.prog 43 #[.pointer (some ⟨d, 0, none⟩), .func (.func 46) #[.pointer (some ⟨d, 0, none⟩)] #[]] w fun e w' => e = .returned (.int .i64 0) ∧ Gone w d sv fv lv S2 w' := by
  have htl := h.tl hd
  have c4 := h.c4
  have c5 := h.c5
  have c6 := h.c6
  have c7 := h.c7
  have c8 := h.c8
  have f4 := h.blk.free 4
  have f5 := h.blk.free 5
  have f7 := h.blk.free 7
  rw [hd] at c5
  rw [hS] at c7
  obtain ⟨s, hsv⟩ : ∃ s, s = S.steps := ⟨_, rfl⟩
  rw [← hsv] at c4 hs
  have hw : IntKind.i64.wrap ((s : Int) + 1) = (s : Int) + 1 := by rw [IntKind.wrap_i64]; omega
  have m1 := h.field 4 (.int .i64 ((s : Int) + 1)) (S' := { S with steps := S.steps + 1 }) (t' := true) (by rw [hsv]; rfl) rfl rfl rfl (fun _ => htl)
  obtain ⟨A, hA⟩ : ∃ A, A = af + 1 := ⟨_, rfl⟩
  have hA0 : ((A : Int) == 0) = false := by rw [beq_eq_false_iff_ne]; omega
  have m2 := m1.1.field 5 (.bool ((A : Int) == 0)) (S' := { S with steps := S.steps + 1, down := false }) (t' := true) (by rw [hA0]; rfl) rfl rfl rfl (fun _ => htl)
  rw [← hA] at c7
  have hA2 : (A : Int) - 1 = (af : Int) := by omega
  have m3 := m2.1.field 7 (.int .i64 ((A : Int) - 1)) (S' := counted S false af) (t' := true) (by rw [hA2]; rfl) rfl rfl rfl (fun _ => htl)
  have hw2 : IntKind.i64.wrap ((A : Int) - 1) = (A : Int) - 1 := by rw [IntKind.wrap_i64]; omega
  have hw4 : (0 : Int) < (A : Int) := by omega
  have hw5 : ¬ (A : Int) = 0 := by omega
  clear hA2 hA0
  have HM := Lib.hid m3.1
  have HV := Lib.hid (m1.2.trans (m2.2.trans m3.2))
  have HT := Lib.hid (show Move w (fun k => k = d) (((w.setCell ⟨d, 4, none⟩ (.int .i64 ((s : Int) + 1))).setCell ⟨d, 5, none⟩ (.bool ((A : Int) == 0))).setCell ⟨d, 7, none⟩ (.int .i64 ((A : Int) - 1))) (fun k => k = d) from ⟨Turn.of_grown (only_trans (only_trans (grownBy_cell _ _ _ _) (grownBy_cell _ _ _ _)) (grownBy_cell _ _ _ _)) rfl, fun _ h => .inl h⟩)
  have HC := Lib.hid (H _ HM.out HT.out)
  have H2 := Lib.hid h2
  clear H m1 m2 m3 hA h hsv htl h2 hS
  go_enter Try.func43, Try.ntmps43
  go_wp2_with (first
    | (go_at_call 46; (with_reducible refine HC.out.mono ?_); rintro e w1 ⟨rfl, g1⟩; have G1 := Lib.hid g1; have HR := Lib.hid (show Calls Try.prog 42 #[.pointer (some ⟨d, 0, none⟩)] w1 fun e w' => e = .returned (.int .i64 0) ∧ w' = w1 from by obtain ⟨_, _, _, _, hm, _⟩ := g1; have hr := pdready_any _ _ _ _ _ _ _ hm; rw [H2.out] at hr; exact hr); clear g1)
    | (go_at_call 42; (with_reducible refine HR.out.mono ?_); rintro e w2 ⟨rfl, hq⟩; rw [hq]; clear hq w2))
  go_ret
  exact ⟨rfl, Gone.after HV.out G1.out⟩
set_option maxHeartbeats 1000000 in
theorem pstep_sync_c (w : World) (d : Nat) (S S2 : DS) (sv fv lv : Value) (h : Mem w d S sv fv lv true) (hd : S.down = false) (hs : S.steps < 9223372036854775807) (hS : S.after = 0) (hD : S.done = true) (h2 : S2.down = true)
    (H : ∀ w1, Mem w1 d (counted S true 0) sv fv lv true → Move w (fun k => k = d) w1 (fun k => k = d) → Calls Try.prog 46 #[.pointer (some ⟨d, 0, none⟩)] w1 fun e w' => e = .returned (.tuple #[]) ∧ Gone w1 d sv fv lv S2 w') :
    Calls Try.prog 43 #[.pointer (some ⟨d, 0, none⟩), .func (.func 46) #[.pointer (some ⟨d, 0, none⟩)] #[]] w fun e w' => e = .returned (.int .i64 20) ∧ Gone w d sv fv lv S2 w' := by
  have htl := h.tl hd
  have c4 := h.c4
  have c5 := h.c5
  have c6 := h.c6
  have c7 := h.c7
  have c8 := h.c8
  have f4 := h.blk.free 4
  have f5 := h.blk.free 5
  have f7 := h.blk.free 7
  rw [hd] at c5
  rw [hS] at c7
  rw [hD] at c8
  obtain ⟨s, hsv⟩ : ∃ s, s = S.steps := ⟨_, rfl⟩
  rw [← hsv] at c4 hs
  have hw : IntKind.i64.wrap ((s : Int) + 1) = (s : Int) + 1 := by rw [IntKind.wrap_i64]; omega
  have m1 := h.field 4 (.int .i64 ((s : Int) + 1)) (S' := { S with steps := S.steps + 1 }) (t' := true) (by rw [hsv]; rfl) rfl rfl rfl (fun _ => htl)
  have m2 := m1.1.field 5 (.bool true) (S' := { S with steps := S.steps + 1, down := true }) (t' := true) rfl rfl rfl rfl (fun _ => htl)
  have HM := Lib.hid (show Mem _ d (counted S true 0) sv fv lv true from by have := m2.1; unfold counted; rw [← hS]; exact this)
  have HV := Lib.hid (m1.2.trans m2.2)
  have HT := Lib.hid (show Move w (fun k => k = d) ((w.setCell ⟨d, 4, none⟩ (.int .i64 ((s : Int) + 1))).setCell ⟨d, 5, none⟩ (.bool true)) (fun k => k = d) from ⟨Turn.of_grown (only_trans (grownBy_cell _ _ _ _) (grownBy_cell _ _ _ _)) rfl, fun _ h => .inl h⟩)
  have HC := Lib.hid (H _ HM.out HT.out)
  have H2 := Lib.hid h2
  clear H m1 m2 h hsv htl h2 hS hD
  go_enter Try.func43, Try.ntmps43
  go_wp2_with (first
    | (go_at_call 46; (with_reducible refine HC.out.mono ?_); rintro e w1 ⟨rfl, g1⟩; have G1 := Lib.hid g1; have HR := Lib.hid (show Calls Try.prog 42 #[.pointer (some ⟨d, 0, none⟩)] w1 fun e w' => e = .returned (.int .i64 20) ∧ w' = w1 from by obtain ⟨_, _, _, _, hm, _⟩ := g1; have hr := pdready_any _ _ _ _ _ _ _ hm; rw [H2.out] at hr; exact hr); clear g1)
    | (go_at_call 42; (with_reducible refine HR.out.mono ?_); rintro e w2 ⟨rfl, hq⟩; rw [hq]; clear hq w2))
  go_ret
  exact ⟨rfl, Gone.after HV.out G1.out⟩
set_option maxHeartbeats 1000000 in
theorem pstep_sync_d (w : World) (d : Nat) (S : DS) (sv fv lv : Value) (h : Mem w d S sv fv lv true) (hd : S.down = false) (hs : S.steps < 9223372036854775807) (hS : S.after = 0) (hD : S.done = false) :
    Calls Try.prog 43 #[.pointer (some ⟨d, 0, none⟩), .func (.func 46) #[.pointer (some ⟨d, 0, none⟩)] #[]] w fun e w' => e = .returned (.int .i64 20) ∧ Gone w d sv fv lv (counted S true 0) w' := by
  have htl := h.tl hd
  have c4 := h.c4
  have c5 := h.c5
  have c6 := h.c6
  have c7 := h.c7
  have c8 := h.c8
  have f4 := h.blk.free 4
  have f5 := h.blk.free 5
  rw [hd] at c5
  rw [hS] at c7
  rw [hD] at c8
  obtain ⟨s, hsv⟩ : ∃ s, s = S.steps := ⟨_, rfl⟩
  rw [← hsv] at c4 hs
  have hw : IntKind.i64.wrap ((s : Int) + 1) = (s : Int) + 1 := by rw [IntKind.wrap_i64]; omega
  have m1 := h.field 4 (.int .i64 ((s : Int) + 1)) (S' := { S with steps := S.steps + 1 }) (t' := true) (by rw [hsv]; rfl) rfl rfl rfl (fun _ => htl)
  have m2 := m1.1.field 5 (.bool true) (S' := { S with steps := S.steps + 1, down := true }) (t' := true) rfl rfl rfl rfl (fun _ => htl)
  have HM := Lib.hid (show Mem _ d (counted S true 0) sv fv lv true from by have := m2.1; unfold counted; rw [← hS]; exact this)
  have HV := Lib.hid (m1.2.trans m2.2)
  have HR := Lib.hid (pdready_any _ _ _ _ _ _ _ HM.out)
  clear m1 m2 h hsv htl hS hD
  go_enter Try.func43, Try.ntmps43
  go_wp2_with (go_at_call 42; (with_reducible refine HR.out.mono ?_); rintro e w2 ⟨rfl, hq⟩; rw [hq]; clear hq w2)
  go_ret
  exact ⟨rfl, _, _, _, _, HM.out, HV.out⟩
set_option maxHeartbeats 1000000 in
theorem pstep_beat_a (w : World) (d : Nat) (S S2 : DS) (sv fv lv : Value) (h : Mem w d S sv fv lv false) (hd : S.down = false) (hs : S.steps < 9223372036854775807) (hS : S.after = 0) (h2 : S2.down = false)
    (H : ∀ w1, Mem w1 d (counted S false 0) sv fv lv false → Move w (fun k => k = d) w1 (fun k => k = d) → Calls Try.prog 47 #[] w1 fun e w' => e = .returned (.tuple #[]) ∧ Gone w1 d sv fv lv S2 w') :
    Calls Try.prog 43 #[.pointer (some ⟨d, 0, none⟩), .func (.func 47) #[] #[]] w fun e w' => e = .returned (.int .i64 0) ∧ Gone w d sv fv lv S2 w' := by
  have htl := h.tl hd
  have c4 := h.c4
  have c5 := h.c5
  have c6 := h.c6
  have c7 := h.c7
  have c8 := h.c8
  have f4 := h.blk.free 4
  have f5 := h.blk.free 5
  have f7 := h.blk.free 7
  rw [hd] at c5
  rw [hS] at c7
  obtain ⟨s, hsv⟩ : ∃ s, s = S.steps := ⟨_, rfl⟩
  rw [← hsv] at c4 hs
  have hw : IntKind.i64.wrap ((s : Int) + 1) = (s : Int) + 1 := by rw [IntKind.wrap_i64]; omega
  have m1 := h.field 4 (.int .i64 ((s : Int) + 1)) (S' := { S with steps := S.steps + 1 }) (t' := false) (by rw [hsv]; rfl) rfl rfl rfl (fun _ => htl)
  have m2 := m1.1.field 5 (.bool false) (S' := { S with steps := S.steps + 1, down := false }) (t' := false) rfl rfl rfl rfl (fun _ => htl)
  have HM := Lib.hid (show Mem _ d (counted S false 0) sv fv lv false from by have := m2.1; unfold counted; rw [← hS]; exact this)
  have HV := Lib.hid (m1.2.trans m2.2)
  have HT := Lib.hid (show Move w (fun k => k = d) ((w.setCell ⟨d, 4, none⟩ (.int .i64 ((s : Int) + 1))).setCell ⟨d, 5, none⟩ (.bool false)) (fun k => k = d) from ⟨Turn.of_grown (only_trans (grownBy_cell _ _ _ _) (grownBy_cell _ _ _ _)) rfl, fun _ h => .inl h⟩)
  have HC := Lib.hid (H _ HM.out HT.out)
  have H2 := Lib.hid h2
  clear H m1 m2 h hsv htl h2 hS
  go_enter Try.func43, Try.ntmps43
  go_wp2_with (first
    | (go_at_call 47; (with_reducible refine HC.out.mono ?_); rintro e w1 ⟨rfl, g1⟩; have G1 := Lib.hid g1; have HR := Lib.hid (show Calls Try.prog 42 #[.pointer (some ⟨d, 0, none⟩)] w1 fun e w' => e = .returned (.int .i64 0) ∧ w' = w1 from by obtain ⟨_, _, _, _, hm, _⟩ := g1; have hr := pdready_any _ _ _ _ _ _ _ hm; rw [H2.out] at hr; exact hr); clear g1)
    | (go_at_call 42; (with_reducible refine HR.out.mono ?_); rintro e w2 ⟨rfl, hq⟩; rw [hq]; clear hq w2))
  go_ret
  exact ⟨rfl, Gone.after HV.out G1.out⟩
set_option maxHeartbeats 1000000 in
theorem pstep_beat_b (w : World) (d : Nat) (S S2 : DS) (sv fv lv : Value) (h : Mem w d S sv fv lv true) (hd : S.down = false) (hs : S.steps < 9223372036854775807) (af : Nat) (hS : S.after = af + 1) (haf : af < 9223372036854775807) (h2 : S2.down = false)
    (H : ∀ w1, Mem w1 d (counted S false af) sv fv lv true → Move w (fun k => k = d) w1 (fun k => k = d) → Calls Try.prog 47 #[] w1 fun e w' => e = .returned (.tuple #[]) ∧ Gone w1 d sv fv lv S2 w') :
    Calls Try.prog 43 #[.pointer (some ⟨d, 0, none⟩), .func (.func 47) #[] #[]] w fun e w' => e = .returned (.int .i64 0) ∧ Gone w d sv fv lv S2 w' := by
  have htl := h.tl hd
  have c4 := h.c4
  have c5 := h.c5
  have c6 := h.c6
  have c7 := h.c7
  have c8 := h.c8
  have f4 := h.blk.free 4
  have f5 := h.blk.free 5
  have f7 := h.blk.free 7
  rw [hd] at c5
  rw [hS] at c7
  obtain ⟨s, hsv⟩ : ∃ s, s = S.steps := ⟨_, rfl⟩
  rw [← hsv] at c4 hs
  have hw : IntKind.i64.wrap ((s : Int) + 1) = (s : Int) + 1 := by rw [IntKind.wrap_i64]; omega
  have m1 := h.field 4 (.int .i64 ((s : Int) + 1)) (S' := { S with steps := S.steps + 1 }) (t' := true) (by rw [hsv]; rfl) rfl rfl rfl (fun _ => htl)
  obtain ⟨A, hA⟩ : ∃ A, A = af + 1 := ⟨_, rfl⟩
  have hA0 : ((A : Int) == 0) = false := by rw [beq_eq_false_iff_ne]; omega
  have m2 := m1.1.field 5 (.bool ((A : Int) == 0)) (S' := { S with steps := S.steps + 1, down := false }) (t' := true) (by rw [hA0]; rfl) rfl rfl rfl (fun _ => htl)
  rw [← hA] at c7
  have hA2 : (A : Int) - 1 = (af : Int) := by omega
  have m3 := m2.1.field 7 (.int .i64 ((A : Int) - 1)) (S' := counted S false af) (t' := true) (by rw [hA2]; rfl) rfl rfl rfl (fun _ => htl)
  have hw2 : IntKind.i64.wrap ((A : Int) - 1) = (A : Int) - 1 := by rw [IntKind.wrap_i64]; omega
  have hw4 : (0 : Int) < (A : Int) := by omega
  have hw5 : ¬ (A : Int) = 0 := by omega
  clear hA2 hA0
  have HM := Lib.hid m3.1
  have HV := Lib.hid (m1.2.trans (m2.2.trans m3.2))
  have HT := Lib.hid (show Move w (fun k => k = d) (((w.setCell ⟨d, 4, none⟩ (.int .i64 ((s : Int) + 1))).setCell ⟨d, 5, none⟩ (.bool ((A : Int) == 0))).setCell ⟨d, 7, none⟩ (.int .i64 ((A : Int) - 1))) (fun k => k = d) from ⟨Turn.of_grown (only_trans (only_trans (grownBy_cell _ _ _ _) (grownBy_cell _ _ _ _)) (grownBy_cell _ _ _ _)) rfl, fun _ h => .inl h⟩)
  have HC := Lib.hid (H _ HM.out HT.out)
  have H2 := Lib.hid h2
  clear H m1 m2 m3 hA h hsv htl h2 hS
  go_enter Try.func43, Try.ntmps43
  go_wp2_with (first
    | (go_at_call 47; (with_reducible refine HC.out.mono ?_); rintro e w1 ⟨rfl, g1⟩; have G1 := Lib.hid g1; have HR := Lib.hid (show Calls Try.prog 42 #[.pointer (some ⟨d, 0, none⟩)] w1 fun e w' => e = .returned (.int .i64 0) ∧ w' = w1 from by obtain ⟨_, _, _, _, hm, _⟩ := g1; have hr := pdready_any _ _ _ _ _ _ _ hm; rw [H2.out] at hr; exact hr); clear g1)
    | (go_at_call 42; (with_reducible refine HR.out.mono ?_); rintro e w2 ⟨rfl, hq⟩; rw [hq]; clear hq w2))
  go_ret
  exact ⟨rfl, Gone.after HV.out G1.out⟩
set_option maxHeartbeats 1000000 in
theorem pstep_beat_c (w : World) (d : Nat) (S S2 : DS) (sv fv lv : Value) (h : Mem w d S sv fv lv true) (hd : S.down = false) (hs : S.steps < 9223372036854775807) (hS : S.after = 0) (hD : S.done = true) (h2 : S2.down = true)
    (H : ∀ w1, Mem w1 d (counted S true 0) sv fv lv true → Move w (fun k => k = d) w1 (fun k => k = d) → Calls Try.prog 47 #[] w1 fun e w' => e = .returned (.tuple #[]) ∧ Gone w1 d sv fv lv S2 w') :
    Calls Try.prog 43 #[.pointer (some ⟨d, 0, none⟩), .func (.func 47) #[] #[]] w fun e w' => e = .returned (.int .i64 20) ∧ Gone w d sv fv lv S2 w' := by
  have htl := h.tl hd
  have c4 := h.c4
  have c5 := h.c5
  have c6 := h.c6
  have c7 := h.c7
  have c8 := h.c8
  have f4 := h.blk.free 4
  have f5 := h.blk.free 5
  have f7 := h.blk.free 7
  rw [hd] at c5
  rw [hS] at c7
  rw [hD] at c8
  obtain ⟨s, hsv⟩ : ∃ s, s = S.steps := ⟨_, rfl⟩
  rw [← hsv] at c4 hs
  have hw : IntKind.i64.wrap ((s : Int) + 1) = (s : Int) + 1 := by rw [IntKind.wrap_i64]; omega
  have m1 := h.field 4 (.int .i64 ((s : Int) + 1)) (S' := { S with steps := S.steps + 1 }) (t' := true) (by rw [hsv]; rfl) rfl rfl rfl (fun _ => htl)
  have m2 := m1.1.field 5 (.bool true) (S' := { S with steps := S.steps + 1, down := true }) (t' := true) rfl rfl rfl rfl (fun _ => htl)
  have HM := Lib.hid (show Mem _ d (counted S true 0) sv fv lv true from by have := m2.1; unfold counted; rw [← hS]; exact this)
  have HV := Lib.hid (m1.2.trans m2.2)
  have HT := Lib.hid (show Move w (fun k => k = d) ((w.setCell ⟨d, 4, none⟩ (.int .i64 ((s : Int) + 1))).setCell ⟨d, 5, none⟩ (.bool true)) (fun k => k = d) from ⟨Turn.of_grown (only_trans (grownBy_cell _ _ _ _) (grownBy_cell _ _ _ _)) rfl, fun _ h => .inl h⟩)
  have HC := Lib.hid (H _ HM.out HT.out)
  have H2 := Lib.hid h2
  clear H m1 m2 h hsv htl h2 hS hD
  go_enter Try.func43, Try.ntmps43
  go_wp2_with (first
    | (go_at_call 47; (with_reducible refine HC.out.mono ?_); rintro e w1 ⟨rfl, g1⟩; have G1 := Lib.hid g1; have HR := Lib.hid (show Calls Try.prog 42 #[.pointer (some ⟨d, 0, none⟩)] w1 fun e w' => e = .returned (.int .i64 20) ∧ w' = w1 from by obtain ⟨_, _, _, _, hm, _⟩ := g1; have hr := pdready_any _ _ _ _ _ _ _ hm; rw [H2.out] at hr; exact hr); clear g1)
    | (go_at_call 42; (with_reducible refine HR.out.mono ?_); rintro e w2 ⟨rfl, hq⟩; rw [hq]; clear hq w2))
  go_ret
  exact ⟨rfl, Gone.after HV.out G1.out⟩
set_option maxHeartbeats 1000000 in
theorem pstep_beat_d (w : World) (d : Nat) (S : DS) (sv fv lv : Value) (h : Mem w d S sv fv lv true) (hd : S.down = false) (hs : S.steps < 9223372036854775807) (hS : S.after = 0) (hD : S.done = false) :
    Calls Try.prog 43 #[.pointer (some ⟨d, 0, none⟩), .func (.func 47) #[] #[]] w fun e w' => e = .returned (.int .i64 20) ∧ Gone w d sv fv lv (counted S true 0) w' := by
  have htl := h.tl hd
  have c4 := h.c4
  have c5 := h.c5
  have c6 := h.c6
  have c7 := h.c7
  have c8 := h.c8
  have f4 := h.blk.free 4
  have f5 := h.blk.free 5
  rw [hd] at c5
  rw [hS] at c7
  rw [hD] at c8
  obtain ⟨s, hsv⟩ : ∃ s, s = S.steps := ⟨_, rfl⟩
  rw [← hsv] at c4 hs
  have hw : IntKind.i64.wrap ((s : Int) + 1) = (s : Int) + 1 := by rw [IntKind.wrap_i64]; omega
  have m1 := h.field 4 (.int .i64 ((s : Int) + 1)) (S' := { S with steps := S.steps + 1 }) (t' := true) (by rw [hsv]; rfl) rfl rfl rfl (fun _ => htl)
  have m2 := m1.1.field 5 (.bool true) (S' := { S with steps := S.steps + 1, down := true }) (t' := true) rfl rfl rfl rfl (fun _ => htl)
  have HM := Lib.hid (show Mem _ d (counted S true 0) sv fv lv true from by have := m2.1; unfold counted; rw [← hS]; exact this)
  have HV := Lib.hid (m1.2.trans m2.2)
  have HR := Lib.hid (pdready_any _ _ _ _ _ _ _ HM.out)
  clear m1 m2 h hsv htl hS hD
  go_enter Try.func43, Try.ntmps43
  go_wp2_with (go_at_call 42; (with_reducible refine HR.out.mono ?_); rintro e w2 ⟨rfl, hq⟩; rw [hq]; clear hq w2)
  go_ret
  exact ⟨rfl, _, _, _, _, HM.out, HV.out⟩
end Go.Proofs.Ytipdcocliefppaa

/- Texts of 6 subjects in one file: DevPC, DevGB, DevGC, Rng, CopyZ, DevGD. Own work. -/
import Derived.Test.YtjalknpeecgllaaGreatDoorMt7
import Derived.Test.YtjalknpeecgllaaGreatDoorMt2
import Derived.Test.YtjalknpeecgllaaGreatDoorMt1
import Derived.OrdersIn
import Derived.RangeFuncNested
import Derived.Test.YtjalknpeecgllaaGreatDoorMt0
import Derived.RangeFuncBound
import Derived.RangeFuncLeaves
import Derived.Shelf.Abstract
import Derived.Shelf.RegionOpen
import Derived.OwnWalkIn
import Derived.TacticsInMore
import Derived.LoopNIn
import Derived.LoopIn
section
namespace Go.Proofs.YtjalknpeecgllaaGreatDoor
open Go.ChangeShapes Go.WideShapes Go.ChangeAt Go.RowKit
open DM
def counted (S : DS) (dn : Bool) (af : Nat) : DS := { S with steps := S.steps + 1, down := dn, after := af }
def Gone (w : World) (d : Nat) (sv fv lv : Value) (S : DS) (w' : World) : Prop := ∃ sv' fv' lv' t', Mem w' d S sv' fv' lv' t' /\ Move w (Blks d sv fv lv) w' (Blks d sv' fv' lv')
theorem Gone.after {w w1 w2 : World} {d : Nat} {sv fv lv : Value} {S : DS} (h : Move w (Blks d sv fv lv) w1 (Blks d sv fv lv)) (k : Gone w1 d sv fv lv S w2) : Gone w d sv fv lv S w2 := by
  obtain ⟨sv', fv', lv', t', hm, hv⟩ := k
  exact ⟨sv', fv', lv', t', hm, h.trans hv⟩
set_option maxHeartbeats 1000000 in
theorem pstep_write_a (w : World) (d : Nat) (S S2 : DS) (sv fv lv : Value) (p1 p2 p3 : Nat) (h : Mem w d S sv fv lv false) (hd : S.down = false) (hs : S.steps < 9223372036854775807) (hS : S.after = 0) (h2 : S2.down = false)
    (H : ∀ w1, Mem w1 d (counted S false 0) sv fv lv false -> Move w (fun k => k = d) w1 (fun k => k = d) -> Calls Tryz.prog 128 #[.pointer (some ⟨p1, 0, none⟩), .pointer (some ⟨p2, 0, none⟩), .pointer (some ⟨p3, 0, none⟩)] w1 fun e w' => e = .returned (.tuple #[]) /\ Gone w1 d sv fv lv S2 w') :
    Calls Tryz.prog 68 #[.pointer (some ⟨d, 0, none⟩), .func (.func 128) #[] #[.pointer (some ⟨p1, 0, none⟩), .pointer (some ⟨p2, 0, none⟩), .pointer (some ⟨p3, 0, none⟩)]] w fun e w' => e = .returned (.int .i64 0) /\ Gone w d sv fv lv S2 w' := by
  have htl := h.tl hd
  have c4 := h.c4
  have c5 := h.c5
  have c6 := h.c6
  have c7 := h.c7
  have c8 := h.c8
  have f4 := h.blk.free 4
  have f5 := h.blk.free 5
  have f7 := h.blk.free 7
  rw [hd] at c5
  rw [hS] at c7
  obtain ⟨s, hsv⟩ : ∃ s, s = S.steps := ⟨_, rfl⟩
  rw [<- hsv] at c4 hs
  have hw : IntKind.i64.wrap ((s : Int) + 1) = (s : Int) + 1 := by rw [IntKind.wrap_i64]; omega
  have m1 := h.field 4 (.int .i64 ((s : Int) + 1)) (S' := { S with steps := S.steps + 1 }) (t' := false) (by rw [hsv]; rfl) rfl rfl rfl (fun _ => htl)
  have m2 := m1.1.field 5 (.bool false) (S' := { S with steps := S.steps + 1, down := false }) (t' := false) rfl rfl rfl rfl (fun _ => htl)
  have HM := Lib.hid (show Mem _ d (counted S false 0) sv fv lv false from by have := m2.1; unfold counted; rw [<- hS]; exact this)
  have HV := Lib.hid (m1.2.trans m2.2)
  have HT := Lib.hid (show Move w (fun k => k = d) ((w.setCell ⟨d, 4, none⟩ (.int .i64 ((s : Int) + 1))).setCell ⟨d, 5, none⟩ (.bool false)) (fun k => k = d) from ⟨Turn.of_grown (only_trans (grownBy_cell _ _ _ _) (grownBy_cell _ _ _ _)) rfl, fun _ h => .inl h⟩)
  have HC := Lib.hid (H _ HM.out HT.out)
  have H2 := Lib.hid h2
  clear H m1 m2 h hsv htl h2 hS
  go_enter Tryz.func68, Tryz.ntmps68
  go_wp2_with (first
    | (go_at_call 128; (with_reducible refine HC.out.mono ?_); rintro e w1 ⟨rfl, g1⟩; have G1 := Lib.hid g1; have HR := Lib.hid (show Calls Tryz.prog 67 #[.pointer (some ⟨d, 0, none⟩)] w1 fun e w' => e = .returned (.int .i64 0) /\ w' = w1 from by obtain ⟨_, _, _, _, hm, _⟩ := g1; have hr := pdready_any _ _ _ _ _ _ _ hm; rw [H2.out] at hr; exact hr); clear g1)
    | (go_at_call 67; (with_reducible refine HR.out.mono ?_); rintro e w2 ⟨rfl, hq⟩; rw [hq]; clear hq w2))
  go_ret
  exact ⟨rfl, Gone.after HV.out G1.out⟩
set_option maxHeartbeats 1000000 in
theorem pstep_write_b (w : World) (d : Nat) (S S2 : DS) (sv fv lv : Value) (p1 p2 p3 : Nat) (h : Mem w d S sv fv lv true) (hd : S.down = false) (hs : S.steps < 9223372036854775807) (af : Nat) (hS : S.after = af + 1) (haf : af < 9223372036854775807) (h2 : S2.down = false)
    (H : ∀ w1, Mem w1 d (counted S false af) sv fv lv true -> Move w (fun k => k = d) w1 (fun k => k = d) -> Calls Tryz.prog 128 #[.pointer (some ⟨p1, 0, none⟩), .pointer (some ⟨p2, 0, none⟩), .pointer (some ⟨p3, 0, none⟩)] w1 fun e w' => e = .returned (.tuple #[]) /\ Gone w1 d sv fv lv S2 w') :
    Calls Tryz.prog 68 #[.pointer (some ⟨d, 0, none⟩), .func (.func 128) #[] #[.pointer (some ⟨p1, 0, none⟩), .pointer (some ⟨p2, 0, none⟩), .pointer (some ⟨p3, 0, none⟩)]] w fun e w' => e = .returned (.int .i64 0) /\ Gone w d sv fv lv S2 w' := by
  have htl := h.tl hd
  have c4 := h.c4
  have c5 := h.c5
  have c6 := h.c6
  have c7 := h.c7
  have c8 := h.c8
  have f4 := h.blk.free 4
  have f5 := h.blk.free 5
  have f7 := h.blk.free 7
  rw [hd] at c5
  rw [hS] at c7
  obtain ⟨s, hsv⟩ : ∃ s, s = S.steps := ⟨_, rfl⟩
  rw [<- hsv] at c4 hs
  have hw : IntKind.i64.wrap ((s : Int) + 1) = (s : Int) + 1 := by rw [IntKind.wrap_i64]; omega
  have m1 := h.field 4 (.int .i64 ((s : Int) + 1)) (S' := { S with steps := S.steps + 1 }) (t' := true) (by rw [hsv]; rfl) rfl rfl rfl (fun _ => htl)
  obtain ⟨A, hA⟩ : ∃ A, A = af + 1 := ⟨_, rfl⟩
  have hA0 : ((A : Int) == 0) = false := by rw [beq_eq_false_iff_ne]; omega
  have m2 := m1.1.field 5 (.bool ((A : Int) == 0)) (S' := { S with steps := S.steps + 1, down := false }) (t' := true) (by rw [hA0]; rfl) rfl rfl rfl (fun _ => htl)
  rw [<- hA] at c7
  have hA2 : (A : Int) - 1 = (af : Int) := by omega
  have m3 := m2.1.field 7 (.int .i64 ((A : Int) - 1)) (S' := counted S false af) (t' := true) (by rw [hA2]; rfl) rfl rfl rfl (fun _ => htl)
  have hw2 : IntKind.i64.wrap ((A : Int) - 1) = (A : Int) - 1 := by rw [IntKind.wrap_i64]; omega
  have hw4 : (0 : Int) < (A : Int) := by omega
  have hw5 : ¬ (A : Int) = 0 := by omega
  clear hA2 hA0
  have HM := Lib.hid m3.1
  have HV := Lib.hid (m1.2.trans (m2.2.trans m3.2))
  have HT := Lib.hid (show Move w (fun k => k = d) (((w.setCell ⟨d, 4, none⟩ (.int .i64 ((s : Int) + 1))).setCell ⟨d, 5, none⟩ (.bool ((A : Int) == 0))).setCell ⟨d, 7, none⟩ (.int .i64 ((A : Int) - 1))) (fun k => k = d) from ⟨Turn.of_grown (only_trans (only_trans (grownBy_cell _ _ _ _) (grownBy_cell _ _ _ _)) (grownBy_cell _ _ _ _)) rfl, fun _ h => .inl h⟩)
  have HC := Lib.hid (H _ HM.out HT.out)
  have H2 := Lib.hid h2
  clear H m1 m2 m3 hA h hsv htl h2 hS
  go_enter Tryz.func68, Tryz.ntmps68
  go_wp2_with (first
    | (go_at_call 128; (with_reducible refine HC.out.mono ?_); rintro e w1 ⟨rfl, g1⟩; have G1 := Lib.hid g1; have HR := Lib.hid (show Calls Tryz.prog 67 #[.pointer (some ⟨d, 0, none⟩)] w1 fun e w' => e = .returned (.int .i64 0) /\ w' = w1 from by obtain ⟨_, _, _, _, hm, _⟩ := g1; have hr := pdready_any _ _ _ _ _ _ _ hm; rw [H2.out] at hr; exact hr); clear g1)
    | (go_at_call 67; (with_reducible refine HR.out.mono ?_); rintro e w2 ⟨rfl, hq⟩; rw [hq]; clear hq w2))
  go_ret
  exact ⟨rfl, Gone.after HV.out G1.out⟩
set_option maxHeartbeats 1000000 in
theorem pstep_write_c (w : World) (d : Nat) (S S2 : DS) (sv fv lv : Value) (p1 p2 p3 : Nat) (h : Mem w d S sv fv lv true) (hd : S.down = false) (hs : S.steps < 9223372036854775807) (hS : S.after = 0) (hD : S.done = true) (h2 : S2.down = true)
    (H : ∀ w1, Mem w1 d (counted S true 0) sv fv lv true -> Move w (fun k => k = d) w1 (fun k => k = d) -> Calls Tryz.prog 128 #[.pointer (some ⟨p1, 0, none⟩), .pointer (some ⟨p2, 0, none⟩), .pointer (some ⟨p3, 0, none⟩)] w1 fun e w' => e = .returned (.tuple #[]) /\ Gone w1 d sv fv lv S2 w') :
    Calls Tryz.prog 68 #[.pointer (some ⟨d, 0, none⟩), .func (.func 128) #[] #[.pointer (some ⟨p1, 0, none⟩), .pointer (some ⟨p2, 0, none⟩), .pointer (some ⟨p3, 0, none⟩)]] w fun e w' => e = .returned (.int .i64 20) /\ Gone w d sv fv lv S2 w' := by
  have htl := h.tl hd
  have c4 := h.c4
  have c5 := h.c5
  have c6 := h.c6
  have c7 := h.c7
  have c8 := h.c8
  have f4 := h.blk.free 4
  have f5 := h.blk.free 5
  have f7 := h.blk.free 7
  rw [hd] at c5
  rw [hS] at c7
  rw [hD] at c8
  obtain ⟨s, hsv⟩ : ∃ s, s = S.steps := ⟨_, rfl⟩
  rw [<- hsv] at c4 hs
  have hw : IntKind.i64.wrap ((s : Int) + 1) = (s : Int) + 1 := by rw [IntKind.wrap_i64]; omega
  have m1 := h.field 4 (.int .i64 ((s : Int) + 1)) (S' := { S with steps := S.steps + 1 }) (t' := true) (by rw [hsv]; rfl) rfl rfl rfl (fun _ => htl)
  have m2 := m1.1.field 5 (.bool true) (S' := { S with steps := S.steps + 1, down := true }) (t' := true) rfl rfl rfl rfl (fun _ => htl)
  have HM := Lib.hid (show Mem _ d (counted S true 0) sv fv lv true from by have := m2.1; unfold counted; rw [<- hS]; exact this)
  have HV := Lib.hid (m1.2.trans m2.2)
  have HT := Lib.hid (show Move w (fun k => k = d) ((w.setCell ⟨d, 4, none⟩ (.int .i64 ((s : Int) + 1))).setCell ⟨d, 5, none⟩ (.bool true)) (fun k => k = d) from ⟨Turn.of_grown (only_trans (grownBy_cell _ _ _ _) (grownBy_cell _ _ _ _)) rfl, fun _ h => .inl h⟩)
  have HC := Lib.hid (H _ HM.out HT.out)
  have H2 := Lib.hid h2
  clear H m1 m2 h hsv htl h2 hS hD
  go_enter Tryz.func68, Tryz.ntmps68
  go_wp2_with (first
    | (go_at_call 128; (with_reducible refine HC.out.mono ?_); rintro e w1 ⟨rfl, g1⟩; have G1 := Lib.hid g1; have HR := Lib.hid (show Calls Tryz.prog 67 #[.pointer (some ⟨d, 0, none⟩)] w1 fun e w' => e = .returned (.int .i64 20) /\ w' = w1 from by obtain ⟨_, _, _, _, hm, _⟩ := g1; have hr := pdready_any _ _ _ _ _ _ _ hm; rw [H2.out] at hr; exact hr); clear g1)
    | (go_at_call 67; (with_reducible refine HR.out.mono ?_); rintro e w2 ⟨rfl, hq⟩; rw [hq]; clear hq w2))
  go_ret
  exact ⟨rfl, Gone.after HV.out G1.out⟩
set_option maxHeartbeats 1000000 in
theorem pstep_write_d (w : World) (d : Nat) (S : DS) (sv fv lv : Value) (p1 p2 p3 : Nat) (h : Mem w d S sv fv lv true) (hd : S.down = false) (hs : S.steps < 9223372036854775807) (hS : S.after = 0) (hD : S.done = false) :
    Calls Tryz.prog 68 #[.pointer (some ⟨d, 0, none⟩), .func (.func 128) #[] #[.pointer (some ⟨p1, 0, none⟩), .pointer (some ⟨p2, 0, none⟩), .pointer (some ⟨p3, 0, none⟩)]] w fun e w' => e = .returned (.int .i64 20) /\ Gone w d sv fv lv (counted S true 0) w' := by
  have htl := h.tl hd
  have c4 := h.c4
  have c5 := h.c5
  have c6 := h.c6
  have c7 := h.c7
  have c8 := h.c8
  have f4 := h.blk.free 4
  have f5 := h.blk.free 5
  rw [hd] at c5
  rw [hS] at c7
  rw [hD] at c8
  obtain ⟨s, hsv⟩ : ∃ s, s = S.steps := ⟨_, rfl⟩
  rw [<- hsv] at c4 hs
  have hw : IntKind.i64.wrap ((s : Int) + 1) = (s : Int) + 1 := by rw [IntKind.wrap_i64]; omega
  have m1 := h.field 4 (.int .i64 ((s : Int) + 1)) (S' := { S with steps := S.steps + 1 }) (t' := true) (by rw [hsv]; rfl) rfl rfl rfl (fun _ => htl)
  have m2 := m1.1.field 5 (.bool true) (S' := { S with steps := S.steps + 1, down := true }) (t' := true) rfl rfl rfl rfl (fun _ => htl)
  have HM := Lib.hid (show Mem _ d (counted S true 0) sv fv lv true from by have := m2.1; unfold counted; rw [<- hS]; exact this)
  have HV := Lib.hid (m1.2.trans m2.2)
  have HR := Lib.hid (pdready_any _ _ _ _ _ _ _ HM.out)
  clear m1 m2 h hsv htl hS hD
  go_enter Tryz.func68, Tryz.ntmps68
  go_wp2_with (go_at_call 67; (with_reducible refine HR.out.mono ?_); rintro e w2 ⟨rfl, hq⟩; rw [hq]; clear hq w2)
  go_ret
  exact ⟨rfl, _, _, _, _, HM.out, HV.out⟩
end Go.Proofs.YtjalknpeecgllaaGreatDoor
end

section
namespace Go.Proofs.YtjalknpeecgllaaGreatDoor
open Go.ChangeShapes Go.WideShapes Go.ChangeAt Go.RowKit
open DM
theorem built_dev (n : Int) : Tryz.prog.built 97 [(0, .int .i64 n)] = some #[.int .i64 n, .slice none 0 0, .slice none 0 0, .slice none 0 0, .int .i64 0, .bool false, .bool false, .int .i64 0, .bool false] := by kernel_rfl
structure Inv (S : DS) : Prop where
  short : S.safe.length <= S.seen.length
  wr : ∀ x ∈ S.loose, Wr x /\ x.size <= S.seen.length
  same : ∀ k, k < S.seen.length -> (∀ x ∈ S.loose, x.at_ / 512 ≠ k / 512) -> gb S.safe k = gb S.seen k
  told : S.told = false -> S.after = 0
theorem Mem.told {w : World} {d : Nat} {S S' : DS} {sv fv lv : Value} {t : Bool} (h : Mem w d S sv fv lv t) (hd : S'.down = true) (b : Bool) (he : S' = { S with told := b }) : Mem w d S' sv fv lv t := by
  subst he
  exact ⟨h.blk, h.seen, h.safe, h.loose, fun q => (by rw [hd] at q; cases q), h.ns, h.nf, h.nl, h.sf, h.sl, h.fl⟩
structure DoesD (f : DS -> DS) (S : DS) : Prop where
  at_ : ∀ dn af, f (counted S dn af) = { f S with steps := S.steps + 1, down := dn, after := af }
  steps : (f S).steps = S.steps
  down : (f S).down = S.down
  after : (f S).after = S.after
  told : (f S).told = S.told
theorem does_wrote (S : DS) (a : Nat) (b : List Nat) : DoesD (fun S => wrote S a b) S := ⟨fun _ _ => rfl, rfl, rfl, rfl, rfl⟩
theorem ds_a (X : DS) (n : Nat) (h1 : X.down = false) (h2 : X.after = 0) : ({ X with steps := n, down := false, after := 0 } : DS) = { X with steps := n } := by
  obtain ⟨_, _, _, _, _, _, _, _, _⟩ := X
  simp only at h1 h2
  subst h1 h2; rfl
theorem ds_b (X : DS) (n k : Nat) (h1 : X.down = false) : ({ X with steps := n, down := false, after := k } : DS) = { X with steps := n, after := k } := by
  obtain ⟨_, _, _, _, _, _, _, _, _⟩ := X
  simp only at h1
  subst h1; rfl
theorem ds_c (X : DS) (n : Nat) (b : Bool) (h2 : X.after = 0) : ({ X with steps := n, down := true, after := 0, told := b } : DS) = { X with steps := n, down := true, told := b } := by
  obtain ⟨_, _, _, _, _, _, _, _, _⟩ := X
  simp only at h2
  subst h2; rfl
theorem pstep_write (w : World) (d : Nat) (S : DS) (f : DS -> DS) (sv fv lv : Value) (t : Bool) (p1 p2 p3 : Nat) (hm : Mem w d S sv fv lv t) (hd : S.down = false) (hs : S.steps < 9223372036854775807) (ha : S.after <= 9223372036854775807) (h0 : S.told = false -> S.after = 0) (hf : DoesD f S)
    (H : ∀ dn af w1, af <= 9223372036854775807 -> (S.told = false -> af = 0) -> Mem w1 d (counted S dn af) sv fv lv t -> Move w (fun k => k = d) w1 (fun k => k = d) -> Calls Tryz.prog 128 #[.pointer (some ⟨p1, 0, none⟩), .pointer (some ⟨p2, 0, none⟩), .pointer (some ⟨p3, 0, none⟩)] w1 fun e w' => e = .returned (.tuple #[]) /\ Gone w1 d sv fv lv (f (counted S dn af)) w') :
    Calls Tryz.prog 68 #[.pointer (some ⟨d, 0, none⟩), .func (.func 128) #[] #[.pointer (some ⟨p1, 0, none⟩), .pointer (some ⟨p2, 0, none⟩), .pointer (some ⟨p3, 0, none⟩)]] w fun e w' => e = .returned (.int .i64 (DM.step S (f S)).2) /\ Gone w d sv fv lv (DM.step S (f S)).1 w' := by
  have htl := hm.tl hd
  have hfd : (f S).down = false := hf.down.trans hd
  subst htl
  unfold DM.step
  cases ht : S.told with
  | false =>
    have hz := h0 ht
    have hza : (f S).after = 0 := hf.after.trans hz
    rw [ht] at hm H
    rw [if_pos rfl]
    have hr := pstep_write_a w d S (f (counted S false 0)) sv fv lv p1 p2 p3 hm hd hs hz (by rw [hf.at_]) (fun w1 h1 h2 => H false 0 w1 (by omega) (fun _ => rfl) h1 h2)
    rw [hf.at_, ds_a _ _ hfd hza, <- hf.steps] at hr
    exact hr
  | true =>
    rw [ht] at hm H
    rw [if_neg (by decide)]
    by_cases hp : 0 < S.after
    . obtain ⟨af, haf⟩ : ∃ af, S.after = af + 1 := ⟨S.after - 1, by omega⟩
      rw [if_pos hp]
      have hr := pstep_write_b w d S (f (counted S false af)) sv fv lv p1 p2 p3 hm hd hs af haf (by omega) (by rw [hf.at_]) (fun w1 h1 h2 => H false af w1 (by omega) (fun q => by cases q) h1 h2)
      rw [hf.at_, ds_b _ _ _ hfd, <- hf.steps, show af = (f S).after - 1 by rw [hf.after]; omega] at hr
      exact hr
    . have hz : S.after = 0 := by omega
      have hza : (f S).after = 0 := hf.after.trans hz
      rw [if_neg hp]
      cases hD : S.done with
      | true =>
        have hr := pstep_write_c w d S (f (counted S true 0)) sv fv lv p1 p2 p3 hm hd hs hz hD (by rw [hf.at_]) (fun w1 h1 h2 => H true 0 w1 (by omega) (fun _ => rfl) h1 h2)
        rw [hf.at_] at hr
        refine hr.mono fun e w' hh => ⟨hh.1, ?_⟩
        obtain ⟨sv', fv', lv', t', m', v'⟩ := hh.2
        rw [if_pos rfl]
        refine ⟨sv', fv', lv', t', m'.told rfl false ?_, v'⟩
        show ({ f S with steps := S.steps + 1, down := true, told := false } : DS) = _
        rw [<- ds_c _ _ _ hza]
      | false =>
        have hr := pstep_write_d w d S sv fv lv p1 p2 p3 hm hd hs hz hD
        refine hr.mono fun e w' hh => ⟨hh.1, ?_⟩
        obtain ⟨sv', fv', lv', t', m', v'⟩ := hh.2
        rw [if_neg (by decide)]
        refine ⟨sv', fv', lv', t', m'.told rfl false ?_, v'⟩
        show ({ S with steps := S.steps + 1, down := true, told := false } : DS) = _
        rw [<- ds_c _ _ _ hz]
        rfl
section
variable (w : World) (d : Nat) (S : DS) (sv fv lv : Value) (t : Bool) (h : Mem w d S sv fv lv t)
include h
theorem Gone.same : Gone w d sv fv lv S w := ⟨sv, fv, lv, t, h, Move.refl _ _⟩
set_option maxHeartbeats 1000000 in
theorem pdread_any (a n : Int) (ha : -9223372036854775808 <= a /\ a <= 9223372036854775807) (hn : -9223372036854775808 <= n /\ n <= 9223372036854775807) (hl : S.seen.length <= 16777216) : Calls Tryz.prog 80 #[.pointer (some ⟨d, 0, none⟩), .int .i64 a, .int .i64 n] w fun e w' => ∃ y, e = .returned (.tuple #[y, .int .i64 (DM.read S a n).2]) /\ Own w' w.heap.size y (DM.read S a n).1 /\ Below w.heap.size w w' := by
  have HR := Lib.hid (pdready_any w d S sv fv lv t h)
  have c1 := h.c1
  have hsr := h.seen.rd
  obtain ⟨ao, cap, rfl, hc⟩ := h.seen.rd.shape
  clear h
  unfold DM.read
  cases hd : S.down with
  | true =>
    rw [hd] at HR
    go_enter Tryz.func80, Tryz.ntmps80
    go_wp2_with (go_at_call 67; (with_reducible refine HR.out.mono ?_); rintro e w1 ⟨rfl, hq⟩; rw [hq]; clear hq w1)
    go_ret2
    exact ⟨_, rfl, own_nil w, Below.refl _ _⟩
  | false =>
    rw [hd] at HR
    obtain ⟨s, hs⟩ : ∃ s, s = S.seen.length := ⟨_, rfl⟩
    have HS := Lib.hid hs
    rw [<- hs] at c1 hc hl ⊢
    by_cases h1 : a < 0
    . have HE := Lib.hid (show (if (false = true) then (([] : List Nat), (20 : Int)) else if a < 0 \/ n < 0 \/ (s : Int) < a \/ (s : Int) - a < n then ([], 43) else ((S.seen.drop a.toNat).take n.toNat, 0)) = ([], 43) by rw [if_neg (by decide), if_pos (.inl h1)])
      rw [HE.out]
      go_enter Tryz.func80, Tryz.ntmps80
      go_wp2_with (go_at_call 67; (with_reducible refine HR.out.mono ?_); rintro e w1 ⟨rfl, hq⟩; rw [hq]; clear hq w1)
      go_ret2
      exact ⟨_, rfl, own_nil w, Below.refl _ _⟩
    . by_cases h2 : n < 0
      . have HE := Lib.hid (show (if (false = true) then (([] : List Nat), (20 : Int)) else if a < 0 \/ n < 0 \/ (s : Int) < a \/ (s : Int) - a < n then ([], 43) else ((S.seen.drop a.toNat).take n.toNat, 0)) = ([], 43) by rw [if_neg (by decide), if_pos (.inr (.inl h2))])
        rw [HE.out]
        go_enter Tryz.func80, Tryz.ntmps80
        go_wp2_with (go_at_call 67; (with_reducible refine HR.out.mono ?_); rintro e w1 ⟨rfl, hq⟩; rw [hq]; clear hq w1)
        go_ret2
        exact ⟨_, rfl, own_nil w, Below.refl _ _⟩
      . have hw : IntKind.i64.wrap ((s : Int) - a) = (s : Int) - a := by rw [IntKind.wrap_i64]; omega
        by_cases h3 : (s : Int) - a < n
        . have HE := Lib.hid (show (if (false = true) then (([] : List Nat), (20 : Int)) else if a < 0 \/ n < 0 \/ (s : Int) < a \/ (s : Int) - a < n then ([], 43) else ((S.seen.drop a.toNat).take n.toNat, 0)) = ([], 43) by rw [if_neg (by decide), if_pos (.inr (.inr (.inr h3)))])
          rw [HE.out]
          go_enter Tryz.func80, Tryz.ntmps80
          go_wp2_with (go_at_call 67; (with_reducible refine HR.out.mono ?_); rintro e w1 ⟨rfl, hq⟩; rw [hq]; clear hq w1)
          go_ret2
          exact ⟨_, rfl, own_nil w, Below.refl _ _⟩
        . have HE := Lib.hid (show (if (false = true) then (([] : List Nat), (20 : Int)) else if a < 0 \/ n < 0 \/ (s : Int) < a \/ (s : Int) - a < n then ([], 43) else ((S.seen.drop a.toNat).take n.toNat, 0)) = ((S.seen.drop a.toNat).take n.toNat, 0) by rw [if_neg (by decide), if_neg (by omega)])
          rw [HE.out]
          obtain ⟨A, rfl⟩ : ∃ A : Nat, a = (A : Int) := ⟨a.toNat, by omega⟩
          obtain ⟨m, rfl⟩ : ∃ m : Nat, n = (m : Int) := ⟨n.toNat, by omega⟩
          simp only [Int.toNat_natCast]
          have hp := (hsr.drop A (by omega)).take m (by rw [List.length_drop]; omega)
          by_cases hcn : cap = A
          . rw [if_pos hcn, hcn, Nat.sub_self] at hp
            have HC := Lib.hid (pclone_any _ _ w hp)
            clear hp hsr hs
            subst hcn
            go_enter Tryz.func80, Tryz.ntmps80
            go_wp2_with (first
              | (go_at_call 67; (with_reducible refine HR.out.mono ?_); rintro e w1 ⟨rfl, hq⟩; rw [hq]; clear hq w1)
              | (go_at_call 37; (with_reducible refine HC.out.mono ?_); rintro e w1 ⟨y, rfl, o1, b1, _⟩; have O1 := Lib.hid o1; have B1 := Lib.hid b1; clear o1 b1))
            go_ret2
            exact ⟨_, rfl, O1.out, B1.out⟩
          . rw [if_neg hcn] at hp
            have HC := Lib.hid (pclone_any _ _ w hp)
            clear hp hsr hs
            go_enter Tryz.func80, Tryz.ntmps80
            go_wp2_with (first
              | (go_at_call 67; (with_reducible refine HR.out.mono ?_); rintro e w1 ⟨rfl, hq⟩; rw [hq]; clear hq w1)
              | (go_at_call 37; (with_reducible refine HC.out.mono ?_); rintro e w1 ⟨y, rfl, o1, b1, _⟩; have O1 := Lib.hid o1; have B1 := Lib.hid b1; clear o1 b1))
            go_ret2
            exact ⟨_, rfl, O1.out, B1.out⟩
end
end Go.Proofs.YtjalknpeecgllaaGreatDoor
namespace Go.Proofs.YtjalknpeecgllaaGreatDoor
open Go.ChangeShapes Go.WideShapes Go.ChangeAt Go.RowKit
open DM
theorem gone_of {w W : World} {d : Nat} {S S' : DS} {sv fv lv sv' fv' lv' : Value} {t t' : Bool} (h : Mem w d S sv fv lv t) (T : Turn (Blks d sv fv lv) w W) (hb : Blk W d 97 (dvc S' sv' fv' lv' t')) (o1 : Own W 0 sv' S'.seen) (o2 : Own W 0 fv' S'.safe) (o3 : W.ownsRow 0 163 514 lv' S'.loose.length (lwcs S'.loose)) (ht : S'.down = false -> t' = S'.told)
    (n1 : ∀ g, sv'.ownBlock = some g -> sv.ownBlock = some g \/ w.heap.size <= g) (n2 : ∀ g, fv'.ownBlock = some g -> fv.ownBlock = some g \/ w.heap.size <= g) (n3 : ∀ g, lv'.ownBlock = some g -> lv.ownBlock = some g \/ w.heap.size <= g)
    (x1 : ∀ g, w.heap.size <= g -> sv'.ownBlock = some g -> fv'.ownBlock ≠ some g) (x2 : ∀ g, w.heap.size <= g -> sv'.ownBlock = some g -> lv'.ownBlock ≠ some g) (x3 : ∀ g, w.heap.size <= g -> fv'.ownBlock = some g -> lv'.ownBlock ≠ some g) :
    Mem W d S' sv' fv' lv' t' /\ Move w (Blks d sv fv lv) W (Blks d sv' fv' lv') := by
  have hl := h.lt
  have hd := hl d (.inl rfl)
  refine ⟨⟨hb, o1, o2, o3, ht, fun e => ?_, fun e => ?_, fun e => ?_, fun g e q => ?_, fun g e q => ?_, fun g e q => ?_⟩, T, ?_⟩
  . rcases n1 d e with z | z
    . exact h.ns z
    . omega
  . rcases n2 d e with z | z
    . exact h.nf z
    . omega
  . rcases n3 d e with z | z
    . exact h.nl z
    . omega
  . rcases n1 g e with z | z
    . rcases n2 g q with y | y
      . exact h.sf g z y
      . have := hl g (.inr (.inl z)); omega
    . exact x1 g z e q
  . rcases n1 g e with z | z
    . rcases n3 g q with y | y
      . exact h.sl g z y
      . have := hl g (.inr (.inl z)); omega
    . exact x2 g z e q
  . rcases n2 g e with z | z
    . rcases n3 g q with y | y
      . exact h.fl g z y
      . have := hl g (.inr (.inr (.inl z))); omega
    . exact x3 g z e q
  . rintro k (rfl | e | e | e)
    . exact .inl (.inl rfl)
    . exact (n1 k e).imp (fun z => .inr (.inl z)) id
    . exact (n2 k e).imp (fun z => .inr (.inr (.inl z))) id
    . exact (n3 k e).imp (fun z => .inr (.inr (.inr z))) id
theorem mem_new (w : World) (m : Nat) (cs : List Value) (hcs : cs = dvc (DM.new (m : Int)) (.slice none 0 0) (.slice none 0 0) (.slice none 0 0) false) (b : Nat) (hb : b = w.heap.size) : Mem (w.alloc (.cells cs.toArray 97)) b (DM.new (m : Int)) (.slice none 0 0) (.slice none 0 0) (.slice none 0 0) false := by
  subst hcs
  refine ⟨Blk.new w _ _ b hb, (own_nil _).lower (Nat.zero_le _), (own_nil _).lower (Nat.zero_le _), owned_none _ _ _ _, fun _ => rfl, fun e => (by cases e), fun e => (by cases e), fun e => (by cases e), fun g e => (by cases e), fun g e => (by cases e), fun g e => (by cases e)⟩
theorem pdnew_any (n : Int) (w : World) : Calls Tryz.prog 41 #[.int .i64 n] w fun e w' => ∃ d, d = w.heap.size /\ e = .returned (.pointer (some ⟨d, 0, none⟩)) /\ Mem w' d (DM.new n) (.slice none 0 0) (.slice none 0 0) (.slice none 0 0) false /\ Below w.heap.size w w' := by
  obtain ⟨m, hm, hn⟩ : ∃ m : Nat, DM.new n = DM.new (m : Int) /\ (n < 0 /\ m = 0 \/ ¬ n < 0 /\ 16777216 < n /\ m = 16777216 \/ ¬ n < 0 /\ ¬ 16777216 < n /\ n = (m : Int)) := by
    by_cases h1 : n < 0
    . exact ⟨0, by unfold DM.new; rw [show (max 0 (min n 16777216)).toNat = (max 0 (min ((0 : Nat) : Int) 16777216)).toNat by omega], .inl ⟨h1, rfl⟩⟩
    . by_cases h2 : 16777216 < n
      . exact ⟨16777216, by unfold DM.new; rw [show (max 0 (min n 16777216)).toNat = (max 0 (min ((16777216 : Nat) : Int) 16777216)).toNat by omega], .inr (.inl ⟨h1, h2, rfl⟩)⟩
      . exact ⟨n.toNat, by rw [show ((n.toNat : Nat) : Int) = n by omega], .inr (.inr ⟨h1, h2, by omega⟩)⟩
  rw [hm]
  have HB := Lib.hid ((Below.refl w.heap.size w).alloc (Nat.le_refl _) (.cells #[.int .i64 (m : Int), .slice none 0 0, .slice none 0 0, .slice none 0 0, .int .i64 0, .bool false, .bool false, .int .i64 0, .bool false] 97))
  have hbd := built_dev (m : Int)
  rcases hn with ⟨h1, rfl⟩ | ⟨h1, h2, rfl⟩ | ⟨h1, h2, rfl⟩
  . have HM := Lib.hid (mem_new w 0 _ rfl _ rfl)
    go_enter Tryz.func41, Tryz.ntmps41
    go_wp2_with fail
    go_ret
    first | exact ⟨_, rfl, rfl, HM.out, HB.out⟩ | exact ⟨rfl, HM.out, HB.out⟩
  . have HM := Lib.hid (mem_new w 16777216 _ rfl _ rfl)
    go_enter Tryz.func41, Tryz.ntmps41
    go_wp2_with fail
    go_ret
    first | exact ⟨_, rfl, rfl, HM.out, HB.out⟩ | exact ⟨rfl, HM.out, HB.out⟩
  . have HM := Lib.hid (mem_new w m [.int .i64 (m : Int), .slice none 0 0, .slice none 0 0, .slice none 0 0, .int .i64 0, .bool false, .bool false, .int .i64 0, .bool false] (by unfold dvc DM.new; rw [show (max 0 (min (m : Int) 16777216)).toNat = m by omega]; rfl) _ rfl)
    clear hm
    go_enter Tryz.func41, Tryz.ntmps41
    go_wp2_with fail
    go_ret
    first | exact ⟨_, rfl, rfl, HM.out, HB.out⟩ | exact ⟨rfl, HM.out, HB.out⟩
section
variable (w : World) (d : Nat) (S : DS) (sv fv lv : Value) (t : Bool) (h : Mem w d S sv fv lv t)
include h
theorem pdload_any (v : Value) (l : List Nat) (hv : Rd w v l) (hne : 0 < l.length -> ∀ g, v.ownBlock = some g -> ¬ Blks d sv fv lv g) (_hm : S.most <= 16777216) : Calls Tryz.prog 23 #[.pointer (some ⟨d, 0, none⟩), v] w fun e w' => e = .returned (.tuple #[]) /\ Gone w d sv fv lv (DM.load S l) w' := by
  have c0 := h.c0
  have hshape := hv.shape
  unfold DM.load
  by_cases hlm : S.most < l.length
  . rw [if_pos hlm]
    obtain ⟨ao, cap, rfl, hc⟩ := hshape
    have HG := Lib.hid (Gone.same w d S sv fv lv t h)
    have hq : (S.most : Int) < (l.length : Int) := by omega
    clear h hv hne
    go_enter Tryz.func23, Tryz.ntmps23
    go_wp2_with fail
    exact bodyPost_ret (results_none rfl _ _ _) rfl ⟨rfl, HG.out⟩
  . rw [if_neg hlm]
    have HC := Lib.hid (fun W (hW : Rd W v l) => pclone_any v l W hW)
    have HV := Lib.hid hv
    have H := Lib.hid h
    obtain ⟨ao, cap, rfl, hc⟩ := hshape
    have hq : ¬ ((S.most : Int) < (l.length : Int)) := by omega
    clear h hv hne
    go_enter Tryz.func23, Tryz.ntmps23
    go_wp2_with (first
      | (go_at_call 37; (with_reducible refine (HC.out _ (HV.out)).mono ?_); rintro e w1 ⟨y1, rfl, o1, b1, n1⟩; obtain ⟨a1, c1, rfl, _⟩ := o1.rd.shape; have O1 := Lib.hid o1; have B1 := Lib.hid b1; have N1 := Lib.hid n1; clear o1 b1 n1)
      | (go_at_call 37; (with_reducible refine (HC.out _ (HV.out.below B1.out)).mono ?_); rintro e w2 ⟨y2, rfl, o2, b2, n2⟩; obtain ⟨a2, c2, rfl, _⟩ := o2.rd.shape; have B12 := Lib.hid (B1.out.on b2); have D2 := Lib.hid (H.out.blk.below B12.out H.out.blk.lt); have k1 := D2.out.cell 1 _ rfl; have k2 := D2.out.cell 2 _ rfl; have k3 := D2.out.cell 3 _ rfl; have g1 := D2.out.free 1; have g2 := D2.out.free 2; have g3 := D2.out.free 3; have O2 := Lib.hid o2; have B2 := Lib.hid b2; have N2 := Lib.hid n2; clear o2 b2 n2))
    obtain ⟨y1, hy1⟩ : ∃ y, y = Value.slice a1 l.length c1 := ⟨_, rfl⟩
    obtain ⟨y2, hy2⟩ : ∃ y, y = Value.slice a2 l.length c2 := ⟨_, rfl⟩
    rw [<- hy1] at O1 N1 ⊢
    rw [<- hy2] at O2 N2 ⊢
    have r1 := O1.out.below B2.out
    have hlt : ∀ g, y1.ownBlock = some g -> g < w1.heap.size := fun g q => (O1.out.from g q).2
    have hd := H.out.blk.lt
    have hs1 := B1.out.size
    have hs2 := B2.out.size
    obtain ⟨W, hW⟩ : ∃ W, W = ((w2.setCell ⟨d, 1, none⟩ y1).setCell ⟨d, 2, none⟩ y2).setCell ⟨d, 3, none⟩ (.slice none 0 0) := ⟨_, rfl⟩
    have hg : w2.grownBy W (some d) := by rw [hW]; exact only_trans (only_trans (grownBy_cell _ _ _ _) (grownBy_cell _ _ _ _)) (grownBy_cell _ _ _ _)
    have hne1 : y1.ownBlock = none \/ y1.ownBlock ≠ some d := .inr fun q => by have := N1.out d q; omega
    have hne2 : y2.ownBlock = none \/ y2.ownBlock ≠ some d := .inr fun q => by have := N2.out d q; omega
    have hB : Blk W d 97 (dvc { S with seen := l, safe := l, loose := [] } y1 y2 (.slice none 0 0) t) := by rw [hW]; exact ((D2.out.set 1 y1).set 2 y2).set 3 _
    have hr := gone_of H.out (S' := { S with seen := l, safe := l, loose := [] }) (t' := t) ((Turn.of_below B12.out).trans (Turn.of_grown (F := Blks d sv fv lv) hg (.inl rfl)) (fun _ q => .inl q)) hB ((r1.lower (Nat.zero_le _)).keep hg hne1) ((O2.out.lower (Nat.zero_le _)).keep hg hne2) (owned_none _ _ _ _) H.out.tl
      (fun g q => .inr (N1.out g q)) (fun g q => .inr (by have := N2.out g q; omega)) (fun g q => by cases q) (fun g _ q e => by have := hlt g q; have := N2.out g e; omega) (fun g _ _ e => by cases e) (fun g _ _ e => by cases e)
    exact bodyPost_end (results_none rfl _ _ _) rfl ⟨rfl, _, _, _, _, by rw [<- hW]; exact hr.1, by rw [<- hW]; exact hr.2⟩
end
end Go.Proofs.YtjalknpeecgllaaGreatDoor
namespace Go.Proofs.YtjalknpeecgllaaGreatDoor
open Go.ChangeShapes Go.WideShapes Go.ChangeAt Go.RowKit
open DM
def zlw : List Value := .int .i64 0 :: .int .i64 0 :: row8 (List.replicate 512 0)
theorem zlw_len : zlw.length = 514 := by unfold zlw; rw [List.length_cons, List.length_cons, row8_len, List.length_replicate]
theorem infoDW : (Tryz.prog.info? 163).map (fun i => (i.zero, i.size, i.bytes)) = some (some (.agg zlw.toArray), 514, 528) := by kernel_rfl
theorem undW : Tryz.prog.underlying 93 = some (.slice 163) := by kernel_rfl
end Go.Proofs.YtjalknpeecgllaaGreatDoor
end

section
namespace Go.Proofs.YtjalknpeecgllaaGreatDoor
open Go.ChangeShapes Go.WideShapes Go.ChangeAt Go.RowKit
open DM
theorem Turn.of_row {F : Nat -> Prop} {w w' : World} {row : Option Nat} (h : w.grownBy w' row) (hF : ∀ g, row = some g -> F g) : Turn F w w' := ⟨h.os, h.tape, h.output, h.size, fun k hk hn => h.block k hk (fun e => hn (hF k e.symm))⟩
def Newer (v fv : Value) (n : Nat) : Prop := ∀ g, v.ownBlock = some g -> fv.ownBlock = some g \/ n <= g
theorem newer {v fv : Value} {n : Nat} (k : v.ownBlock = fv.ownBlock \/ v.ownBlock = some n) : Newer v fv n := fun g e => by
  rcases k with k | k
  . exact .inl (k ▸ e)
  . rw [k] at e; have := Option.some.inj e; right; omega
section
variable {w W : World} {d : Nat} {S : DS} {sv fv lv : Value} {t : Bool} {v : Value} {F : List Nat}
theorem Mem.seenTo (h : Mem w d S sv fv lv t) (o : Own W 0 v F) (g : w.grownBy W sv.ownBlock) (k : Newer v sv w.heap.size) : Mem (W.setCell ⟨d, 1, none⟩ v) d { S with seen := F } v fv lv t /\ Move w (Blks d sv fv lv) (W.setCell ⟨d, 1, none⟩ v) (Blks d v fv lv) := by
  have hl := h.lt
  have hg2 := grownBy_cell W d 1 v
  have nv : v.ownBlock ≠ some d := fun q => by
    rcases k d q with z | z
    . exact h.ns z
    . have := hl d (.inl rfl); omega
  have nf : fv.ownBlock = none \/ fv.ownBlock ≠ sv.ownBlock := by
    cases e : fv.ownBlock with
    | none => exact .inl rfl
    | some g => exact .inr (fun q => h.sf g q.symm e)
  have nl : lv.ownBlock = none \/ lv.ownBlock ≠ sv.ownBlock := by
    cases e : lv.ownBlock with
    | none => exact .inl rfl
    | some g => exact .inr (fun q => h.sl g q.symm e)
  refine gone_of h ((Turn.of_row g (fun j e => .inr (.inl e))).trans (Turn.of_grown (F := Blks d sv fv lv) hg2 (.inl rfl)) (fun _ q => .inl q)) ((h.blk.grown g (fun e => h.ns e.symm)).set 1 v) (o.keep hg2 (.inr nv)) ((h.safe.keep g nf).keep hg2 (.inr h.nf)) (World.ownsRow.kept (World.ownsRow.kept h.loose g nl) hg2 (.inr h.nl)) h.tl
    (fun j e => k j e) (fun j e => .inl e) (fun j e => .inl e) (fun j hj e q => ?_) (fun j hj e q => ?_) (fun j hj e => ?_)
  . have := hl j (.inr (.inr (.inl q))); omega
  . have := hl j (.inr (.inr (.inr q))); omega
  . have := hl j (.inr (.inr (.inl e))); omega
end
def CS (c : Nat) (w0 : World) (P1 : Value -> World -> Prop) (b k : Nat) : Nat -> Told -> World -> Prop
  | 0, _, w => w = w0
  | 1, r, w => ∃ v, r c = some v /\ P1 v w
  | _, r, w => ∃ v W, r c = some v /\ P1 v W /\ w = W.setCell ⟨b, k, none⟩ v
end Go.Proofs.YtjalknpeecgllaaGreatDoor
namespace Go.Proofs.YtjalknpeecgllaaGreatDoor
open Go.ChangeShapes Go.WideShapes Go.ChangeAt Go.RowKit
open DM
theorem Rd.turnF {w W : World} {F : Nat -> Prop} {y : Value} {l : List Nat} (h : Rd w y l) (T : Turn F w W) (hne : 0 < l.length -> ∀ g, y.ownBlock = some g -> ¬ F g) : Rd W y l := by
  rcases Nat.eq_zero_or_pos l.length with q | q
  . obtain rfl := List.eq_nil_of_length_eq_zero q
    exact rd_empty h
  . exact h.keep fun g hg hlt => T.block g hlt (hne q g hg)
end Go.Proofs.YtjalknpeecgllaaGreatDoor
namespace Go.Proofs.YtjalknpeecgllaaGreatDoor
open Go.ChangeShapes Go.WideShapes Go.ChangeAt Go.RowKit
open DM
theorem mem_edit {w W1 W2 : World} {d : Nat} {S : DS} {sv fv lv v u : Value} {t : Bool} {X Y : List Nat} (h : Mem w d S sv fv lv t) (o1 : Own W1 0 v X) (g1 : w.grownBy W1 sv.ownBlock) (k1 : v.ownBlock = sv.ownBlock \/ v.ownBlock = some w.heap.size) (o2 : Own W2 0 u Y) (g2 : W1.grownBy W2 fv.ownBlock) (k2 : u.ownBlock = fv.ownBlock \/ u.ownBlock = some W1.heap.size) :
    Mem ((W2.setCell ⟨d, 1, none⟩ v).setCell ⟨d, 2, none⟩ u) d { S with seen := X, safe := Y } v u lv t /\ Move w (Blks d sv fv lv) ((W2.setCell ⟨d, 1, none⟩ v).setCell ⟨d, 2, none⟩ u) (Blks d v u lv) := by
  have hl := h.lt
  have hd := hl d (.inl rfl)
  have hs1 := g1.size
  have n1 := newer k1
  have n2 := newer k2
  have vd : v.ownBlock ≠ some d := fun q => (n1 d q).elim h.ns (by omega)
  have ud : u.ownBlock ≠ some d := fun q => (n2 d q).elim h.nf (by omega)
  have vf : v.ownBlock = none \/ v.ownBlock ≠ fv.ownBlock := by
    cases e : v.ownBlock with
    | none => exact .inl rfl
    | some g =>
      refine .inr (fun q => ?_)
      rcases n1 g e with z | z
      . exact h.sf g z q.symm
      . have := hl g (.inr (.inr (.inl q.symm))); omega
  have ls : lv.ownBlock = none \/ lv.ownBlock ≠ sv.ownBlock := by
    cases e : lv.ownBlock with
    | none => exact .inl rfl
    | some g => exact .inr (fun q => h.sl g q.symm e)
  have lf : lv.ownBlock = none \/ lv.ownBlock ≠ fv.ownBlock := by
    cases e : lv.ownBlock with
    | none => exact .inl rfl
    | some g => exact .inr (fun q => h.fl g q.symm e)
  have c1 := grownBy_cell W2 d 1 v
  have c2 := grownBy_cell (W2.setCell ⟨d, 1, none⟩ v) d 2 u
  have hv := fun g (q : v.ownBlock = some g) => (o1.from g q).2
  refine gone_of h (((Turn.of_row g1 (fun j e => .inr (.inl e))).trans (Turn.of_row (F := Blks d sv fv lv) g2 (fun j e => .inr (.inr (.inl e)))) (fun _ q => .inl q)).trans (Turn.of_grown (F := Blks d sv fv lv) (only_trans c1 c2) (.inl rfl)) (fun _ q => .inl q))
    (((((h.blk.grown g1 (fun e => h.ns e.symm)).grown g2 (fun e => h.nf e.symm)).set 1 v).set 2 u)) (((o1.keep g2 vf).keep c1 (.inr vd)).keep c2 (.inr vd)) ((o2.keep c1 (.inr ud)).keep c2 (.inr ud)) (World.ownsRow.kept (World.ownsRow.kept (World.ownsRow.kept (World.ownsRow.kept h.loose g1 ls) g2 lf) c1 (.inr h.nl)) c2 (.inr h.nl)) h.tl
    n1 (fun g e => (n2 g e).imp id (fun q => by omega)) (fun g e => .inl e) (fun g hg e q => ?_) (fun g hg e q => ?_) (fun g hg e q => ?_)
  . rcases n2 g q with z | z
    . have := hl g (.inr (.inr (.inl z))); omega
    . have := hv g e; omega
  . have := hl g (.inr (.inr (.inr q))); omega
  . have := hl g (.inr (.inr (.inr q))); omega
def E4 (c1 c2 : Nat) (w0 : World) (P1 : Value -> World -> Prop) (P2 : Value -> Value -> World -> Prop) (d : Nat) : Nat -> Told -> World -> Prop
  | 0, _, w => w = w0
  | 1, r, w => ∃ v, r c1 = some v /\ P1 v w
  | 2, r, w => ∃ v u, r c1 = some v /\ r c2 = some u /\ P2 v u w
  | 3, r, w => ∃ v u W, r c1 = some v /\ r c2 = some u /\ P2 v u W /\ w = W.setCell ⟨d, 1, none⟩ v
  | _, _, w => ∃ v u W, P2 v u W /\ w = (W.setCell ⟨d, 1, none⟩ v).setCell ⟨d, 2, none⟩ u
set_option maxRecDepth 100000 in
set_option maxHeartbeats 2000000 in
theorem pdedit_any (w : World) (d : Nat) (S : DS) (sv fv lv : Value) (t : Bool) (h : Mem w d S sv fv lv t) (hi : Inv S) (hok : Ok S) (z : Int) (hz : -9223372036854775808 <= z /\ z <= 9223372036854775807) (v : Value) (l : List Nat) (hv : Rd w v l) (hl : l.length <= 16777216) (hne : 0 < l.length -> ∀ g, v.ownBlock = some g -> ¬ Blks d sv fv lv g) :
    Calls Tryz.prog 20 #[.pointer (some ⟨d, 0, none⟩), .int .i64 z, v] w fun e w' => e = .returned (.tuple #[]) /\ Gone w d sv fv lv (DM.edit S z l) w' := by
  obtain ⟨bo, bc, rfl, hbc⟩ := hv.shape
  obtain ⟨so, sc, rfl, hsc⟩ := h.seen.rd.shape
  obtain ⟨fo, fc, rfl, hfc⟩ := h.safe.rd.shape
  obtain ⟨sl, hsl⟩ : ∃ n, n = S.seen.length := ⟨_, rfl⟩
  obtain ⟨fl, hfl⟩ : ∃ n, n = S.safe.length := ⟨_, rfl⟩
  obtain ⟨bl, hbl⟩ : ∃ n, n = l.length := ⟨_, rfl⟩
  obtain ⟨mo, hmo⟩ : ∃ n, n = S.most := ⟨_, rfl⟩
  have hmost := hok.most
  have hseen := hok.seen
  have hshort := hi.short
  have c0 := h.c0
  have c1 := h.c1
  rw [<- hmo] at c0
  rw [<- hsl] at c1
  have HG := Lib.hid (Gone.same w d S (.slice so S.seen.length sc) (.slice fo S.safe.length fc) lv t h)
  have H := Lib.hid h
  have HV := Lib.hid hv
  have HNE := Lib.hid hne
  rw [<- hbl] at HNE HV
  rw [<- hsl, <- hfl] at HG H HNE
  have HMO := Lib.hid hmo
  have HSL := Lib.hid hsl
  have HFL := Lib.hid hfl
  have HBL := Lib.hid hbl
  have hmb : mo <= 16777216 := by omega
  have hsm : sl <= mo := by omega
  have hfs : fl <= sl := by omega
  have hbb : bl <= 16777216 := by omega
  have HDM := Lib.hid (show DM.edit S z l = if z < 0 \/ (sl : Int) < z \/ (mo : Int) - z < (bl : Int) then S else { S with seen := laid S.seen z.toNat l, safe := laid S.safe z.toNat l } by rw [hsl, hmo, hbl]; rfl)
  rw [HDM.out]
  rw [<- hbl, <- hsl, <- hfl]
  clear h hv hne hi hok hmo hsl hfl hbl hl hmost hseen hshort hbc hsc hfc
  by_cases h1 : z < 0
  . have HE := Lib.hid (show (if z < 0 \/ (sl : Int) < z \/ (mo : Int) - z < (bl : Int) then S else { S with seen := laid S.seen z.toNat l, safe := laid S.safe z.toNat l }) = S by rw [if_pos (.inl h1)])
    rw [HE.out]
    go_enter Tryz.func20, Tryz.ntmps20
    go_wp2_with fail
    exact bodyPost_ret (results_none rfl _ _ _) rfl ⟨rfl, HG.out⟩
  . by_cases h2 : (sl : Int) < z
    . have HE := Lib.hid (show (if z < 0 \/ (sl : Int) < z \/ (mo : Int) - z < (bl : Int) then S else { S with seen := laid S.seen z.toNat l, safe := laid S.safe z.toNat l }) = S by rw [if_pos (.inr (.inl h2))])
      rw [HE.out]
      go_enter Tryz.func20, Tryz.ntmps20
      go_wp2_with fail
      exact bodyPost_ret (results_none rfl _ _ _) rfl ⟨rfl, HG.out⟩
    . have hw : IntKind.i64.wrap ((mo : Int) - z) = (mo : Int) - z := by rw [IntKind.wrap_i64]; omega
      by_cases h3 : (mo : Int) - z < (bl : Int)
      . have HE := Lib.hid (show (if z < 0 \/ (sl : Int) < z \/ (mo : Int) - z < (bl : Int) then S else { S with seen := laid S.seen z.toNat l, safe := laid S.safe z.toNat l }) = S by rw [if_pos (.inr (.inr h3))])
        rw [HE.out]
        go_enter Tryz.func20, Tryz.ntmps20
        go_wp2_with fail
        exact bodyPost_ret (results_none rfl _ _ _) rfl ⟨rfl, HG.out⟩
      . have HE := Lib.hid (show (if z < 0 \/ (sl : Int) < z \/ (mo : Int) - z < (bl : Int) then S else { S with seen := laid S.seen z.toNat l, safe := laid S.safe z.toNat l }) = { S with seen := laid S.seen z.toNat l, safe := laid S.safe z.toNat l } by rw [if_neg (by omega)])
        rw [HE.out]
        obtain ⟨p, rfl⟩ : ∃ p : Nat, z = (p : Int) := ⟨z.toNat, by omega⟩
        by_cases hb0 : bl = 0
        . have HN := Lib.hid (show ({ S with seen := laid S.seen (p : Int).toNat l, safe := laid S.safe (p : Int).toNat l } : DS) = S by
            have : l = [] := List.eq_nil_of_length_eq_zero (by rw [<- HBL.out]; exact hb0)
            subst this; rw [laid_nil, laid_nil])
          rw [HN.out]
          have hbz : ((bl : Int) == 0) = true := by rw [hb0]; rfl
          go_enter Tryz.func20, Tryz.ntmps20
          go_wp2_with fail
          exact bodyPost_ret (results_none rfl _ _ _) rfl ⟨rfl, HG.out⟩
        . have HB0 := Lib.hid hb0
          have hbz : ((bl : Int) == 0) = false := by rw [beq_eq_false_iff_ne]; omega
          have hbz2 : ¬ ((bl : Int) = 0) := by omega
          have hbz3 : ¬ (bl = 0) := hb0
          have hab : p <= 16777216 := by omega
          clear hb0
          go_enter Tryz.func20, Tryz.ntmps20
          go_upto_region 2 with fail
          obtain ⟨w1, hw1⟩ : ∃ w1, w1 = w.drew := ⟨_, rfl⟩
          have HW1 := Lib.hid hw1
          have HM := Lib.hid (show Mem w1 d S (.slice so sl sc) (.slice fo fl fc) lv t by rw [hw1]; exact H.out.below (Below.refl _ _).drew)
          have V1 := Lib.hid (show Move w (Blks d (.slice so sl sc) (.slice fo fl fc) lv) w1 (Blks d (.slice so sl sc) (.slice fo fl fc) lv) by rw [hw1]; exact Move.below (Below.refl _ _).drew)
          have HV1 := Lib.hid (show Rd w1 (.slice bo bl bc) l by rw [hw1]; exact HV.out.below (Below.refl _ _).drew)
          clear hw1
          have HL1 := Lib.hid (play_any 0 (.slice so sl sc) S.seen p (.slice bo bl bc) l w1 HM.out.seen HV1.out (fun hp g e q => HNE.out (by rw [HBL.out]; exact hp) g e (.inr (.inl q))) (Nat.zero_le _) hab (by rw [<- HBL.out]; exact hbb) (by rw [<- HSL.out]; omega))
          have HL2 := Lib.hid (fun (W : World) (g : w1.grownBy W (Value.slice so sl sc).ownBlock) => play_any 0 (.slice fo fl fc) S.safe p (.slice bo bl bc) l W (HM.out.safe.keep g (by
            cases e : (Value.slice fo fl fc).ownBlock with
            | none => exact .inl rfl
            | some j => exact .inr (fun q => HM.out.sf j q.symm e))) (HV1.out.turned g (fun hp j e q => HNE.out (by rw [HBL.out]; exact hp) j e (.inr (.inl q)))) (fun hp g e q => HNE.out (by rw [HBL.out]; exact hp) g e (.inr (.inr (.inl q)))) (Nat.zero_le _) hab (by rw [<- HBL.out]; exact hbb) (by rw [<- HFL.out]; omega))
          refine wp_region_z (by kernel_rfl) [8, 15, 18, 21] (by kernel_rfl) (by kernel_rfl) (Stg [8, 15, 18, 21] (E4 8 15 w1 (fun v W => Own W 0 v (lay S.seen p l) /\ w1.grownBy W (Value.slice so sl sc).ownBlock /\ (v.ownBlock = (Value.slice so sl sc).ownBlock \/ v.ownBlock = some w1.heap.size)) (fun v u W => ∃ W1, Own W1 0 v (lay S.seen p l) /\ w1.grownBy W1 (Value.slice so sl sc).ownBlock /\ (v.ownBlock = (Value.slice so sl sc).ownBlock \/ v.ownBlock = some w1.heap.size) /\ Own W 0 u (lay S.safe p l) /\ W1.grownBy W (Value.slice fo fl fc).ownBlock /\ (u.ownBlock = (Value.slice fo fl fc).ownBlock \/ u.ownBlock = some W1.heap.size)) d)) [.pre (.pointer (some ⟨d, 0, none⟩)), .pre (.pointer (some ⟨d, 0, none⟩)), .pre (.pointer (some ⟨d, 0, none⟩)), .pre (.pointer (some ⟨d, 0, none⟩)), .pre (.pointer (some ⟨d, 1, none⟩)), .pre (.slice so sl sc), .pre (.int .i64 (p : Int)), .pre (.slice bo bl bc), .of 8 (fun u v => v = u), .pre (.pointer (some ⟨d, 0, none⟩)), .pre (.pointer (some ⟨d, 0, none⟩)), .pre (.pointer (some ⟨d, 2, none⟩)), .pre (.slice fo fl fc), .pre (.int .i64 (p : Int)), .pre (.slice bo bl bc), .of 15 (fun u v => v = u), .pre (.pointer (some ⟨d, 0, none⟩)), .pre (.pointer (some ⟨d, 1, none⟩)), .any, .pre (.pointer (some ⟨d, 0, none⟩)), .pre (.pointer (some ⟨d, 2, none⟩)), .any] (fun i hi hq => by
                      simp only [List.mem_cons, List.mem_nil_iff, or_false] at hi
                      rcases hi with rfl | rfl | rfl | rfl
                      . exact absurd hq (by decide +kernel)
                      . exact absurd hq (by decide +kernel)
                      . rfl
                      . rfl) (Stg.zero (show _ = w1 from HW1.out.symm)) ?_ ?_
          . refine ⟨?_, ?_, ?_, ?_, ?_, ?_, ?_, ?_, ?_, ?_, ?_, ?_, ?_, ?_, ?_, ?_, ?_, ?_, ?_, ?_, ?_, ?_, trivial⟩
            . intro a w5 r hF hI hns hri h1 h2 hd
              have e0 : a.eval (.tmp 0) = .pointer (some ⟨d, 0, none⟩) := hF 0 (by decide +kernel)
              exact doesZ_read (v := .pointer (some ⟨d, 0, none⟩)) (by decide) rfl (ex_move rfl e0) hI rfl
            . intro a w5 r hF hI hns hri h1 h2 hd
              have e0 : a.eval (.tmp 0) = .pointer (some ⟨d, 0, none⟩) := hF 0 (by decide +kernel)
              exact doesZ_read (v := .pointer (some ⟨d, 0, none⟩)) (by decide) rfl (ex_move rfl e0) hI rfl
            . intro a w5 r hF hI hns hri h1 h2 hd
              have e0 : a.eval (.tmp 0) = .pointer (some ⟨d, 0, none⟩) := hF 0 (by decide +kernel)
              exact doesZ_read (v := .pointer (some ⟨d, 0, none⟩)) (by decide) rfl (ex_move rfl e0) hI rfl
            . intro a w5 r hF hI hns hri h1 h2 hd
              have e37 : a.eval (.tmp 37) = .pointer (some ⟨d, 0, none⟩) := hd 2 (by decide +kernel)
              exact doesZ_read (v := .pointer (some ⟨d, 0, none⟩)) (by decide) rfl (ex_nilCheck rfl e37) hI rfl
            . intro a w5 r hF hI hns hri h1 h2 hd
              have e38 : a.eval (.tmp 38) = .pointer (some ⟨d, 0, none⟩) := hd 3 (by decide +kernel)
              exact doesZ_read (v := .pointer (some ⟨d, 1, none⟩)) (by decide) rfl (ex_fieldAddr rfl e38 (by go_simp)) hI rfl
            . intro a w5 r hF hI hns hri h1 h2 hd
              have e39 : a.eval (.tmp 39) = .pointer (some ⟨d, 1, none⟩) := hd 4 (by decide +kernel)
              have hA : E4 8 15 w1 (fun v W => Own W 0 v (lay S.seen p l) /\ w1.grownBy W (Value.slice so sl sc).ownBlock /\ (v.ownBlock = (Value.slice so sl sc).ownBlock \/ v.ownBlock = some w1.heap.size)) (fun v u W => ∃ W1, Own W1 0 v (lay S.seen p l) /\ w1.grownBy W1 (Value.slice so sl sc).ownBlock /\ (v.ownBlock = (Value.slice so sl sc).ownBlock \/ v.ownBlock = some w1.heap.size) /\ Own W 0 u (lay S.safe p l) /\ W1.grownBy W (Value.slice fo fl fc).ownBlock /\ (u.ownBlock = (Value.slice fo fl fc).ownBlock \/ u.ownBlock = some W1.heap.size)) d 0 r w5 := hI.at_ 0 (.inl rfl) (.inr ⟨by decide, h1 8 (by decide) (by decide +kernel)⟩)
              have hw : w5 = w1 := hA
              subst hw
              have c1 := HM.out.c1
              exact doesZ_read (v := .slice so sl sc) (by decide) rfl (by unfold execOp; simp only [e39]; go_simp) hI rfl
            . intro a w5 r hF hI hns hri h1 h2 hd
              have e1 : a.eval (.tmp 1) = .int .i64 (p : Int) := hF 1 (by decide +kernel)
              exact doesZ_read (v := .int .i64 (p : Int)) (by decide) rfl (ex_move rfl e1) hI rfl
            . intro a w5 r hF hI hns hri h1 h2 hd
              have e2 : a.eval (.tmp 2) = .slice bo bl bc := hF 2 (by decide +kernel)
              exact doesZ_read (v := .slice bo bl bc) (by decide) rfl (ex_move rfl e2) hI rfl
            . intro a w5 r hF hI hns hri h1 h2 hd
              have e40 : a.eval (.tmp 40) = .slice so sl sc := hd 5 (by decide +kernel)
              have e41 : a.eval (.tmp 41) = .int .i64 (p : Int) := hd 6 (by decide +kernel)
              have e42 : a.eval (.tmp 42) = .slice bo bl bc := hd 7 (by decide +kernel)
              have hA : E4 8 15 w1 (fun v W => Own W 0 v (lay S.seen p l) /\ w1.grownBy W (Value.slice so sl sc).ownBlock /\ (v.ownBlock = (Value.slice so sl sc).ownBlock \/ v.ownBlock = some w1.heap.size)) (fun v u W => ∃ W1, Own W1 0 v (lay S.seen p l) /\ w1.grownBy W1 (Value.slice so sl sc).ownBlock /\ (v.ownBlock = (Value.slice so sl sc).ownBlock \/ v.ownBlock = some w1.heap.size) /\ Own W 0 u (lay S.safe p l) /\ W1.grownBy W (Value.slice fo fl fc).ownBlock /\ (u.ownBlock = (Value.slice fo fl fc).ownBlock \/ u.ownBlock = some W1.heap.size)) d 0 r w5 := hI.at_ 0 (.inl rfl) (.inr ⟨by decide, hri⟩)
              have hw : w5 = w1 := hA
              subst hw
              exact doesZ_call (by decide) rfl (ex_call (vs := #[.slice so sl sc, .int .i64 (p : Int), .slice bo bl bc]) rfl (by simp only [List.map_toArray, List.map_cons, List.map_nil, e40, e41, e42]) (by go_simp)) (HL1.out.mono fun e w6 hh => by obtain ⟨v, he, hl⟩ := hh; exact ⟨v, he, hI.next 0 8 v rfl (by decide) (.inl rfl) hri (by decide) (⟨v, Told.set_same _ _ _, hl⟩), v, Told.set_same _ _ _, rfl⟩)
            . intro a w5 r hF hI hns hri h1 h2 hd
              have e0 : a.eval (.tmp 0) = .pointer (some ⟨d, 0, none⟩) := hF 0 (by decide +kernel)
              exact doesZ_read (v := .pointer (some ⟨d, 0, none⟩)) (by decide) rfl (ex_move rfl e0) hI rfl
            . intro a w5 r hF hI hns hri h1 h2 hd
              have e44 : a.eval (.tmp 44) = .pointer (some ⟨d, 0, none⟩) := hd 9 (by decide +kernel)
              exact doesZ_read (v := .pointer (some ⟨d, 0, none⟩)) (by decide) rfl (ex_nilCheck rfl e44) hI rfl
            . intro a w5 r hF hI hns hri h1 h2 hd
              have e45 : a.eval (.tmp 45) = .pointer (some ⟨d, 0, none⟩) := hd 10 (by decide +kernel)
              exact doesZ_read (v := .pointer (some ⟨d, 2, none⟩)) (by decide) rfl (ex_fieldAddr rfl e45 (by go_simp)) hI rfl
            . intro a w5 r hF hI hns hri h1 h2 hd
              have e46 : a.eval (.tmp 46) = .pointer (some ⟨d, 2, none⟩) := hd 11 (by decide +kernel)
              obtain ⟨k, hk1, hk2, hA⟩ : ∃ k, 0 <= k /\ k <= 1 /\ E4 8 15 w1 (fun v W => Own W 0 v (lay S.seen p l) /\ w1.grownBy W (Value.slice so sl sc).ownBlock /\ (v.ownBlock = (Value.slice so sl sc).ownBlock \/ v.ownBlock = some w1.heap.size)) (fun v u W => ∃ W1, Own W1 0 v (lay S.seen p l) /\ w1.grownBy W1 (Value.slice so sl sc).ownBlock /\ (v.ownBlock = (Value.slice so sl sc).ownBlock \/ v.ownBlock = some w1.heap.size) /\ Own W 0 u (lay S.safe p l) /\ W1.grownBy W (Value.slice fo fl fc).ownBlock /\ (u.ownBlock = (Value.slice fo fl fc).ownBlock \/ u.ownBlock = some W1.heap.size)) d k r w5 := hI.between 0 1 (.inl rfl) (.inr ⟨by decide, h1 15 (by decide) (by decide +kernel)⟩)
              have c2 : w5.cell? ⟨d, 2, none⟩ = some (.slice fo fl fc) := by
                rcases (show k = 0 \/ k = 1 by omega) with rfl | rfl
                . have hw : w5 = w1 := hA
                  rw [hw]; exact HM.out.c2
                . obtain ⟨_, _, _, hg, _⟩ := hA
                  exact (HM.out.blk.grown hg (fun e => HM.out.ns e.symm)).cell 2 _ rfl
              exact doesZ_read (v := .slice fo fl fc) (by decide) rfl (by unfold execOp; simp only [e46]; go_simp) hI rfl
            . intro a w5 r hF hI hns hri h1 h2 hd
              have e1 : a.eval (.tmp 1) = .int .i64 (p : Int) := hF 1 (by decide +kernel)
              exact doesZ_read (v := .int .i64 (p : Int)) (by decide) rfl (ex_move rfl e1) hI rfl
            . intro a w5 r hF hI hns hri h1 h2 hd
              have e2 : a.eval (.tmp 2) = .slice bo bl bc := hF 2 (by decide +kernel)
              exact doesZ_read (v := .slice bo bl bc) (by decide) rfl (ex_move rfl e2) hI rfl
            . intro a w5 r hF hI hns hri h1 h2 hd
              have e47 : a.eval (.tmp 47) = .slice fo fl fc := hd 12 (by decide +kernel)
              have e48 : a.eval (.tmp 48) = .int .i64 (p : Int) := hd 13 (by decide +kernel)
              have e49 : a.eval (.tmp 49) = .slice bo bl bc := hd 14 (by decide +kernel)
              have hA : E4 8 15 w1 (fun v W => Own W 0 v (lay S.seen p l) /\ w1.grownBy W (Value.slice so sl sc).ownBlock /\ (v.ownBlock = (Value.slice so sl sc).ownBlock \/ v.ownBlock = some w1.heap.size)) (fun v u W => ∃ W1, Own W1 0 v (lay S.seen p l) /\ w1.grownBy W1 (Value.slice so sl sc).ownBlock /\ (v.ownBlock = (Value.slice so sl sc).ownBlock \/ v.ownBlock = some w1.heap.size) /\ Own W 0 u (lay S.safe p l) /\ W1.grownBy W (Value.slice fo fl fc).ownBlock /\ (u.ownBlock = (Value.slice fo fl fc).ownBlock \/ u.ownBlock = some W1.heap.size)) d 1 r w5 := hI.at_ 1 (.inr ⟨by decide, h2 8 (by decide) (by decide +kernel)⟩) (.inr ⟨by decide, hri⟩)
              obtain ⟨v0, hv0, ho1, hg1, hk1⟩ := hA
              exact doesZ_call (by decide) rfl (ex_call (vs := #[.slice fo fl fc, .int .i64 (p : Int), .slice bo bl bc]) rfl (by simp only [List.map_toArray, List.map_cons, List.map_nil, e47, e48, e49]) (by go_simp)) ((HL2.out w5 hg1).mono fun e w6 hh => by obtain ⟨v, he, hl⟩ := hh; exact ⟨v, he, hI.next 1 15 v rfl (by decide) (.inr ⟨by decide, h2 8 (by decide) (by decide +kernel)⟩) hri (by decide) (⟨v0, v, (Told.set_ne (by decide)).trans hv0, Told.set_same _ _ _, w5, ho1, hg1, hk1, hl⟩), v, Told.set_same _ _ _, rfl⟩)
            . intro a w5 r hF hI hns hri h1 h2 hd
              have e35 : a.eval (.tmp 35) = .pointer (some ⟨d, 0, none⟩) := hd 0 (by decide +kernel)
              exact doesZ_read (v := .pointer (some ⟨d, 0, none⟩)) (by decide) rfl (ex_nilCheck rfl e35) hI rfl
            . intro a w5 r hF hI hns hri h1 h2 hd
              have e51 : a.eval (.tmp 51) = .pointer (some ⟨d, 0, none⟩) := hd 16 (by decide +kernel)
              exact doesZ_read (v := .pointer (some ⟨d, 1, none⟩)) (by decide) rfl (ex_fieldAddr rfl e51 (by go_simp)) hI rfl
            . intro a w5 r hF hI hns hri h1 h2 hd
              have e52 : a.eval (.tmp 52) = .pointer (some ⟨d, 1, none⟩) := hd 17 (by decide +kernel)
              obtain ⟨u43, hu43, e43⟩ : ∃ u, r 8 = some u /\ a.eval (.tmp 43) = u := hd 8 (by decide +kernel)
              have hA : E4 8 15 w1 (fun v W => Own W 0 v (lay S.seen p l) /\ w1.grownBy W (Value.slice so sl sc).ownBlock /\ (v.ownBlock = (Value.slice so sl sc).ownBlock \/ v.ownBlock = some w1.heap.size)) (fun v u W => ∃ W1, Own W1 0 v (lay S.seen p l) /\ w1.grownBy W1 (Value.slice so sl sc).ownBlock /\ (v.ownBlock = (Value.slice so sl sc).ownBlock \/ v.ownBlock = some w1.heap.size) /\ Own W 0 u (lay S.safe p l) /\ W1.grownBy W (Value.slice fo fl fc).ownBlock /\ (u.ownBlock = (Value.slice fo fl fc).ownBlock \/ u.ownBlock = some W1.heap.size)) d 2 r w5 := hI.at_ 2 (.inr ⟨by decide, h2 15 (by decide) (by decide +kernel)⟩) (.inr ⟨by decide, hri⟩)
              obtain ⟨v0, u0, hv0, hu0, hP⟩ := hA
              obtain rfl : v0 = u43 := Option.some.inj (hv0.symm.trans hu43)
              have hP2 := hP
              obtain ⟨W1, ho1, hg1, hk1, ho2, hg2, hk2⟩ := hP
              obtain ⟨va, vc, rfl, _⟩ := ho1.rd.shape
              have hb := (HM.out.blk.grown hg1 (fun e => HM.out.ns e.symm)).grown hg2 (fun e => HM.out.nf e.symm)
              exact doesZ_store (by decide) rfl 46 (.tmp 52) (.tmp 43) rfl d 1 e52 (.slice va _ vc) e43 rfl rfl 97 (_) hb (show 1 < 9 by omega) (by kernel_rfl) rfl (fun v => hI.next 2 18 v rfl (by decide) (.inr ⟨by decide, h2 15 (by decide) (by decide +kernel)⟩) hri (by decide) (⟨_, u0, w5, (Told.set_ne (by decide)).trans hv0, (Told.set_ne (by decide)).trans hu0, hP2, rfl⟩))
            . intro a w5 r hF hI hns hri h1 h2 hd
              have e36 : a.eval (.tmp 36) = .pointer (some ⟨d, 0, none⟩) := hd 1 (by decide +kernel)
              exact doesZ_read (v := .pointer (some ⟨d, 0, none⟩)) (by decide) rfl (ex_nilCheck rfl e36) hI rfl
            . intro a w5 r hF hI hns hri h1 h2 hd
              have e53 : a.eval (.tmp 53) = .pointer (some ⟨d, 0, none⟩) := hd 19 (by decide +kernel)
              exact doesZ_read (v := .pointer (some ⟨d, 2, none⟩)) (by decide) rfl (ex_fieldAddr rfl e53 (by go_simp)) hI rfl
            . intro a w5 r hF hI hns hri h1 h2 hd
              have e54 : a.eval (.tmp 54) = .pointer (some ⟨d, 2, none⟩) := hd 20 (by decide +kernel)
              obtain ⟨u50, hu50, e50⟩ : ∃ u, r 15 = some u /\ a.eval (.tmp 50) = u := hd 15 (by decide +kernel)
              have hA : E4 8 15 w1 (fun v W => Own W 0 v (lay S.seen p l) /\ w1.grownBy W (Value.slice so sl sc).ownBlock /\ (v.ownBlock = (Value.slice so sl sc).ownBlock \/ v.ownBlock = some w1.heap.size)) (fun v u W => ∃ W1, Own W1 0 v (lay S.seen p l) /\ w1.grownBy W1 (Value.slice so sl sc).ownBlock /\ (v.ownBlock = (Value.slice so sl sc).ownBlock \/ v.ownBlock = some w1.heap.size) /\ Own W 0 u (lay S.safe p l) /\ W1.grownBy W (Value.slice fo fl fc).ownBlock /\ (u.ownBlock = (Value.slice fo fl fc).ownBlock \/ u.ownBlock = some W1.heap.size)) d 3 r w5 := hI.at_ 3 (.inr ⟨by decide, h2 18 (by decide) (by decide +kernel)⟩) (.inr ⟨by decide, hri⟩)
              obtain ⟨v0, u0, W, hv0, hu0, hP, hw⟩ := hA
              obtain rfl : u0 = u50 := Option.some.inj (hu0.symm.trans hu50)
              have hP2 := hP
              obtain ⟨W1, ho1, hg1, hk1, ho2, hg2, hk2⟩ := hP
              obtain ⟨va, vc, rfl, _⟩ := ho2.rd.shape
              have hb := ((HM.out.blk.grown hg1 (fun e => HM.out.ns e.symm)).grown hg2 (fun e => HM.out.nf e.symm)).set 1 v0
              subst hw
              exact doesZ_store (by decide) rfl 46 (.tmp 54) (.tmp 50) rfl d 2 e54 (.slice va _ vc) e50 rfl rfl 97 (_) hb (show 2 < 9 by omega) (by kernel_rfl) rfl (fun v => hI.next 3 21 v rfl (by decide) (.inr ⟨by decide, h2 18 (by decide) (by decide +kernel)⟩) hri (by decide) (⟨v0, _, W, hP2, rfl⟩))
          . intro vs r w5 hI hS hv
            obtain ⟨v, u, W, ⟨W1, o1, g1, k1, o2, g2, k2⟩, hw5⟩ := hI.at_ 4 (.inr ⟨by decide, hS 21 (by decide)⟩) (.inl rfl)
            have m1 := mem_edit HM.out o1 g1 k1 o2 g2 k2
            have hln : l ≠ [] := fun e => HB0.out (by rw [HBL.out, e]; rfl)
            rw [<- hw5, lay_laid _ _ _ hln, lay_laid _ _ _ hln] at m1
            have GG := Lib.hid (show Gone w d (.slice so sl sc) (.slice fo fl fc) lv { S with seen := laid S.seen (p : Int).toNat l, safe := laid S.safe (p : Int).toNat l } w5 from ⟨_, _, _, _, m1.1, V1.out.trans m1.2⟩)
            clear hI hS hv o1 g1 k1 o2 g2 k2 hw5 m1
            simp only [putOps, Act.put, List.setIfInBounds_toArray, List.set_cons_zero, List.set_cons_succ]
            go_wp2_with fail
            exact bodyPost_end (results_none rfl _ _ _) rfl ⟨rfl, GG.out⟩
end Go.Proofs.YtjalknpeecgllaaGreatDoor
end

section
namespace Go.Proofs.YtjalknpeecgllaaGreatDoor
open Go.RowKit
variable {P : Program} {r n : Nat} {Q : Exit -> Act -> World -> Prop}
abbrev roundF (r : Nat) : Fence := Fence.wide.inRound r
theorem rowsIn_round {row : String} {args : Array Value} {w : World} {R : Value -> World -> Prop} (h : Rows P row args w R) : RowsIn (roundF r) n P row args w R := fun c cs _ => by
  obtain ⟨v, w', hr, hs⟩ := h c cs
  exact ⟨v, w', hr, stepsIn_wide.2 hs⟩
theorem callsIn_round {f : FuncId} {args : Array Value} {w : World} {R : Ending -> World -> Prop} (h : Calls P f args w R) : CallsIn (roundF r) n P f args w R := CallsIn.inRound r (callsIn_wide.2 h)
theorem opIn_round {o : Oper} {a : Act} {w : World} {K : Act -> World -> Prop} (hd : ∀ c, o.op ≠ .defer c) (h : o.wp P a w K Q) : o.wpIn (roundF r) n P a w K Q := by
  refine ⟨fun _ _ => trivial, ?_⟩
  rw [Oper.semAt_eq _ _ _ hd]
  unfold Oper.wp at h
  generalize (execOp a.eval o).run P w = x at h ⊢
  cases x with
  | ok y w' =>
    cases y with
    | value v => exact h
    | skip => exact h
    | defer d => exact h
    | enter f args => exact ⟨fun e => absurd e (by simp [Fence.wide]), callsIn_round h⟩
    | row row args => exact ⟨fun e => absurd e (by simp [Fence.wide]), rowsIn_round h⟩
    | _ => exact h.elim
  | halt y w' => cases y <;> exact h
def noDeferB (ops : Array Oper) : Bool := ops.all fun o => match o.op with | .defer _ => false | _ => true
theorem noDefer {ops : Array Oper} (h : noDeferB ops = true) {i : Nat} {o : Oper} (ho : ops[i]? = some o) : ∀ c, o.op ≠ .defer c := by
  intro c e
  unfold noDeferB at h
  rw [Array.all_eq_true] at h
  obtain ⟨hi, e2⟩ := Array.getElem?_eq_some_iff.1 ho
  have := h i hi
  rw [e2, e] at this
  cases this
theorem anyIn_round {ops : Array Oper} (hd : noDeferB ops = true) (hq : ¬ LetsOut Q) : ∀ (k : Nat) (l : Array Bool) (a : Act) (w : World), wpAny P .any ops Q k l a w -> wpAnyIn (roundF r) n P .any ops Q k l a w := by
  intro k
  induction k with
  | zero => intro l a w h; exact h
  | succ k ih =>
    intro l a w h
    refine ⟨h.1, fun i hi => ?_⟩
    have hx := h.2 i hi
    unfold wpOp at hx
    unfold wpOpIn
    cases ho : ops[i]? with
    | none => rw [ho] at hx; exact ih _ _ _ hx
    | some o =>
      rw [ho] at hx
      simp only at hx ⊢
      split
      . rename_i hw
        rw [if_pos hw] at hx
        rcases hx with q | ⟨_, q⟩
        . exact opIn_round (noDefer hd ho) (Oper.wp_mono (fun a w => ih _ a w) q)
        . exact absurd q hq
      . rename_i hw
        rw [if_neg hw] at hx
        exact ⟨fun _ _ => trivial, ih _ _ _ hx⟩
theorem wpIn_region_round {id : Nat} {ops : Array Oper} {a : Act} {w : World} (hm : P.follows .mixedOrders = true) (hd : noDeferB ops = true) (hq : ¬ LetsOut Q) (h : RegAny P ops Q a w) : (Code.region id ops true).wpIn (roundF r) n P Q a w :=
  wpIn_region_draw fun t => by
    simp only [Region.schedule, hm, Bool.true_or, if_true]
    exact wpAnyIn_sound ops.size t _ a _ (anyIn_round hd hq _ _ _ _ h)
theorem opsIn_round {ops : Array Oper} (hd : noDeferB ops = true) (hq : ¬ LetsOut Q) : ∀ (l : List Nat) (a : Act) (w : World), wpOps P ops Q l a w -> wpOpsIn (roundF r) n P ops Q l a w
  | [], _, _, h => h
  | i :: l, a, w, h => by
    rw [wpOps_cons] at h
    rw [wpOpsIn_cons]
    unfold wpOp at h
    unfold wpOpIn
    cases ho : ops[i]? with
    | none => rw [ho] at h; exact opsIn_round hd hq l _ _ h
    | some o =>
      rw [ho] at h
      simp only at h ⊢
      split
      . rename_i hw
        rw [if_pos hw] at h
        rcases h with q | ⟨_, q⟩
        . exact opIn_round (noDefer hd ho) (Oper.wp_mono (fun a w => opsIn_round hd hq l a w) q)
        . exact absurd q hq
      . rename_i hw
        rw [if_neg hw] at h
        exact ⟨fun _ _ => trivial, opsIn_round hd hq l _ _ h⟩
theorem wpIn_list_round {id : Nat} {ops : Array Oper} {a : Act} {w : World} (hd : noDeferB ops = true) (hq : ¬ LetsOut Q) (h : wpList P ops Q ops.toList a w) : (Code.region id ops false).wpIn (roundF r) n P Q a w :=
  wpIn_region (opsIn_round hd hq _ _ _ (by rw [List.range_eq_range', <- Array.length_toList, wpOps_eq_wpList ops.toList 0 (by simp)]; exact h))
end Go.Proofs.YtjalknpeecgllaaGreatDoor
namespace Go.Proofs.YtjalknpeecgllaaGreatDoor
open Go.RowKit
variable {P : Program}
def Lasts (B : Nat) (I : World -> Prop) : Prop := ∀ A A', I A -> (∃ row, A.grownBy A' row /\ ∀ r, row = some r -> B <= r /\ ∃ o : Obj, A.heap[r]? = some o /\ o.isCells = false) -> I A'
theorem Lasts.put {B : Nat} {I : World -> Prop} (h : Lasts B I) {A : World} {l : Nat} {o : Obj} (o' : Obj) (hi : I A) (hB : B <= l) (hl : A.heap[l]? = some o) (ho : o.isCells = false) : I (A.putObj l o') :=
  h A _ hi ⟨some l, grownBy_putObj' A l o', fun r e => by cases e; exact ⟨hB, o, hl, ho⟩⟩
theorem Lasts.grow {B : Nat} {I : World -> Prop} (h : Lasts B I) {A A' : World} (hi : I A) (hb : Below A.heap.size A A') : I A' :=
  h A _ hi ⟨none, ⟨hb.os, hb.tape, hb.output, hb.size, fun k hk _ => hb.block k hk⟩, fun r e => by cases e⟩
theorem Lasts.ex {B : Nat} {α : Sort _} {I : α -> World -> Prop} (h : ∀ x, Lasts B (I x)) : Lasts B (fun w => ∃ x, I x w) := fun A A' ⟨x, hi⟩ hs => ⟨x, h x A A' hi hs⟩
theorem Lasts.pure {B : Nat} (p : Prop) : Lasts B (fun _ => p) := fun _ _ hi _ => hi
theorem lasts_cells {B g : Nat} {cur : Array Value} {t : TypeId} {k : Nat × Nat} : Lasts B (fun w => w.heap[g]? = some (.cells cur t k)) := by
  rintro A A' hi ⟨row, hg, hr⟩
  refine (hg.block g (Array.getElem?_eq_some_iff.1 hi).1 (fun e => ?_)).trans hi
  obtain ⟨_, o, ho, hc⟩ := hr g e.symm
  rw [hi] at ho; cases ho; cases hc
def RecAt (fn : FuncId) (a : Act) (ps : Array Tmp) (assign body : Code) (D : Nat) (st : LoopState) (pe : Option Code) (A : World) : Prop :=
  A.heap[D + 1]? = some (.loop { state := st, pending := pe, fn, tmps := a.tmps, params := ps, assign, body, defers := D }) /\ A.heap[D]? = some (.deferred (some []))
theorem RecAt.grow {fn : FuncId} {a : Act} {ps : Array Tmp} {assign body : Code} {D : Nat} {st : LoopState} {pe : Option Code} {A A' : World} (h : RecAt fn a ps assign body D st pe A) (hb : Below A.heap.size A A') : RecAt fn a ps assign body D st pe A' :=
  ⟨(hb.block _ (Array.getElem?_eq_some_iff.1 h.1).1).trans h.1, (hb.block _ (Array.getElem?_eq_some_iff.1 h.2).1).trans h.2⟩
theorem RecAt.keep {fn : FuncId} {a : Act} {ps : Array Tmp} {assign body : Code} {D : Nat} {st : LoopState} {pe : Option Code} {A A' : World} (h : RecAt fn a ps assign body D st pe A) (hb : KeepsFrom D A A') : RecAt fn a ps assign body D st pe A' :=
  ⟨hb.same _ _ (by omega) h.1 rfl, hb.same _ _ (Nat.le_refl _) h.2 rfl⟩
theorem RecAt.put {fn : FuncId} {a : Act} {ps : Array Tmp} {assign body : Code} {D : Nat} {st st' : LoopState} {pe pe' : Option Code} {A : World} (h : RecAt fn a ps assign body D st pe A) :
    RecAt fn a ps assign body D st' pe' (A.putObj (D + 1) (.loop { state := st', pending := pe', fn, tmps := a.tmps, params := ps, assign, body, defers := D })) :=
  ⟨World.putObj_heap_same (Array.getElem?_eq_some_iff.1 h.1).1, (World.putObj_heap_other (by omega)).trans h.2⟩
def endPost {α : Type} (D : Nat) (I : List α -> World -> Prop) (Ix : Code -> List α -> World -> Prop) (xs : List α) (W : World) : Exit -> Act -> World -> Prop
  | .normal, _, W' => KeepsFrom D W W' /\ I xs W'
  | .ret, _, W' => KeepsFrom D W W' /\ Ix .ret xs W'
  | .exit id, _, W' => KeepsFrom D W W' /\ Ix (.exit id) xs W'
  | .goto t, _, W' => KeepsFrom D W W' /\ Ix (.goto t) xs W'
  | .panic _, _, _ => False
  | .outgrown, _, _ => False
end Go.Proofs.YtjalknpeecgllaaGreatDoor
namespace Go.Proofs.YtjalknpeecgllaaGreatDoor
open Go.RowKit
variable {P : Program}
theorem wp_range_fn_ok {α : Type} {g : Operand} {ps : Array Tmp} {assign body : Code} {Q : Exit -> Act -> World -> Prop} {a : Act} {w : World} {gf : Nat} {lb : Array Value}
    (hg : a.eval g = .func (.func gf) #[] lb) (eg : ∀ args w, (callFunc gf args).run P w = .ok (.enter gf args) w) (encs : α -> Array Value) (hps : ∀ x, (encs x).size = ps.size)
    (I : List α -> World -> Prop) (Ix : Code -> List α -> World -> Prop) (Ax : Act -> α -> Act -> World -> Prop) (S Sp : List α -> Prop) (N : List α -> α -> Prop)
    (hI : ∀ pre, Lasts w.heap.size (I pre)) (hIx : ∀ c pre, Lasts w.heap.size (Ix c pre)) (hAx : ∀ x b, Lasts w.heap.size (Ax a x b)) (h0 : I [] w)
    (hseq : ∀ (l : Nat) (J Jx : List α -> World -> Prop) (W : World), Below w.heap.size w W -> (∀ pre A, J pre A -> I pre A) ->
      (∀ pre A A', J pre A -> Below A.heap.size A A' -> J pre A') -> (∀ pre A A', Jx pre A -> Below A.heap.size A A' -> Jx pre A') ->
      (∀ pre x A, N pre x -> J pre A -> YieldAt Fence.wide 0 P l (encs x) A fun e A' => (e = .returned (.bool true) /\ J (pre ++ [x]) A') \/ (e = .returned (.bool false) /\ Jx (pre ++ [x]) A')) -> J [] W ->
      CallsIn Fence.wide 0 P gf (#[.func (.yield l) #[] #[]] ++ lb) W fun e W' => (∃ v, e = .returned v) /\ ((∃ xs, S xs /\ J xs W') \/ (∃ pre, Sp pre /\ Jx pre W')))
    (hassign : ∀ (l : Nat) (pre : List α) (x : α) (W : World) (K : Act -> World -> Prop), N pre x -> I pre W -> (∀ b W', KeepsFrom w.heap.size W W' -> I pre W' -> Ax a x b W' -> K b W') ->
      assign.wpIn (roundF l) 0 P (Exit.then K (fun _ _ _ => False)) { tmps := (ps.zip (encs x)).foldl (fun t (p, v) => t.setIfInBounds p v) a.tmps, defers := [] } W)
    (hbody : ∀ (l : Nat) (pre : List α) (x : α) (b : Act) (W : World), N pre x -> I pre W -> Ax a x b W -> body.wpIn (roundF l) 0 P (endPost w.heap.size I Ix (pre ++ [x]) W) b W)
    (hdone : ∀ (xs : List α) (W : World), S xs -> I xs W -> W.heap[w.heap.size]? = some (.deferred (some [])) -> Q .normal { a with defers := { target := .collected w.heap.size, args := #[] } :: a.defers } W)
    (hstop : ∀ (c : Code) (pre : List α) (W : World), Sp pre -> Ix c pre W -> W.heap[w.heap.size]? = some (.deferred (some [])) -> c.wp P Q { a with defers := { target := .collected w.heap.size, args := #[] } :: a.defers } W) :
    (Code.rangeFunc g ps assign body).wp P Q a w := by
  refine (wpIn_wide (n := 0)).1 (wpIn_rangeFunc fun fn _ => ?_)
  obtain ⟨D, hD⟩ : ∃ D, D = w.heap.size := ⟨_, rfl⟩
  obtain ⟨W1, hW1⟩ : ∃ W1, W1 = (w.alloc (.deferred (some []))).alloc (.loop { state := .ready, pending := none, fn, tmps := a.tmps, params := ps, assign, body, defers := w.heap.size }) := ⟨_, rfl⟩
  have b1 : Below w.heap.size w W1 := by rw [hW1]; exact ((Below.refl _ w).alloc (Nat.le_refl _) _).alloc (by simp) _
  have r1 : RecAt fn a ps assign body D .ready none W1 := by
    rw [hW1, hD]
    refine ⟨?_, (Below.heap_alloc _ _ _ (by simp)).trans (World.alloc_heap_new w _)⟩
    have := World.alloc_heap_new (w.alloc (.deferred (some []))) (.loop { state := .ready, pending := none, fn, tmps := a.tmps, params := ps, assign, body, defers := w.heap.size })
    rwa [World.size_alloc] at this
  rw [<- hD] at hI hIx hAx hassign hbody hdone hstop
  refine ⟨w.heap.size + 1, [{ target := .collected w.heap.size, args := #[] }], W1, { target := .fn (.func gf) lb, args := #[.func (.yield (w.heap.size + 1)) #[] #[]] }, W1, gf, #[.func (.yield (w.heap.size + 1)) #[] #[]] ++ lb, W1, ?_, ?_, fun _ _ => trivial, ?_, fun e => absurd e (by simp [Fence.wide]), ?_⟩
  . rw [hW1]; exact run_enterLoop_outer _ _ _ _ _
  . simp only [resolve, hg]
    simp [go_sem]
  . simp [invoke, go_sem, eg]
  rw [<- hD]
  refine (hseq (D + 1) (fun pre A => I pre A /\ RecAt fn a ps assign body D .ready none A) (fun pre A => ∃ c, Ix c pre A /\ RecAt fn a ps assign body D .done (some c) A) W1 b1 (fun _ _ h => h.1)
    (fun pre _ _ h hb => ⟨(hI pre).grow h.1 hb, h.2.grow hb⟩) (fun pre _ _ h hb => h.elim fun c h => ⟨c, (hIx c pre).grow h.1 hb, h.2.grow hb⟩) ?_ ⟨(hI []).grow h0 b1, r1⟩).mono ?_
  . rintro pre x A hN ⟨hi, hrec⟩
    refine ⟨fn, _, assign, body, run_yield hrec.1 (hps x), roundIn_of_wpIn trivial (hassign (D + 1) pre x A _ hN hi fun b A1 hk1 hi1 hx1 => ?_)⟩
    have q1 := hrec.keep hk1
    refine ⟨_, run_beginRound q1.1 rfl, ?_⟩
    have q2 := q1.put (st' := .busy) (pe' := none)
    have hlt := Nat.le_succ D
    refine wpIn_mono (hbody (D + 1) pre x b _ hN ((hI pre).put _ hi1 hlt q1.1 rfl) ((hAx x b).put _ hx1 hlt q1.1 rfl)) ?_
    rintro e c A2 hp
    cases e with
    | normal =>
      have q3 := q2.keep hp.1
      exact ⟨_, _, run_endRound none q3.1, .inl ⟨rfl, (hI _).put _ hp.2 hlt q3.1 rfl, q3.put⟩⟩
    | ret =>
      have q3 := q2.keep hp.1
      exact ⟨_, _, run_endRound (some .ret) q3.1, .inr ⟨rfl, _, (hIx _ _).put _ hp.2 hlt q3.1 rfl, q3.put⟩⟩
    | exit id =>
      have q3 := q2.keep hp.1
      exact ⟨_, _, run_endRound (some (.exit id)) q3.1, .inr ⟨rfl, _, (hIx _ _).put _ hp.2 hlt q3.1 rfl, q3.put⟩⟩
    | goto t =>
      have q3 := q2.keep hp.1
      exact ⟨_, _, run_endRound (some (.goto t)) q3.1, .inr ⟨rfl, _, (hIx _ _).put _ hp.2 hlt q3.1 rfl, q3.put⟩⟩
    | panic ch => exact hp.elim
    | outgrown => exact hp.elim
  . rintro e A ⟨⟨v, rfl⟩, hx⟩
    rcases hx with ⟨xs, hs, hi, hrec⟩ | ⟨pre, hs, c, hi, hrec⟩
    . exact ⟨none, _, run_endLoop hrec.1 (by simp), hdone xs _ hs ((hI xs).put _ hi (Nat.le_succ D) hrec.1 rfl) ((World.putObj_heap_other (by omega)).trans hrec.2)⟩
    . exact ⟨some c, _, run_endLoop hrec.1 (by simp), wpIn_wide.2 (hstop c pre _ hs ((hIx c pre).put _ hi (Nat.le_succ D) hrec.1 rfl) ((World.putObj_heap_other (by omega)).trans hrec.2))⟩
end Go.Proofs.YtjalknpeecgllaaGreatDoor
namespace Go.Proofs.YtjalknpeecgllaaGreatDoor
open Go.RowKit
theorem lasts_blk {B g : Nat} {t : TypeId} {vs : List Value} : Lasts B (fun w => Blk w g t vs) := lasts_cells
theorem lasts_size {B k : Nat} : Lasts B (fun w => k <= w.heap.size) := fun _ _ hi ⟨_, hg, _⟩ => Nat.le_trans hi hg.size
theorem keeps_below {B : Nat} {w w' : World} (h : Below w.heap.size w w') : KeepsFrom B w w' := ⟨h.size, fun k _ _ hk _ => (h.block k (Array.getElem?_eq_some_iff.1 hk).1).trans hk⟩
end Go.Proofs.YtjalknpeecgllaaGreatDoor
end

section
namespace Go.Proofs.YtjalknpeecgllaaGreatDoor
open Go.ChangeShapes Go.WideShapes Go.ChangeAt Go.RowKit
section
variable {ops : List Oper} {Q : Exit -> Act -> World -> Prop} {o : Oper} {a : Act} {w : World} {I : Told -> World -> Prop} {tbl : List Fz} {r : Told} {i : Nat} {S : List Nat}
theorem doesZ_copyB (hi : i ∈ S) (hw : Region.wanted o (yielded ops.toArray a.tmps) = true) (d s : Operand) (dT sT : TypeId) (ho : o.op = .call { callee := .builtin .copy, args := #[d, s], argTypes := #[dT, sT] }) (hu : Tryz.prog.underlying dT = some (.slice 5)) (g off dLen dCap : Nat) (t : TypeId) (cur : List Value) (hg : Blk w g t cur) (dp : Option Addr) (hd : a.eval d = .slice dp dLen dCap) (y : Value) (hs : a.eval s = y) (m : List Nat) (hy : Rd w y m) (k : Nat) (hk : k = min m.length dLen) (hdp : 0 < k -> dp = some ⟨g, off, none⟩) (hfit : off + k <= cur.length)
    (h : ∀ w', Blk w' g t (splice cur off (row8 (m.take k))) -> w.grownBy w' (some g) -> I (r.set i (.int .i64 (k : Int))) w' /\ (tbl.getD i .any).holds (r.set i (.int .i64 (k : Int))) (.int .i64 (k : Int))) :
    DoesK Tryz.prog ops Q o a w (fun v w' => I (if i ∈ S then r.set i v else r) w' /\ (tbl.getD i .any).holds (if i ∈ S then r.set i v else r) v) := by
  refine doesZ_turn hi hw fun K hK => ?_
  obtain ⟨w', hrun, h2, h3⟩ := run_copy_blk dT sT o.type hu g off dLen dCap t cur hg dp y m hy k hk hdp hfit
  unfold Oper.wp
  simp only [execOp, ho, resolve, invoke, builtin, Sem.run_bind, Sem.run_pure, Result.andThen_ok, List.map_toArray, List.map_cons, List.map_nil, hd, hs, hrun]
  exact hK _ _ (h w' h2 h3).1 (h w' h2 h3).2
end
end Go.Proofs.YtjalknpeecgllaaGreatDoor
end

section
namespace Go.Proofs.YtjalknpeecgllaaGreatDoor
open Go.ChangeShapes Go.WideShapes Go.ChangeAt Go.RowKit
open DM
attribute [local go_sem] Oper.semAt_some
abbrev Sec (L : Nat) := { q : Nat // q * 512 < L }
abbrev encS {L : Nat} (x : Sec L) : Array Value := #[.int .i64 (x.1 : Int)]
def nx (a j : Nat) : Nat := if j = 0 then a else (a / 512 + j) * 512
theorem nx_div (a j : Nat) : nx a j / 512 = a / 512 + j := by unfold nx; split <;> omega
theorem nx_lt (a n j : Nat) (hj : j <= many a n) : nx a j < a + n ↔ j < many a n := by
  unfold nx many at *
  split <;> split at hj <;> split <;> omega
theorem ptouched_any (a n : Nat) (w : World) : Calls Tryz.prog 152 #[.int .i64 (a : Int), .int .i64 (n : Int)] w fun e w' =>
    ∃ ba bn, ba = w.heap.size /\ bn = w.heap.size + 1 /\ e = .returned (.func (.func 163) #[] #[.pointer (some ⟨ba, 0, none⟩), .pointer (some ⟨bn, 0, none⟩)]) /\ Blk w' ba 3 [.int .i64 (a : Int)] /\ Blk w' bn 3 [.int .i64 (n : Int)] /\ Below w.heap.size w w' /\ w'.heap.size = w.heap.size + 2 := by
  go_enter Tryz.func152, Tryz.ntmps152
  go_wp2_with fail
  go_ret
  exact ⟨_, _, rfl, rfl, by simp, (Blk.new w _ [.int .i64 (a : Int)] _ rfl).alloc _, Blk.new _ _ [.int .i64 (n : Int)] _ (by simp), ((Below.refl _ w).alloc (Nat.le_refl _) _).alloc (by simp) _, by simp⟩
set_option maxRecDepth 100000 in
set_option maxHeartbeats 2000000 in
theorem ptouch_iter (L ba bn a n : Nat) (ha : a <= 16777216) (hn : n <= 16777216) (hL : a + n <= L) (l : Nat) (J Jx : List (Sec L) -> World -> Prop) (W : World)
    (hJI : ∀ pre A, J pre A -> Blk A ba 3 [.int .i64 (a : Int)] /\ Blk A bn 3 [.int .i64 (n : Int)])
    (hY : ∀ pre x A, x.1 = a / 512 + pre.length /\ pre.length < many a n -> J pre A -> YieldAt Fence.wide 0 Tryz.prog l (encS x) A fun e A' => (e = .returned (.bool true) /\ J (pre ++ [x]) A') \/ (e = .returned (.bool false) /\ Jx (pre ++ [x]) A')) (h0 : J [] W) :
    CallsIn Fence.wide 0 Tryz.prog 163 #[.func (.yield l) #[] #[], .pointer (some ⟨ba, 0, none⟩), .pointer (some ⟨bn, 0, none⟩)] W fun e W' => (∃ v, e = .returned v) /\ ((∃ xs : List (Sec L), xs.map (·.1) = (List.range (many a n)).map (a / 512 + ·) /\ J xs W') \/ ∃ pre, Jx pre W') := by
  have HJI := Lib.hid hJI
  have HY := Lib.hid hY
  have H0 := Lib.hid h0
  clear hJI hY h0
  have c1 := (HJI.out _ _ H0.out).1.cell 0 _ rfl
  have hfw : ∀ f, Fence.wide.fn f = True := fun _ => rfl
  have hdw : Fence.wide.depth = none := rfl
  refine callsIn_of_wp Tryz.func163 rfl trivial ?_ rfl
  simp only [Tryz.ntmps163, List.size_toArray, List.length_cons, List.length_nil, Nat.reduceAdd, Nat.reduceSub, Array.replicate_succ, Array.replicate_zero, List.push_toArray, List.append_toArray, List.nil_append, List.cons_append]
  gi_wp2
  gi_loopw [4] (fun p wr => ∃ pre : List (Sec L), p = .int .i64 ((nx a pre.length : Nat) : Int) /\ pre.map (·.1) = (List.range pre.length).map (a / 512 + ·) /\ pre.length <= many a n /\ J pre wr) (fun p _ => a + n - (intOf p).toNat)
  case atStart => exact ⟨[], rfl, rfl, Nat.zero_le _, H0.out⟩
  case round =>
    obtain ⟨pre, rfl, hp, hle, hj⟩ := hrel
    obtain ⟨hba, hbn⟩ := HJI.out _ _ hj
    have ca := hba.cell 0 _ rfl
    have cn := hbn.cell 0 _ rfl
    have HLT := Lib.hid (nx_lt a n pre.length hle)
    have HDV := Lib.hid (nx_div a pre.length)
    have HP := Lib.hid hp
    have HJ := Lib.hid hj
    have HLE := Lib.hid hle
    have hw1 : IntKind.i64.wrap ((a : Int) + (n : Int)) = (a : Int) + (n : Int) := by rw [IntKind.wrap_i64]; omega
    clear hp hj hle hba hbn
    obtain ⟨p, hpd⟩ : ∃ p, p = nx a pre.length := ⟨_, rfl⟩
    have HPD := Lib.hid hpd
    rw [<- hpd] at HLT HDV ⊢
    clear hpd
    by_cases hlt : pre.length < many a n
    . have hc := HLT.out.2 hlt
      have hcz : (p : Int) < (a : Int) + (n : Int) := by omega
      have hsec := (many_pos hlt).2
      obtain ⟨q, hq⟩ : ∃ q, q = a / 512 + pre.length := ⟨_, rfl⟩
      rw [<- hq] at HDV hsec
      have hq2 : (p : Int) / 512 = (q : Int) := by have := HDV.out; omega
      have hqb : q <= 65536 := by omega
      obtain ⟨y, hyq⟩ : ∃ y : Sec L, y.1 = q := ⟨⟨q, by omega⟩, rfl⟩
      obtain ⟨fn, tmps, assign, body, hy, hR⟩ := HY.out pre y wr ⟨by rw [hyq]; exact hq, hlt⟩ HJ.out
      dsimp only [encS] at hy
      rw [hyq] at hy
      have HYQ := Lib.hid hyq
      clear hyq
      have HQ := Lib.hid hq
      have HLT2 := Lib.hid hlt
      have HSEC := Lib.hid hsec
      clear hlt hq hsec
      gi_wp2
      refine hR.mono ?_
      rintro e w6 (⟨rfl, hj⟩ | ⟨rfl, hj⟩)
      . have HJ6 := Lib.hid hj
        clear hj hy hR
        gi_wp2
        go_roundw
        case rel =>
          refine ⟨pre ++ [y], ?_, ?_, by rw [List.length_append]; exact HLT2.out, HJ6.out⟩
          . rw [List.length_append, List.length_singleton, show nx a (pre.length + 1) = (q + 1) * 512 by unfold nx; rw [if_neg (by omega)]; have := HQ.out; omega]
            go_num
          . rw [List.map_append, List.length_append, HP.out, List.length_singleton, List.range_succ, List.map_append]
            show _ ++ [y.1] = _ ++ [a / 512 + pre.length]
            rw [HYQ.out, HQ.out]
        case measure =>
          have := HDV.out
          simp [intOf]
          omega
      . have HJ6 := Lib.hid hj
        clear hj hy hR
        gi_wp2
        exact bodyPost_ret (results_none rfl _ _ _) rfl ⟨⟨_, rfl⟩, .inr ⟨_, HJ6.out⟩⟩
    . have hc : ¬ p < a + n := fun q => hlt (HLT.out.1 q)
      have hcz : ¬ ((p : Int) < (a : Int) + (n : Int)) := by omega
      have HE := Lib.hid (show pre.length = many a n by have := HLE.out; omega)
      clear hlt
      gi_wp2
      exact bodyPost_end (results_none rfl _ _ _) rfl ⟨⟨_, rfl⟩, .inl ⟨pre, HP.out.trans (by rw [HE.out]), HJ.out⟩⟩
end Go.Proofs.YtjalknpeecgllaaGreatDoor
namespace Go.Proofs.YtjalknpeecgllaaGreatDoor
open Go.ChangeShapes Go.WideShapes Go.ChangeAt Go.RowKit
open DM
theorem built_write (q : Int) : Tryz.prog.built 163 [(0, .int .i64 q)] = some (.int .i64 q :: .int .i64 0 :: row8 (List.replicate 512 0)).toArray := by kernel_rfl
theorem zeroDW (w : World) : (zeroValue 163).run Tryz.prog w = .ok (.agg zlw.toArray) w := by kernel_rfl
def secW (X : List Nat) (q : Nat) : LW := ⟨q * 512, (X.take (min (q * 512 + 512) X.length)).drop (q * 512), min (q * 512 + 512) X.length⟩
theorem secW_bytes (X : List Nat) (q : Nat) (hq : q * 512 < X.length) : (secW X q).bytes = (X.drop (q * 512)).take (min (X.length - q * 512) 512) /\ (secW X q).bytes.length = min (X.length - q * 512) 512 := by
  have e : (secW X q).bytes = (X.drop (q * 512)).take (min (X.length - q * 512) 512) := by
    show (X.take (min (q * 512 + 512) X.length)).drop (q * 512) = _
    rw [List.drop_take]
    congr 1
    omega
  refine ⟨e, ?_⟩
  rw [e, List.length_take, List.length_drop]; omega
theorem secW_wr (X : List Nat) (q : Nat) (hq : q * 512 < X.length) : Wr (secW X q) /\ (secW X q).size <= X.length := by
  have h := (secW_bytes X q hq).2
  refine ⟨⟨?_, by omega, by omega, ?_⟩, Nat.min_le_right _ _⟩
  . show q * 512 % 512 = 0; omega
  . show min (q * 512 + 512) X.length = q * 512 + _; omega
theorem secW_cells (X : List Nat) (q k : Nat) (hq : q * 512 < X.length) (hk : k = min (X.length - q * 512) 512) :
    (splice (.int .i64 (q : Int) :: .int .i64 0 :: row8 (List.replicate 512 0)) 2 (row8 ((X.drop (q * 512)).take k))).set 1 (.int .i64 (k : Int)) = lwc (secW X q) := by
  obtain ⟨h1, h2⟩ := secW_bytes X q hq
  have e0 : (row8 ((X.drop (q * 512)).take k)).length = k := by rw [row8_len, List.length_take, List.length_drop]; omega
  unfold splice lwc padTo
  rw [e0, h2, h1, <- hk, show (secW X q).at_ / 512 = q from by show q * 512 / 512 = q; omega]
  show ([_, _] ++ (_ ++ List.drop (2 + k) _)).set 1 _ = _
  rw [Nat.add_comm 2 k, List.drop_succ_cons, List.drop_succ_cons, row8_app]
  have e1 : (row8 (List.replicate 512 0)).drop k = row8 (List.replicate (512 - k) 0) := by unfold row8; rw [<- List.map_drop, List.drop_replicate]
  rw [e1]
  rfl
theorem own_cells {w : World} {b : Nat} {v : Value} {l : List Nat} (h : Own w b v l) (g : Nat) (e : v.ownBlock = some g) : ∃ cur t k, w.heap[g]? = some (.cells cur t k) := by
  rcases h.1.2 with ⟨q, _⟩ | ⟨g', cap, cur, q, _, hh, _⟩
  . rw [q] at e; cases e
  . rw [q] at e
    obtain rfl : g' = g := Option.some.inj e
    exact ⟨_, _, _, hh⟩
theorem row_cells {w : World} {B k n : Nat} {t : TypeId} {v : Value} {cs : List Value} (h : w.ownsRow B t k v n cs) (g : Nat) (e : v.ownBlock = some g) : ∃ cur t k, w.heap[g]? = some (.cells cur t k) := by
  rcases h.2 with ⟨q, _⟩ | ⟨g', cap, cur, q, _, hh, _⟩
  . rw [q] at e; cases e
  . rw [q] at e
    obtain rfl : g' = g := Option.some.inj e
    exact ⟨_, _, _, hh⟩
theorem Mem.cells {w : World} {d : Nat} {S : DS} {sv fv lv : Value} {t : Bool} (h : Mem w d S sv fv lv t) (k : Nat) (hk : Blks d sv fv lv k) : ∃ cur t k', w.heap[k]? = some (.cells cur t k') := by
  rcases hk with rfl | q | q | q
  . exact ⟨_, _, _, h.blk⟩
  . exact own_cells h.seen k q
  . exact own_cells h.safe k q
  . exact row_cells h.loose k q
theorem lasts_mem {B d : Nat} {S : DS} {sv fv lv : Value} {t : Bool} : Lasts B (fun w => Mem w d S sv fv lv t) := by
  rintro A A' hi ⟨row, hg, hr⟩
  refine hi.keep ⟨0, Blks d sv fv lv, ⟨hg.os, hg.tape, hg.output, hg.size, fun k hk q => hg.block k hk (fun e => ?_)⟩, fun k hk => .inr hk⟩
  obtain ⟨cur, t', k', hc⟩ := hi.cells k (q.resolve_left (by omega))
  obtain ⟨_, o, ho, hn⟩ := hr k e.symm
  rw [hc] at ho; cases ho; cases hn
theorem lasts_turn {B : Nat} {w : World} {F : Nat -> Prop} (hB : w.heap.size <= B) : Lasts B (fun w' => Turn F w w') := by
  rintro A A' hi ⟨row, hg, hr⟩
  exact ⟨hg.os.trans hi.os, hg.tape.trans hi.tape, hg.output.trans hi.output, Nat.le_trans hi.size hg.size, fun k hk hn => (hg.block k (Nat.lt_of_lt_of_le hk hi.size) (fun e => by have := (hr k e.symm).1; omega)).trans (hi.block k hk hn)⟩
theorem lasts_move {B : Nat} {w : World} {F G : Nat -> Prop} (hB : w.heap.size <= B) : Lasts B (fun w' => Move w F w' G) := fun A A' hi hs => ⟨lasts_turn hB A A' hi.turn hs, hi.into⟩
theorem keeps_row {B b k n : Nat} {t : TypeId} {v : Value} {cs : List Value} {w w' : World} (ho : w.ownsRow b t k v n cs) (h : w.grownBy w' v.ownBlock) : KeepsFrom B w w' :=
  (KeepsOthers.of_grownBy h fun j o e hj => by
    obtain ⟨cur, t', k', hc⟩ := row_cells ho j e
    rw [hc] at hj; cases hj; rfl).from B
theorem Mem.looseTo {w W : World} {d : Nat} {S : DS} {sv fv lv v : Value} {t : Bool} {L : List LW} (h : Mem w d S sv fv lv t) (o : W.ownsRow 0 163 514 v L.length (lwcs L)) (g : w.grownBy W lv.ownBlock) (k : Newer v lv w.heap.size) : Mem (W.setCell ⟨d, 3, none⟩ v) d { S with loose := L } sv fv v t /\ Move w (Blks d sv fv lv) (W.setCell ⟨d, 3, none⟩ v) (Blks d sv fv v) := by
  have hl := h.lt
  have hg2 := grownBy_cell W d 3 v
  have nv : v.ownBlock ≠ some d := fun q => by
    rcases k d q with z | z
    . exact h.nl z
    . have := hl d (.inl rfl); omega
  have ns : sv.ownBlock = none \/ sv.ownBlock ≠ lv.ownBlock := by
    cases e : sv.ownBlock with
    | none => exact .inl rfl
    | some g => exact .inr (fun q => h.sl g e q.symm)
  have nf : fv.ownBlock = none \/ fv.ownBlock ≠ lv.ownBlock := by
    cases e : fv.ownBlock with
    | none => exact .inl rfl
    | some g => exact .inr (fun q => h.fl g e q.symm)
  refine gone_of h ((Turn.of_row g (fun j e => .inr (.inr (.inr e)))).trans (Turn.of_grown (F := Blks d sv fv lv) hg2 (.inl rfl)) (fun _ q => .inl q)) ((h.blk.grown g (fun e => h.nl e.symm)).set 3 v) ((h.seen.keep g ns).keep hg2 (.inr h.ns)) ((h.safe.keep g nf).keep hg2 (.inr h.nf)) (World.ownsRow.kept o hg2 (.inr nv)) h.tl
    (fun j e => .inl e) (fun j e => .inl e) (fun j e => k j e) (fun j hj e => ?_) (fun j hj e => ?_) (fun j hj e => ?_)
  . have := hl j (.inr (.inl e)); omega
  . have := hl j (.inr (.inl e)); omega
  . have := hl j (.inr (.inr (.inl e))); omega
section
variable {ops : List Oper} {Q : Exit -> Act -> World -> Prop} {o : Oper} {a : Act} {w : World} {I : Told -> World -> Prop} {tbl : List Fz} {r : Told} {i : Nat} {S : List Nat}
theorem doesZ_row (hi : i ∉ S) (hw : Region.wanted o (yielded ops.toArray a.tmps) = true) (ty : TypeId) (x : Operand) (ho : o.op = .load ty x) (c f : Nat) (hx : a.eval x = .pointer (some ⟨c, f, none⟩)) (cs : List Value) (hr : w.rangeAt c f cs) (d : TypeDesc) (hu : Tryz.prog.underlying ty = some d) (hd : d.isRow = true) (hn : (Tryz.prog.info? ty).map (·.size) = some cs.length) (hI : I r w) (hf : (tbl.getD i .any).holds r (.agg cs.toArray)) :
    DoesK Tryz.prog ops Q o a w (fun v w' => I (if i ∈ S then r.set i v else r) w' /\ (tbl.getD i .any).holds (if i ∈ S then r.set i v else r) v) := by
  simp only [if_neg hi]
  exact doesK_load hw ty x ho c f hx cs hr d hu hd hn ⟨hI, hf⟩
end
end Go.Proofs.YtjalknpeecgllaaGreatDoor
namespace Go.Proofs.YtjalknpeecgllaaGreatDoor
open DM
theorem Inv.new (m : Int) : Inv (DM.new m) := ⟨Nat.le_refl _, fun x hx => (by cases (show x ∈ ([] : List LW) from hx)), fun _ _ _ => rfl, fun _ => rfl⟩
theorem many_of (a n k : Nat) (h1 : a <= k) (h2 : k < a + n) : k / 512 - a / 512 < many a n := by
  unfold many
  rw [if_neg (by omega)]
  omega
theorem Inv.wrote {S : DS} (h : Inv S) (p : Nat) (l : List Nat) (hp : p <= S.seen.length) : Inv (wrote S p l) := by
  have hge := laid_ge S.seen p l
  refine ⟨Nat.le_trans h.short hge, fun x hx => ?_, fun k hk hx => ?_, h.told⟩
  . rcases List.mem_append.1 hx with q | q
    . exact ⟨(h.wr x q).1, Nat.le_trans (h.wr x q).2 hge⟩
    . obtain ⟨j, hj, rfl⟩ := List.mem_map.1 q
      have hm := many_pos (List.mem_range.1 hj)
      have hlt : (p / 512 + j) * 512 < (laid S.seen p l).length := Nat.lt_of_lt_of_le hm.2 (laid_to _ _ _ (by omega))
      exact secW_wr (laid S.seen p l) (p / 512 + j) hlt
  . show gb S.safe k = gb (laid S.seen p l) k
    rw [laid_get]
    have hk2 : k < (laid S.seen p l).length := hk
    split
    . rename_i hc
      exfalso
      refine hx (sector (laid S.seen p l) p (k / 512 - p / 512)) (List.mem_append.2 (.inr (List.mem_map.2 ⟨_, List.mem_range.2 (many_of p l.length k hc.2.1 hc.2.2), rfl⟩))) ?_
      show (p / 512 + (k / 512 - p / 512)) * 512 / 512 = k / 512
      have := hc.2.1
      omega
    . rename_i hc
      refine h.same k ?_ (fun x hxm => hx x (List.mem_append.2 (.inl hxm)))
      by_cases hl : l = []
      . rw [hl, laid_nil] at hk2; exact hk2
      . rw [laid_len _ _ _ hl] at hk2
        have : ¬ (p <= k /\ k < p + l.length) := fun q => hc ⟨hl, q.1, q.2⟩
        omega
theorem Inv.step {S x : DS} (h : Inv S) (k : Inv x) (ht : x.told = S.told) (ha : x.after = S.after) : Inv (DM.step S x).1 := by
  unfold DM.step
  cases q : S.told with
  | false => exact ⟨k.short, k.wr, k.same, k.told⟩
  | true =>
    rw [if_neg (by decide)]
    by_cases hz : 0 < S.after
    . rw [if_pos hz]
      exact ⟨k.short, k.wr, k.same, fun e => by rw [show x.told = true from ht.trans q] at e; cases e⟩
    . rw [if_neg hz]
      cases S.done with
      | true => exact ⟨k.short, k.wr, k.same, fun _ => by show x.after = 0; omega⟩
      | false => exact ⟨h.short, h.wr, h.same, fun _ => by show S.after = 0; omega⟩
theorem Inv.write {S : DS} (h : Inv S) (z : Int) (l : List Nat) : Inv (DM.write S z l).1 := by
  unfold DM.write
  split
  . exact h
  . split
    . exact h
    . split
      . exact h
      . rename_i h1 _
        exact h.step (h.wrote _ _ (by omega)) rfl rfl
theorem Inv.load {S : DS} (h : Inv S) (b : List Nat) : Inv (DM.load S b) := by
  unfold DM.load
  split
  . exact h
  . exact ⟨Nat.le_refl _, fun x hx => (by cases (show x ∈ ([] : List LW) from hx)), fun _ _ _ => rfl, h.told⟩
theorem Inv.edit {S : DS} (h : Inv S) (z : Int) (b : List Nat) : Inv (DM.edit S z b) := by
  unfold DM.edit
  split
  . exact h
  . rename_i hc
    by_cases hb : b = []
    . subst hb
      exact ⟨by rw [laid_nil, laid_nil]; exact h.short, fun x hx => by rw [laid_nil]; exact h.wr x hx, fun k hk hx => by rw [laid_nil, laid_nil]; rw [laid_nil] at hk; exact h.same k hk hx, h.told⟩
    . refine ⟨?_, fun x hx => ⟨(h.wr x hx).1, Nat.le_trans (h.wr x hx).2 (laid_ge _ _ _)⟩, fun k hk hx => ?_, h.told⟩
      . show (laid S.safe z.toNat b).length <= (laid S.seen z.toNat b).length
        rw [laid_len _ _ _ hb, laid_len _ _ _ hb]
        have := h.short
        omega
      . show gb (laid S.safe z.toNat b) k = gb (laid S.seen z.toNat b) k
        have hk2 : k < (laid S.seen z.toNat b).length := hk
        rw [laid_len _ _ _ hb] at hk2
        rw [laid_get, laid_get]
        split
        . rfl
        . rename_i hn
          exact h.same k (by have : ¬ (z.toNat <= k /\ k < z.toNat + b.length) := fun q => hn ⟨hb, q.1, q.2⟩; omega) hx
end Go.Proofs.YtjalknpeecgllaaGreatDoor
end

/- Texts of one subject in one file: DevPD, DevPE, DevPF, DevPM. Own work. -/
import Derived.Test.YtipdcocliefppaaDevPC
import Derived.Test.YtipdcocliefppaaFactsO
import Derived.Test.YtipdcocliefppaaZed
import Derived.Test.YtipdcocliefppaaOwnAt
/- The program's device: a step in all its ways at once; a beat; what is told of the power; what is made; bytes read: contracts. Own work. -/
namespace Go.Proofs.Ytipdcocliefppaa
open Go.ChangeShapes Go.WideShapes Go.ChangeAt Go.RowKit
open DM
theorem built_dev (n : Int) : Try.prog.built 58 [(0, .int .i64 n)] = some #[.int .i64 n, .slice none 0 0, .slice none 0 0, .slice none 0 0, .int .i64 0, .bool false, .bool false, .int .i64 0, .bool false] := by kernel_rfl
theorem built_fail (n : Int) (x : Bool) : Try.prog.built 56 [(0, .bool true), (1, .int .i64 n), (2, .bool x)] = some #[.bool true, .int .i64 n, .bool x] := by kernel_rfl
/-- What holds of every device of the program's. -/
structure Inv (S : DS) : Prop where
  short : S.safe.length ≤ S.seen.length
  wr : ∀ x ∈ S.loose, Wr x ∧ x.size ≤ S.seen.length
  same : ∀ k, k < S.seen.length → (∀ x ∈ S.loose, x.at_ / 512 ≠ k / 512) → gb S.safe k = gb S.seen k
  told : S.told = false → S.after = 0
theorem Mem.told {w : World} {d : Nat} {S S' : DS} {sv fv lv : Value} {t : Bool} (h : Mem w d S sv fv lv t) (hd : S'.down = true) (b : Bool) (he : S' = { S with told := b }) : Mem w d S' sv fv lv t := by
  subst he
  exact ⟨h.blk, h.seen, h.safe, h.loose, fun q => (by rw [hd] at q; cases q), h.ns, h.nf, h.nl, h.sf, h.sl, h.fl⟩
/-- What a step does to a device, whatever was told of the power. -/
structure DoesD (f : DS → DS) (S : DS) : Prop where
  at_ : ∀ dn af, f (counted S dn af) = { f S with steps := S.steps + 1, down := dn, after := af }
  steps : (f S).steps = S.steps
  down : (f S).down = S.down
  after : (f S).after = S.after
  told : (f S).told = S.told
theorem does_id (S : DS) : DoesD id S := ⟨fun _ _ => rfl, rfl, rfl, rfl, rfl⟩
/-- What a Sync does. -/
def synced (S : DS) : DS := { S with safe := S.seen, loose := [] }
theorem does_sync (S : DS) : DoesD synced S := ⟨fun _ _ => rfl, rfl, rfl, rfl, rfl⟩
theorem does_wrote (S : DS) (a : Nat) (b : List Nat) : DoesD (fun S => wrote S a b) S := ⟨fun _ _ => rfl, rfl, rfl, rfl, rfl⟩
theorem ds_a (X : DS) (n : Nat) (h1 : X.down = false) (h2 : X.after = 0) : ({ X with steps := n, down := false, after := 0 } : DS) = { X with steps := n } := by
  obtain ⟨_, _, _, _, _, _, _, _, _⟩ := X
  simp only at h1 h2
  subst h1 h2; rfl
theorem ds_b (X : DS) (n k : Nat) (h1 : X.down = false) : ({ X with steps := n, down := false, after := k } : DS) = { X with steps := n, after := k } := by
  obtain ⟨_, _, _, _, _, _, _, _, _⟩ := X
  simp only at h1
  subst h1; rfl
theorem ds_c (X : DS) (n : Nat) (b : Bool) (h2 : X.after = 0) : ({ X with steps := n, down := true, after := 0, told := b } : DS) = { X with steps := n, down := true, told := b } := by
  obtain ⟨_, _, _, _, _, _, _, _, _⟩ := X
  simp only at h2
  subst h2; rfl
theorem pstep_write (w : World) (d : Nat) (S : DS) (f : DS → DS) (sv fv lv : Value) (t : Bool) (p1 p2 p3 : Nat) (hm : Mem w d S sv fv lv t) (hd : S.down = false) (hs : S.steps < 9223372036854775807) (ha : S.after ≤ 9223372036854775807) (h0 : S.told = false → S.after = 0) (hf : DoesD f S)
    (H : ∀ dn af w1, af ≤ 9223372036854775807 → (S.told = false → af = 0) → Mem w1 d (counted S dn af) sv fv lv t → Move w (fun k => k = d) w1 (fun k => k = d) → Calls Try.prog 44 #[.pointer (some ⟨p1, 0, none⟩), .pointer (some ⟨p2, 0, none⟩), .pointer (some ⟨p3, 0, none⟩)] w1 fun e w' => e = .returned (.tuple #[]) ∧ Gone w1 d sv fv lv (f (counted S dn af)) w') :
    Calls Try.prog 43 #[.pointer (some ⟨d, 0, none⟩), .func (.func 44) #[] #[.pointer (some ⟨p1, 0, none⟩), .pointer (some ⟨p2, 0, none⟩), .pointer (some ⟨p3, 0, none⟩)]] w fun e w' => e = .returned (.int .i64 (DM.step S (f S)).2) ∧ Gone w d sv fv lv (DM.step S (f S)).1 w' := by
  have htl := hm.tl hd
  have hfd : (f S).down = false := hf.down.trans hd
  subst htl
  unfold DM.step
  cases ht : S.told with
  | false =>
    have hz := h0 ht
    have hza : (f S).after = 0 := hf.after.trans hz
    rw [ht] at hm H
    rw [if_pos rfl]
    have hr := pstep_write_a w d S (f (counted S false 0)) sv fv lv p1 p2 p3 hm hd hs hz (by rw [hf.at_]) (fun w1 h1 h2 => H false 0 w1 (by omega) (fun _ => rfl) h1 h2)
    rw [hf.at_, ds_a _ _ hfd hza, ← hf.steps] at hr
    exact hr
  | true =>
    rw [ht] at hm H
    rw [if_neg (by decide)]
    by_cases hp : 0 < S.after
    · obtain ⟨af, haf⟩ : ∃ af, S.after = af + 1 := ⟨S.after - 1, by omega⟩
      rw [if_pos hp]
      have hr := pstep_write_b w d S (f (counted S false af)) sv fv lv p1 p2 p3 hm hd hs af haf (by omega) (by rw [hf.at_]) (fun w1 h1 h2 => H false af w1 (by omega) (fun q => by cases q) h1 h2)
      rw [hf.at_, ds_b _ _ _ hfd, ← hf.steps, show af = (f S).after - 1 by rw [hf.after]; omega] at hr
      exact hr
    · have hz : S.after = 0 := by omega
      have hza : (f S).after = 0 := hf.after.trans hz
      rw [if_neg hp]
      cases hD : S.done with
      | true =>
        have hr := pstep_write_c w d S (f (counted S true 0)) sv fv lv p1 p2 p3 hm hd hs hz hD (by rw [hf.at_]) (fun w1 h1 h2 => H true 0 w1 (by omega) (fun _ => rfl) h1 h2)
        rw [hf.at_] at hr
        refine hr.mono fun e w' hh => ⟨hh.1, ?_⟩
        obtain ⟨sv', fv', lv', t', m', v'⟩ := hh.2
        rw [if_pos rfl]
        refine ⟨sv', fv', lv', t', m'.told rfl false ?_, v'⟩
        show ({ f S with steps := S.steps + 1, down := true, told := false } : DS) = _
        rw [← ds_c _ _ _ hza]
      | false =>
        have hr := pstep_write_d w d S sv fv lv p1 p2 p3 hm hd hs hz hD
        refine hr.mono fun e w' hh => ⟨hh.1, ?_⟩
        obtain ⟨sv', fv', lv', t', m', v'⟩ := hh.2
        rw [if_neg (by decide)]
        refine ⟨sv', fv', lv', t', m'.told rfl false ?_, v'⟩
        show ({ S with steps := S.steps + 1, down := true, told := false } : DS) = _
        rw [← ds_c _ _ _ hz]
        rfl
theorem pstep_sync (w : World) (d : Nat) (S : DS) (f : DS → DS) (sv fv lv : Value) (t : Bool) (hm : Mem w d S sv fv lv t) (hd : S.down = false) (hs : S.steps < 9223372036854775807) (ha : S.after ≤ 9223372036854775807) (h0 : S.told = false → S.after = 0) (hf : DoesD f S)
    (H : ∀ dn af w1, af ≤ 9223372036854775807 → (S.told = false → af = 0) → Mem w1 d (counted S dn af) sv fv lv t → Move w (fun k => k = d) w1 (fun k => k = d) → Calls Try.prog 46 #[.pointer (some ⟨d, 0, none⟩)] w1 fun e w' => e = .returned (.tuple #[]) ∧ Gone w1 d sv fv lv (f (counted S dn af)) w') :
    Calls Try.prog 43 #[.pointer (some ⟨d, 0, none⟩), .func (.func 46) #[.pointer (some ⟨d, 0, none⟩)] #[]] w fun e w' => e = .returned (.int .i64 (DM.step S (f S)).2) ∧ Gone w d sv fv lv (DM.step S (f S)).1 w' := by
  have htl := hm.tl hd
  have hfd : (f S).down = false := hf.down.trans hd
  subst htl
  unfold DM.step
  cases ht : S.told with
  | false =>
    have hz := h0 ht
    have hza : (f S).after = 0 := hf.after.trans hz
    rw [ht] at hm H
    rw [if_pos rfl]
    have hr := pstep_sync_a w d S (f (counted S false 0)) sv fv lv hm hd hs hz (by rw [hf.at_]) (fun w1 h1 h2 => H false 0 w1 (by omega) (fun _ => rfl) h1 h2)
    rw [hf.at_, ds_a _ _ hfd hza, ← hf.steps] at hr
    exact hr
  | true =>
    rw [ht] at hm H
    rw [if_neg (by decide)]
    by_cases hp : 0 < S.after
    · obtain ⟨af, haf⟩ : ∃ af, S.after = af + 1 := ⟨S.after - 1, by omega⟩
      rw [if_pos hp]
      have hr := pstep_sync_b w d S (f (counted S false af)) sv fv lv hm hd hs af haf (by omega) (by rw [hf.at_]) (fun w1 h1 h2 => H false af w1 (by omega) (fun q => by cases q) h1 h2)
      rw [hf.at_, ds_b _ _ _ hfd, ← hf.steps, show af = (f S).after - 1 by rw [hf.after]; omega] at hr
      exact hr
    · have hz : S.after = 0 := by omega
      have hza : (f S).after = 0 := hf.after.trans hz
      rw [if_neg hp]
      cases hD : S.done with
      | true =>
        have hr := pstep_sync_c w d S (f (counted S true 0)) sv fv lv hm hd hs hz hD (by rw [hf.at_]) (fun w1 h1 h2 => H true 0 w1 (by omega) (fun _ => rfl) h1 h2)
        rw [hf.at_] at hr
        refine hr.mono fun e w' hh => ⟨hh.1, ?_⟩
        obtain ⟨sv', fv', lv', t', m', v'⟩ := hh.2
        rw [if_pos rfl]
        refine ⟨sv', fv', lv', t', m'.told rfl false ?_, v'⟩
        show ({ f S with steps := S.steps + 1, down := true, told := false } : DS) = _
        rw [← ds_c _ _ _ hza]
      | false =>
        have hr := pstep_sync_d w d S sv fv lv hm hd hs hz hD
        refine hr.mono fun e w' hh => ⟨hh.1, ?_⟩
        obtain ⟨sv', fv', lv', t', m', v'⟩ := hh.2
        rw [if_neg (by decide)]
        refine ⟨sv', fv', lv', t', m'.told rfl false ?_, v'⟩
        show ({ S with steps := S.steps + 1, down := true, told := false } : DS) = _
        rw [← ds_c _ _ _ hz]
        rfl
theorem pstep_beat (w : World) (d : Nat) (S : DS) (f : DS → DS) (sv fv lv : Value) (t : Bool) (hm : Mem w d S sv fv lv t) (hd : S.down = false) (hs : S.steps < 9223372036854775807) (ha : S.after ≤ 9223372036854775807) (h0 : S.told = false → S.after = 0) (hf : DoesD f S)
    (H : ∀ dn af w1, af ≤ 9223372036854775807 → (S.told = false → af = 0) → Mem w1 d (counted S dn af) sv fv lv t → Move w (fun k => k = d) w1 (fun k => k = d) → Calls Try.prog 47 #[] w1 fun e w' => e = .returned (.tuple #[]) ∧ Gone w1 d sv fv lv (f (counted S dn af)) w') :
    Calls Try.prog 43 #[.pointer (some ⟨d, 0, none⟩), .func (.func 47) #[] #[]] w fun e w' => e = .returned (.int .i64 (DM.step S (f S)).2) ∧ Gone w d sv fv lv (DM.step S (f S)).1 w' := by
  have htl := hm.tl hd
  have hfd : (f S).down = false := hf.down.trans hd
  subst htl
  unfold DM.step
  cases ht : S.told with
  | false =>
    have hz := h0 ht
    have hza : (f S).after = 0 := hf.after.trans hz
    rw [ht] at hm H
    rw [if_pos rfl]
    have hr := pstep_beat_a w d S (f (counted S false 0)) sv fv lv hm hd hs hz (by rw [hf.at_]) (fun w1 h1 h2 => H false 0 w1 (by omega) (fun _ => rfl) h1 h2)
    rw [hf.at_, ds_a _ _ hfd hza, ← hf.steps] at hr
    exact hr
  | true =>
    rw [ht] at hm H
    rw [if_neg (by decide)]
    by_cases hp : 0 < S.after
    · obtain ⟨af, haf⟩ : ∃ af, S.after = af + 1 := ⟨S.after - 1, by omega⟩
      rw [if_pos hp]
      have hr := pstep_beat_b w d S (f (counted S false af)) sv fv lv hm hd hs af haf (by omega) (by rw [hf.at_]) (fun w1 h1 h2 => H false af w1 (by omega) (fun q => by cases q) h1 h2)
      rw [hf.at_, ds_b _ _ _ hfd, ← hf.steps, show af = (f S).after - 1 by rw [hf.after]; omega] at hr
      exact hr
    · have hz : S.after = 0 := by omega
      have hza : (f S).after = 0 := hf.after.trans hz
      rw [if_neg hp]
      cases hD : S.done with
      | true =>
        have hr := pstep_beat_c w d S (f (counted S true 0)) sv fv lv hm hd hs hz hD (by rw [hf.at_]) (fun w1 h1 h2 => H true 0 w1 (by omega) (fun _ => rfl) h1 h2)
        rw [hf.at_] at hr
        refine hr.mono fun e w' hh => ⟨hh.1, ?_⟩
        obtain ⟨sv', fv', lv', t', m', v'⟩ := hh.2
        rw [if_pos rfl]
        refine ⟨sv', fv', lv', t', m'.told rfl false ?_, v'⟩
        show ({ f S with steps := S.steps + 1, down := true, told := false } : DS) = _
        rw [← ds_c _ _ _ hza]
      | false =>
        have hr := pstep_beat_d w d S sv fv lv hm hd hs hz hD
        refine hr.mono fun e w' hh => ⟨hh.1, ?_⟩
        obtain ⟨sv', fv', lv', t', m', v'⟩ := hh.2
        rw [if_neg (by decide)]
        refine ⟨sv', fv', lv', t', m'.told rfl false ?_, v'⟩
        show ({ S with steps := S.steps + 1, down := true, told := false } : DS) = _
        rw [← ds_c _ _ _ hz]
        rfl
theorem pbeat1_any (w : World) : Calls Try.prog 47 #[] w fun e w' => e = .returned (.tuple #[]) ∧ w' = w := by
  go_enter Try.func47, Try.ntmps47
  go_wp2_with fail
  exact bodyPost_end (results_none rfl _ _ _) rfl ⟨rfl, rfl⟩
section
variable (w : World) (d : Nat) (S : DS) (sv fv lv : Value) (t : Bool) (h : Mem w d S sv fv lv t)
include h
theorem Gone.same : Gone w d sv fv lv S w := ⟨sv, fv, lv, t, h, Move.refl _ _⟩
theorem pdbeat_any (hs : S.steps < 9223372036854775807) (ha : S.after ≤ 9223372036854775807) (h0 : S.told = false → S.after = 0) : Calls Try.prog 21 #[.pointer (some ⟨d, 0, none⟩)] w fun e w' => e = .returned (.int .i64 (DM.beat S).2) ∧ Gone w d sv fv lv (DM.beat S).1 w' := by
  have HR := Lib.hid (pdready_any w d S sv fv lv t h)
  unfold DM.beat
  cases hd : S.down with
  | true =>
    have HG := Lib.hid (Gone.same w d S sv fv lv t h)
    rw [hd] at HR
    clear h
    go_enter Try.func21, Try.ntmps21
    go_wp2_with (go_at_call 42; (with_reducible refine HR.out.mono ?_); rintro e w1 ⟨rfl, hq⟩; rw [hq]; clear hq w1)
    go_ret
    exact ⟨rfl, HG.out⟩
  | false =>
    have HS := Lib.hid (pstep_beat w d S id sv fv lv t h hd hs ha h0 (does_id S) (fun dn af w1 _ _ m1 _ => (pbeat1_any w1).mono fun e w' hh => ⟨hh.1, by rw [hh.2]; exact Gone.same _ _ _ _ _ _ _ m1⟩))
    rw [hd] at HR
    clear h
    go_enter Try.func21, Try.ntmps21
    go_wp2_with (first
      | (go_at_call 42; (with_reducible refine HR.out.mono ?_); rintro e w1 ⟨rfl, hq⟩; rw [hq]; clear hq w1)
      | (go_at_call 43; (with_reducible refine HS.out.mono ?_); rintro e w1 ⟨rfl, g1⟩; have G1 := Lib.hid g1; clear g1))
    go_ret
    exact ⟨rfl, G1.out⟩
theorem pdfail_any (a : Int) (x : Bool) : Calls Try.prog 27 #[.pointer (some ⟨d, 0, none⟩), .int .i64 a, .bool x] w fun e w' => e = .returned (.int .i64 (DM.fail S a x).2) ∧ Gone w d sv fv lv (DM.fail S a x).1 w' := by
  have HR := Lib.hid (pdready_any w d S sv fv lv t h)
  unfold DM.fail
  cases hd : S.down with
  | true =>
    have HG := Lib.hid (Gone.same w d S sv fv lv t h)
    rw [hd] at HR
    clear h
    go_enter Try.func27, Try.ntmps27
    go_wp2_with (go_at_call 42; (with_reducible refine HR.out.mono ?_); rintro e w1 ⟨rfl, hq⟩; rw [hq]; clear hq w1)
    go_ret
    exact ⟨rfl, HG.out⟩
  | false =>
    rw [hd] at HR
    have c6 := h.c6
    have c7 := h.c7
    have c8 := h.c8
    have f6 := h.blk.free 6
    have f7 := h.blk.free 7
    have f8 := h.blk.free 8
    have hbt := fun n => built_fail n x
    have HF := Lib.hid (fun (n : Nat) => by
      have m1 := h.field 6 (.bool true) (S' := { S with told := true }) (t' := true) rfl rfl rfl rfl (fun _ => rfl)
      have m2 := m1.1.field 7 (.int .i64 (n : Int)) (S' := { S with told := true, after := n }) (t' := true) rfl rfl rfl rfl (fun _ => rfl)
      have m3 := m2.1.field 8 (.bool x) (S' := { S with told := true, after := n, done := x }) (t' := true) rfl rfl rfl rfl (fun _ => rfl)
      exact (show Gone w d sv fv lv { S with told := true, after := n, done := x } _ from ⟨_, _, _, _, m3.1, m1.2.trans (m2.2.trans m3.2)⟩))
    have HD := Lib.hid hd
    clear h hd
    by_cases ha : a < 0
    · have HA := Lib.hid ha
      go_enter Try.func27, Try.ntmps27
      go_wp2_with (go_at_call 42; (with_reducible refine HR.out.mono ?_); rintro e w1 ⟨rfl, hq⟩; rw [hq]; clear hq w1)
      go_ret
      have hf := HF.out 0
      rw [show a.toNat = 0 by have := HA.out; omega]
      have hd := HD.out
      obtain ⟨_, _, _, _, _, _, _, _, _⟩ := S
      simp only at hd
      subst hd
      exact ⟨rfl, hf⟩
    · obtain ⟨n, rfl⟩ : ∃ n : Nat, a = (n : Int) := ⟨a.toNat, by omega⟩
      go_enter Try.func27, Try.ntmps27
      go_wp2_with (go_at_call 42; (with_reducible refine HR.out.mono ?_); rintro e w1 ⟨rfl, hq⟩; rw [hq]; clear hq w1)
      go_ret
      have hf := HF.out n
      have hd := HD.out
      obtain ⟨_, _, _, _, _, _, _, _, _⟩ := S
      simp only at hd
      subst hd
      exact ⟨rfl, hf⟩
set_option maxHeartbeats 1000000 in
theorem pdread_any (a n : Int) (ha : -9223372036854775808 ≤ a ∧ a ≤ 9223372036854775807) (hn : -9223372036854775808 ≤ n ∧ n ≤ 9223372036854775807) (hl : S.seen.length ≤ 16777216) : Calls Try.prog 18 #[.pointer (some ⟨d, 0, none⟩), .int .i64 a, .int .i64 n] w fun e w' => ∃ y, e = .returned (.tuple #[y, .int .i64 (DM.read S a n).2]) ∧ Own w' w.heap.size y (DM.read S a n).1 ∧ Below w.heap.size w w' := by
  have HR := Lib.hid (pdready_any w d S sv fv lv t h)
  have c1 := h.c1
  have hsr := h.seen.rd
  obtain ⟨ao, cap, rfl, hc⟩ := h.seen.rd.shape
  clear h
  unfold DM.read
  cases hd : S.down with
  | true =>
    rw [hd] at HR
    go_enter Try.func18, Try.ntmps18
    go_wp2_with (go_at_call 42; (with_reducible refine HR.out.mono ?_); rintro e w1 ⟨rfl, hq⟩; rw [hq]; clear hq w1)
    go_ret2
    exact ⟨_, rfl, own_nil w, Below.refl _ _⟩
  | false =>
    rw [hd] at HR
    obtain ⟨s, hs⟩ : ∃ s, s = S.seen.length := ⟨_, rfl⟩
    have HS := Lib.hid hs
    rw [← hs] at c1 hc hl ⊢
    by_cases h1 : a < 0
    · have HE := Lib.hid (show (if (false = true) then (([] : List Nat), (20 : Int)) else if a < 0 ∨ n < 0 ∨ (s : Int) < a ∨ (s : Int) - a < n then ([], 43) else ((S.seen.drop a.toNat).take n.toNat, 0)) = ([], 43) by rw [if_neg (by decide), if_pos (.inl h1)])
      rw [HE.out]
      go_enter Try.func18, Try.ntmps18
      go_wp2_with (go_at_call 42; (with_reducible refine HR.out.mono ?_); rintro e w1 ⟨rfl, hq⟩; rw [hq]; clear hq w1)
      go_ret2
      exact ⟨_, rfl, own_nil w, Below.refl _ _⟩
    · by_cases h2 : n < 0
      · have HE := Lib.hid (show (if (false = true) then (([] : List Nat), (20 : Int)) else if a < 0 ∨ n < 0 ∨ (s : Int) < a ∨ (s : Int) - a < n then ([], 43) else ((S.seen.drop a.toNat).take n.toNat, 0)) = ([], 43) by rw [if_neg (by decide), if_pos (.inr (.inl h2))])
        rw [HE.out]
        go_enter Try.func18, Try.ntmps18
        go_wp2_with (go_at_call 42; (with_reducible refine HR.out.mono ?_); rintro e w1 ⟨rfl, hq⟩; rw [hq]; clear hq w1)
        go_ret2
        exact ⟨_, rfl, own_nil w, Below.refl _ _⟩
      · have hw : IntKind.i64.wrap ((s : Int) - a) = (s : Int) - a := by rw [IntKind.wrap_i64]; omega
        by_cases h3 : (s : Int) - a < n
        · have HE := Lib.hid (show (if (false = true) then (([] : List Nat), (20 : Int)) else if a < 0 ∨ n < 0 ∨ (s : Int) < a ∨ (s : Int) - a < n then ([], 43) else ((S.seen.drop a.toNat).take n.toNat, 0)) = ([], 43) by rw [if_neg (by decide), if_pos (.inr (.inr (.inr h3)))])
          rw [HE.out]
          go_enter Try.func18, Try.ntmps18
          go_wp2_with (go_at_call 42; (with_reducible refine HR.out.mono ?_); rintro e w1 ⟨rfl, hq⟩; rw [hq]; clear hq w1)
          go_ret2
          exact ⟨_, rfl, own_nil w, Below.refl _ _⟩
        · have HE := Lib.hid (show (if (false = true) then (([] : List Nat), (20 : Int)) else if a < 0 ∨ n < 0 ∨ (s : Int) < a ∨ (s : Int) - a < n then ([], 43) else ((S.seen.drop a.toNat).take n.toNat, 0)) = ((S.seen.drop a.toNat).take n.toNat, 0) by rw [if_neg (by decide), if_neg (by omega)])
          rw [HE.out]
          obtain ⟨A, rfl⟩ : ∃ A : Nat, a = (A : Int) := ⟨a.toNat, by omega⟩
          obtain ⟨m, rfl⟩ : ∃ m : Nat, n = (m : Int) := ⟨n.toNat, by omega⟩
          simp only [Int.toNat_natCast]
          have hp := (hsr.drop A (by omega)).take m (by rw [List.length_drop]; omega)
          by_cases hcn : cap = A
          · rw [if_pos hcn, hcn, Nat.sub_self] at hp
            have HC := Lib.hid (pclone_any _ _ w hp)
            clear hp hsr hs
            subst hcn
            go_enter Try.func18, Try.ntmps18
            go_wp2_with (first
              | (go_at_call 42; (with_reducible refine HR.out.mono ?_); rintro e w1 ⟨rfl, hq⟩; rw [hq]; clear hq w1)
              | (go_at_call 37; (with_reducible refine HC.out.mono ?_); rintro e w1 ⟨y, rfl, o1, b1, _⟩; have O1 := Lib.hid o1; have B1 := Lib.hid b1; clear o1 b1))
            go_ret2
            exact ⟨_, rfl, O1.out, B1.out⟩
          · rw [if_neg hcn] at hp
            have HC := Lib.hid (pclone_any _ _ w hp)
            clear hp hsr hs
            go_enter Try.func18, Try.ntmps18
            go_wp2_with (first
              | (go_at_call 42; (with_reducible refine HR.out.mono ?_); rintro e w1 ⟨rfl, hq⟩; rw [hq]; clear hq w1)
              | (go_at_call 37; (with_reducible refine HC.out.mono ?_); rintro e w1 ⟨y, rfl, o1, b1, _⟩; have O1 := Lib.hid o1; have B1 := Lib.hid b1; clear o1 b1))
            go_ret2
            exact ⟨_, rfl, O1.out, B1.out⟩
end
end Go.Proofs.Ytipdcocliefppaa
/- The program's device: made, loaded, cloned: contracts. Own work. -/
namespace Go.Proofs.Ytipdcocliefppaa
open Go.ChangeShapes Go.WideShapes Go.ChangeAt Go.RowKit
open DM
/-- The device's block, and what its slices lead to, behind a call that wrote the device's own blocks alone. -/
theorem gone_of {w W : World} {d : Nat} {S S' : DS} {sv fv lv sv' fv' lv' : Value} {t t' : Bool} (h : Mem w d S sv fv lv t) (T : Turn (Blks d sv fv lv) w W) (hb : Blk W d 58 (dvc S' sv' fv' lv' t')) (o1 : Own W 0 sv' S'.seen) (o2 : Own W 0 fv' S'.safe) (o3 : W.ownsRow 0 70 514 lv' S'.loose.length (lwcs S'.loose)) (ht : S'.down = false → t' = S'.told)
    (n1 : ∀ g, sv'.ownBlock = some g → sv.ownBlock = some g ∨ w.heap.size ≤ g) (n2 : ∀ g, fv'.ownBlock = some g → fv.ownBlock = some g ∨ w.heap.size ≤ g) (n3 : ∀ g, lv'.ownBlock = some g → lv.ownBlock = some g ∨ w.heap.size ≤ g)
    (x1 : ∀ g, w.heap.size ≤ g → sv'.ownBlock = some g → fv'.ownBlock ≠ some g) (x2 : ∀ g, w.heap.size ≤ g → sv'.ownBlock = some g → lv'.ownBlock ≠ some g) (x3 : ∀ g, w.heap.size ≤ g → fv'.ownBlock = some g → lv'.ownBlock ≠ some g) :
    Mem W d S' sv' fv' lv' t' ∧ Move w (Blks d sv fv lv) W (Blks d sv' fv' lv') := by
  have hl := h.lt
  have hd := hl d (.inl rfl)
  refine ⟨⟨hb, o1, o2, o3, ht, fun e => ?_, fun e => ?_, fun e => ?_, fun g e q => ?_, fun g e q => ?_, fun g e q => ?_⟩, T, ?_⟩
  · rcases n1 d e with z | z
    · exact h.ns z
    · omega
  · rcases n2 d e with z | z
    · exact h.nf z
    · omega
  · rcases n3 d e with z | z
    · exact h.nl z
    · omega
  · rcases n1 g e with z | z
    · rcases n2 g q with y | y
      · exact h.sf g z y
      · have := hl g (.inr (.inl z)); omega
    · exact x1 g z e q
  · rcases n1 g e with z | z
    · rcases n3 g q with y | y
      · exact h.sl g z y
      · have := hl g (.inr (.inl z)); omega
    · exact x2 g z e q
  · rcases n2 g e with z | z
    · rcases n3 g q with y | y
      · exact h.fl g z y
      · have := hl g (.inr (.inr (.inl z))); omega
    · exact x3 g z e q
  · rintro k (rfl | e | e | e)
    · exact .inl (.inl rfl)
    · exact (n1 k e).imp (fun z => .inr (.inl z)) id
    · exact (n2 k e).imp (fun z => .inr (.inr (.inl z))) id
    · exact (n3 k e).imp (fun z => .inr (.inr (.inr z))) id
/-- A new device. -/
theorem mem_new (w : World) (m : Nat) (cs : List Value) (hcs : cs = dvc (DM.new (m : Int)) (.slice none 0 0) (.slice none 0 0) (.slice none 0 0) false) (b : Nat) (hb : b = w.heap.size) : Mem (w.alloc (.cells cs.toArray 58)) b (DM.new (m : Int)) (.slice none 0 0) (.slice none 0 0) (.slice none 0 0) false := by
  subst hcs
  refine ⟨Blk.new w _ _ b hb, (own_nil _).lower (Nat.zero_le _), (own_nil _).lower (Nat.zero_le _), owned_none _ _ _ _, fun _ => rfl, fun e => (by cases e), fun e => (by cases e), fun e => (by cases e), fun g e => (by cases e), fun g e => (by cases e), fun g e => (by cases e)⟩
theorem pdnew_any (n : Int) (w : World) : Calls Try.prog 10 #[.int .i64 n] w fun e w' => ∃ d, d = w.heap.size ∧ e = .returned (.pointer (some ⟨d, 0, none⟩)) ∧ Mem w' d (DM.new n) (.slice none 0 0) (.slice none 0 0) (.slice none 0 0) false ∧ Below w.heap.size w w' := by
  obtain ⟨m, hm, hn⟩ : ∃ m : Nat, DM.new n = DM.new (m : Int) ∧ (n < 0 ∧ m = 0 ∨ ¬ n < 0 ∧ 16777216 < n ∧ m = 16777216 ∨ ¬ n < 0 ∧ ¬ 16777216 < n ∧ n = (m : Int)) := by
    by_cases h1 : n < 0
    · exact ⟨0, by unfold DM.new; rw [show (max 0 (min n 16777216)).toNat = (max 0 (min ((0 : Nat) : Int) 16777216)).toNat by omega], .inl ⟨h1, rfl⟩⟩
    · by_cases h2 : 16777216 < n
      · exact ⟨16777216, by unfold DM.new; rw [show (max 0 (min n 16777216)).toNat = (max 0 (min ((16777216 : Nat) : Int) 16777216)).toNat by omega], .inr (.inl ⟨h1, h2, rfl⟩)⟩
      · exact ⟨n.toNat, by rw [show ((n.toNat : Nat) : Int) = n by omega], .inr (.inr ⟨h1, h2, by omega⟩)⟩
  rw [hm]
  have HB := Lib.hid ((Below.refl w.heap.size w).alloc (Nat.le_refl _) (.cells #[.int .i64 (m : Int), .slice none 0 0, .slice none 0 0, .slice none 0 0, .int .i64 0, .bool false, .bool false, .int .i64 0, .bool false] 58))
  have hbd := built_dev (m : Int)
  rcases hn with ⟨h1, rfl⟩ | ⟨h1, h2, rfl⟩ | ⟨h1, h2, rfl⟩
  · have HM := Lib.hid (mem_new w 0 _ rfl _ rfl)
    go_enter Try.func10, Try.ntmps10
    go_wp2_with fail
    go_ret
    first | exact ⟨_, rfl, rfl, HM.out, HB.out⟩ | exact ⟨rfl, HM.out, HB.out⟩
  · have HM := Lib.hid (mem_new w 16777216 _ rfl _ rfl)
    go_enter Try.func10, Try.ntmps10
    go_wp2_with fail
    go_ret
    first | exact ⟨_, rfl, rfl, HM.out, HB.out⟩ | exact ⟨rfl, HM.out, HB.out⟩
  · have HM := Lib.hid (mem_new w m [.int .i64 (m : Int), .slice none 0 0, .slice none 0 0, .slice none 0 0, .int .i64 0, .bool false, .bool false, .int .i64 0, .bool false] (by unfold dvc DM.new; rw [show (max 0 (min (m : Int) 16777216)).toNat = m by omega]; rfl) _ rfl)
    clear hm
    go_enter Try.func10, Try.ntmps10
    go_wp2_with fail
    go_ret
    first | exact ⟨_, rfl, rfl, HM.out, HB.out⟩ | exact ⟨rfl, HM.out, HB.out⟩
section
variable (w : World) (d : Nat) (S : DS) (sv fv lv : Value) (t : Bool) (h : Mem w d S sv fv lv t)
include h
theorem pdload_any (v : Value) (l : List Nat) (hv : Rd w v l) (hne : 0 < l.length → ∀ g, v.ownBlock = some g → ¬ Blks d sv fv lv g) (_hm : S.most ≤ 16777216) : Calls Try.prog 17 #[.pointer (some ⟨d, 0, none⟩), v] w fun e w' => e = .returned (.tuple #[]) ∧ Gone w d sv fv lv (DM.load S l) w' := by
  have c0 := h.c0
  have hshape := hv.shape
  unfold DM.load
  by_cases hlm : S.most < l.length
  · rw [if_pos hlm]
    obtain ⟨ao, cap, rfl, hc⟩ := hshape
    have HG := Lib.hid (Gone.same w d S sv fv lv t h)
    have hq : (S.most : Int) < (l.length : Int) := by omega
    clear h hv hne
    go_enter Try.func17, Try.ntmps17
    go_wp2_with fail
    exact bodyPost_ret (results_none rfl _ _ _) rfl ⟨rfl, HG.out⟩
  · rw [if_neg hlm]
    have HC := Lib.hid (fun W (hW : Rd W v l) => pclone_any v l W hW)
    have HV := Lib.hid hv
    have H := Lib.hid h
    obtain ⟨ao, cap, rfl, hc⟩ := hshape
    have hq : ¬ ((S.most : Int) < (l.length : Int)) := by omega
    clear h hv hne
    go_enter Try.func17, Try.ntmps17
    go_wp2_with (first
      | (go_at_call 37; (with_reducible refine (HC.out _ (HV.out)).mono ?_); rintro e w1 ⟨y1, rfl, o1, b1, n1⟩; obtain ⟨a1, c1, rfl, _⟩ := o1.rd.shape; have O1 := Lib.hid o1; have B1 := Lib.hid b1; have N1 := Lib.hid n1; clear o1 b1 n1)
      | (go_at_call 37; (with_reducible refine (HC.out _ (HV.out.below B1.out)).mono ?_); rintro e w2 ⟨y2, rfl, o2, b2, n2⟩; obtain ⟨a2, c2, rfl, _⟩ := o2.rd.shape; have B12 := Lib.hid (B1.out.on b2); have D2 := Lib.hid (H.out.blk.below B12.out H.out.blk.lt); have k1 := D2.out.cell 1 _ rfl; have k2 := D2.out.cell 2 _ rfl; have k3 := D2.out.cell 3 _ rfl; have g1 := D2.out.free 1; have g2 := D2.out.free 2; have g3 := D2.out.free 3; have O2 := Lib.hid o2; have B2 := Lib.hid b2; have N2 := Lib.hid n2; clear o2 b2 n2))
    obtain ⟨y1, hy1⟩ : ∃ y, y = Value.slice a1 l.length c1 := ⟨_, rfl⟩
    obtain ⟨y2, hy2⟩ : ∃ y, y = Value.slice a2 l.length c2 := ⟨_, rfl⟩
    rw [← hy1] at O1 N1 ⊢
    rw [← hy2] at O2 N2 ⊢
    have r1 := O1.out.below B2.out
    have hlt : ∀ g, y1.ownBlock = some g → g < w1.heap.size := fun g q => (O1.out.from g q).2
    have hd := H.out.blk.lt
    have hs1 := B1.out.size
    have hs2 := B2.out.size
    obtain ⟨W, hW⟩ : ∃ W, W = ((w2.setCell ⟨d, 1, none⟩ y1).setCell ⟨d, 2, none⟩ y2).setCell ⟨d, 3, none⟩ (.slice none 0 0) := ⟨_, rfl⟩
    have hg : w2.grownBy W (some d) := by rw [hW]; exact only_trans (only_trans (grownBy_cell _ _ _ _) (grownBy_cell _ _ _ _)) (grownBy_cell _ _ _ _)
    have hne1 : y1.ownBlock = none ∨ y1.ownBlock ≠ some d := .inr fun q => by have := N1.out d q; omega
    have hne2 : y2.ownBlock = none ∨ y2.ownBlock ≠ some d := .inr fun q => by have := N2.out d q; omega
    have hB : Blk W d 58 (dvc { S with seen := l, safe := l, loose := [] } y1 y2 (.slice none 0 0) t) := by rw [hW]; exact ((D2.out.set 1 y1).set 2 y2).set 3 _
    have hr := gone_of H.out (S' := { S with seen := l, safe := l, loose := [] }) (t' := t) ((Turn.of_below B12.out).trans (Turn.of_grown (F := Blks d sv fv lv) hg (.inl rfl)) (fun _ q => .inl q)) hB ((r1.lower (Nat.zero_le _)).keep hg hne1) ((O2.out.lower (Nat.zero_le _)).keep hg hne2) (owned_none _ _ _ _) H.out.tl
      (fun g q => .inr (N1.out g q)) (fun g q => .inr (by have := N2.out g q; omega)) (fun g q => by cases q) (fun g _ q e => by have := hlt g q; have := N2.out g e; omega) (fun g _ _ e => by cases e) (fun g _ _ e => by cases e)
    exact bodyPost_end (results_none rfl _ _ _) rfl ⟨rfl, _, _, _, _, by rw [← hW]; exact hr.1, by rw [← hW]; exact hr.2⟩
end
end Go.Proofs.Ytipdcocliefppaa
/- The program's loose writes in memory: their type, appended to, cloned: contracts. Own work. -/
namespace Go.Proofs.Ytipdcocliefppaa
open Go.ChangeShapes Go.WideShapes Go.ChangeAt Go.RowKit
open DM
/-- A loose write of nought. -/
def zlw : List Value := .int .i64 0 :: .int .i64 0 :: row8 (List.replicate 512 0)
theorem zlw_len : zlw.length = 514 := by unfold zlw; rw [List.length_cons, List.length_cons, row8_len, List.length_replicate]
theorem infoW : (Try.prog.info? 70).map (fun i => (i.zero, i.size, i.bytes)) = some (some (.agg zlw.toArray), 514, 528) := by kernel_rfl
theorem undW : Try.prog.underlying 54 = some (.slice 70) := by kernel_rfl
theorem owned_empty (w : World) (B : Nat) (hB : B ≤ w.heap.size) : (w.alloc (.cells #[] 70)).ownsRow B 70 514 (.slice (some ⟨w.heap.size, 0, none⟩) 0 0) 0 [] :=
  ⟨by simp, .inr ⟨w.heap.size, 0, #[], rfl, hB, Blk.new w _ [] _ rfl, Nat.le_refl _, by unfold maxLen; omega, by simp, by simp⟩⟩
theorem wpList_appW {ops : Array Oper} {rest : List Oper} {o : Oper} {a : Act} {w : World} {Q : Exit → Act → World → Prop} (hgd : o.guard = none) (s x : Operand) (ho : o.op = .call { callee := .builtin .append, args := #[s, x], argTypes := #[54, 54] })
    (B : Nat) (v y : Value) (n m : Nat) (cs ds : List Value) (hs : a.eval s = v) (hx : a.eval x = y) (hv : w.ownsRow B 70 514 v n cs) (hr : RdT 514 w y m ds) (h1 : ∀ u ∈ ds, u.oneCell' = true) (hn : n + m ≤ 34359738368) (hB : B ≤ w.heap.size)
    (h : ∀ v' w', w'.ownsRow B 70 514 v' (n + m) (cs ++ ds) → w.grownBy w' v.ownBlock → (v'.ownBlock = v.ownBlock ∨ v'.ownBlock = some w.heap.size) → wpList Try.prog ops Q rest (a.put o.dst v') w') : wpList Try.prog ops Q (o :: rest) a w := by
  obtain ⟨v', w', hrun, h2, h3, h4⟩ := run_appT w _ _ o.type 514 528 zlw undW infoW zlw_len (by omega) (by omega) B v y n m cs ds hv hr h1 hn hB
  refine wpList_plain hgd fun _ hK => ?_
  unfold Oper.wp
  simp only [execOp, ho, resolve, invoke, builtin, Sem.run_bind, Sem.run_pure, Result.andThen_ok, List.map_toArray, List.map_cons, List.map_nil, hs, hx, hrun]
  exact hK _ _ (h v' w' h2 h3 h4)
/-- slices.Clone of loose writes. -/
theorem pclonew_any (v : Value) (n : Nat) (cs : List Value) (w : World) (h : RdT 514 w v n cs) (h1 : ∀ u ∈ cs, u.oneCell' = true) (hn : n ≤ 34359738368) : Calls Try.prog 38 #[v] w fun e w' =>
    ∃ y, e = .returned y ∧ w'.ownsRow w.heap.size 70 514 y n cs ∧ Below w.heap.size w w' ∧ ∀ g, y.ownBlock = some g → w.heap.size ≤ g := by
  rcases h.form with ⟨rfl, rfl⟩ | ⟨ad, cap, rfl, hc, _⟩
  · have hq := Lib.run_eql_slice_nil (P := Try.prog) w 54 70 none 0 0 0 0 Try.underlying54
    obtain rfl : cs = [] := List.eq_nil_of_length_eq_zero (by have := h.len; omega)
    clear h
    go_enter Try.func38, Try.ntmps38
    go_wp2_with fail
    go_ret
    exact ⟨_, rfl, owned_none _ _ _ _, Below.refl _ _, fun g hg => by cases hg⟩
  · have HH := Lib.hid (h.grown (w' := w.alloc (.cells #[] 70)) (row := none) (grown_of_below ((Below.refl w.heap.size w).alloc (Nat.le_refl _) _) none) (.inr (by simp [Value.ownBlock])))
    have H1 := Lib.hid h1
    have HN := Lib.hid hn
    have hq := Lib.run_eql_slice_nil (P := Try.prog) w 54 70 (some ad) n cap 0 0 Try.underlying54
    clear h h1 hn
    go_enter Try.func38, Try.ntmps38
    go_wp2_with (at_builtin; refine wpList_appW rfl (.tmp 5) (.tmp 6) rfl w.heap.size (.slice (some ⟨w.heap.size, 0, none⟩) 0 0) _ 0 n [] cs rfl rfl (owned_empty w _ (Nat.le_refl _)) HH.out H1.out (by have := HN.out; omega) (by simp) ?_; intro v1 w1 o1 g1 k1; rw [List.nil_append, Nat.zero_add] at o1; have O1 := Lib.hid o1; have G1 := Lib.hid (((Below.refl w.heap.size w).alloc (Nat.le_refl _) (.cells #[] 70)).grown g1 (by simp) (fun k hk => (World.ownsRow.lt (owned_empty w _ (Nat.le_refl _)) k hk).1)); clear o1 g1 k1)
    go_ret
    exact ⟨_, rfl, O1.out, G1.out, fun g hg => (World.ownsRow.lt O1.out g hg).1⟩
end Go.Proofs.Ytipdcocliefppaa
/- A device's sectors, on numbers: what is copied where. Own work. -/
namespace Go.Proofs.Ytipdcocliefppaa
open DM
theorem lwcs_get (l : List LW) (hl : ∀ x ∈ l, x.bytes.length ≤ 512) (k : Nat) (x : LW) (h : l[k]? = some x) (i : Nat) (hi : i < 514) : (lwcs l)[k * 514 + i]? = (lwc x)[i]? := by
  induction l generalizing k with
  | nil => simp at h
  | cons y r ih =>
    have e : lwcs (y :: r) = lwc y ++ lwcs r := by unfold lwcs; simp
    have hy := lwc_len (hl y (List.mem_cons_self ..))
    rw [e]
    cases k with
    | zero =>
      simp at h; subst h
      rw [List.getElem?_append_left (by omega), Nat.zero_mul, Nat.zero_add]
    | succ k =>
      rw [List.getElem?_append_right (by omega), hy, show (k + 1) * 514 + i - 514 = k * 514 + i by omega]
      exact ih (fun z hz => hl z (List.mem_cons_of_mem _ hz)) k (by simpa using h)
theorem gbl_ext {l m : List Nat} (hl : l.length = m.length) (h : ∀ k, k < l.length → gb l k = gb m k) : l = m := by
  apply List.ext_getElem hl
  intro i h1 h2
  have := h i h1
  unfold gb at this
  rw [List.getD_eq_getElem?_getD, List.getD_eq_getElem?_getD, List.getElem?_eq_getElem h1, List.getElem?_eq_getElem h2] at this
  exact this
theorem gb_padTo (l : List Nat) (n k : Nat) : gb (padTo l n) k = gb l k := by
  unfold padTo gb
  simp only [List.getD_eq_getElem?_getD, List.getElem?_append, List.getElem?_replicate]
  split
  · rfl
  · rw [List.getElem?_eq_none (l := l) (by omega)]
    split <;> rfl
/-- A sector of s copied into C. -/
theorem cover_step (s C : List Nat) (p k : Nat) (hp : p % 512 = 0) (hC : C.length = s.length) (hk : k = min 512 (s.length - p)) (hps : p ≤ s.length) :
    (C.take p ++ (s.drop p).take k ++ C.drop (p + k)).length = s.length ∧ ∀ j, j < s.length → gb (C.take p ++ (s.drop p).take k ++ C.drop (p + k)) j = if j / 512 = p / 512 then gb s j else gb C j := by
  have h1 : (C.take p).length = p := by rw [List.length_take]; omega
  have h2 : ((s.drop p).take k).length = k := by rw [List.length_take, List.length_drop]; omega
  refine ⟨by simp only [List.length_append, h1, h2, List.length_drop]; omega, fun j hj => ?_⟩
  unfold gb
  simp only [List.getD_eq_getElem?_getD]
  by_cases c1 : j < p
  · rw [List.append_assoc, List.getElem?_append_left (by omega), List.getElem?_take, if_pos c1, if_neg (by omega)]
  · by_cases c2 : j < p + k
    · rw [List.append_assoc, List.getElem?_append_right (by omega), List.getElem?_append_left (by omega), h1, List.getElem?_take, if_pos (by omega), List.getElem?_drop, if_pos (by omega), show p + (j - p) = j by omega]
    · rw [List.getElem?_append_right (by rw [List.length_append]; omega), List.length_append, h1, h2, List.getElem?_drop, if_neg (by omega), show p + k + (j - (p + k)) = j by omega]
end Go.Proofs.Ytipdcocliefppaa

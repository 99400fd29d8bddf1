/- The document's reader, a struct by value: its numbers and texts. Own work. -/
import Derived.Test.YtngflmdlgaeokaaRefCalls
namespace Go.Proofs.Ytngflmdlgaeokaa
open Go.RowKit
set_option maxHeartbeats 1000000 in
theorem refNumber_any (w : World) (sv : Value) (l : List Nat) (e n : Int) (h : Rd w sv l) (hl : e ≠ 0 → l = []) : Calls Try.prog 33 #[refv sv e, .int .i64 n] w fun ev w' => ∃ sv', ev = .returned (.tuple #[refv sv' (rpErr l e n), .int .u64 (num (rpGot l e n) : Nat)]) ∧ (∀ W, Rd W sv l → Rd W sv' (rpLeft l e n)) ∧ Below w.heap.size w w' := by
  have hby := rpGot_byte h.byte e n
  obtain ⟨ao, cap, rfl, _⟩ := h.shape
  have b0 := below2 w (.cells #[.slice ao l.length cap, .int .i64 e] 46) (.cells #[.slice none 0 0, .int .i64 0] 46)
  have k0 : Blk ((w.alloc (.cells #[.slice ao l.length cap, .int .i64 e] 46)).alloc (.cells #[.slice none 0 0, .int .i64 0] 46)) (w.heap.size + 1) 46 [.slice none 0 0, .int .i64 0] := Blk.new _ _ _ _ (by simp)
  have ht := refTake_any _ _ l e n (h.below b0) hl
  obtain ⟨L, hL⟩ : ∃ L, L = rpGot l e n := ⟨_, rfl⟩
  rw [← hL] at ht hby ⊢
  obtain ⟨E, hE⟩ : ∃ E, E = rpErr l e n := ⟨_, rfl⟩
  rw [← hE] at ht ⊢
  have HY := Lib.hid hby
  have HT := Lib.hid ht
  have B0 := Lib.hid b0
  have RB := Lib.hid (h.below b0)
  have K0 := Lib.hid k0
  clear ht hL hE hby b0 k0 h hl
  go_enter Try.func33, Try.ntmps33
  go_wp2_with (go_at_call 34; refine Calls.mono HT.out ?_; rintro ev w1 ⟨sv', v, rfl, h1, h2, h3⟩; obtain ⟨a1, c1, rfl, _⟩ := (h1 _ RB.out).shape; obtain ⟨a2, c2, rfl, _⟩ := h2.rd.shape; have S1 := Lib.hid h1; have V1 := Lib.hid h2.rd; have B1 := Lib.hid (B0.out.on h3); have K1 := Lib.hid (K0.out.below h3 K0.out.lt); clear h1 h2 h3)
  have hlt1 := K1.out.lt
  have V2 := Lib.hid (V1.out.alloc (.cells #[.slice a1 (rpLeft l e n).length c1, .int .i64 E] 46))
  have d0 := K1.out.cell 0 _ rfl
  have d1 := K1.out.cell 1 _ rfl
  have g0 := K1.out.free 0
  have g1 := K1.out.free 1
  have hfit := V2.out.fits
  have hsz := B1.out.size
  clear V1
  go_loop [8, 9] (fun a i => ∃ k : Nat, k ≤ L.length ∧ i = .int .i64 k ∧ a = .int .u64 ((num (L.take k) : Nat) : Int)) (fun _ i => L.length - (intOf i).toNat)
  case atStart => exact ⟨0, Nat.zero_le _, rfl, rfl⟩
  case round =>
    obtain ⟨k, hk, rfl, rfl⟩ := hrel
    by_cases hlt : k < L.length
    · obtain ⟨ad, rfl, hc⟩ := V2.out.at_ k hlt
      have hn := num_lt (L.take k) (gb_take_byte L k HY.out)
      have hb := HY.out k
      obtain ⟨A, hA⟩ : ∃ A, A = num (L.take k) := ⟨_, rfl⟩
      obtain ⟨b, hbb⟩ : ∃ b, b = gb L k := ⟨_, rfl⟩
      rw [← hA] at hn ⊢
      rw [← hbb] at hb hc
      have HA := Lib.hid hA
      have HBB := Lib.hid hbb
      clear hA hbb
      go_wp2_with fail
      refine ⟨⟨k + 1, by omega, by go_num, ?_⟩, by simp [intOf]; omega⟩
      rw [or_step A b hb, num_take L k hlt, HA.out, HBB.out]
    · obtain rfl : k = L.length := by omega
      go_wp2_with fail
      exact bodyPost_ret (results_mid2 rfl _ _ (w.heap.size + 1) [.slice a1 (rpLeft l e n).length c1, .int .i64 E] _ rfl ((cell_final K1.out _ _).alloc _) Try.underlying46 rfl infoRd) rfl ⟨_, rfl, S1.out, (below_final B1.out (by omega) _ _).alloc (by simpa using hsz) _⟩

set_option maxHeartbeats 1000000 in
theorem refText_cut (w : World) (sv : Value) (l : List Nat) (e m : Int) (h : Rd w sv l) (hl : e ≠ 0 → l = []) (hc : rpErr l e 1 ≠ 0) : Calls Try.prog 35 #[refv sv e, .int .i64 m] w fun ev w' => ∃ sv', ev = .returned (.tuple #[refv sv' (rpErr l e 1), .string ⟨#[]⟩]) ∧ (∀ W, Rd W sv l → Rd W sv' (rpLeft l e 1)) ∧ Below w.heap.size w w' := by
  obtain ⟨ao, cap, rfl, _⟩ := h.shape
  have b0 := below2 w (.cells #[.slice ao l.length cap, .int .i64 e] 46) (.cells #[.slice none 0 0, .int .i64 0] 46)
  have k0 : Blk ((w.alloc (.cells #[.slice ao l.length cap, .int .i64 e] 46)).alloc (.cells #[.slice none 0 0, .int .i64 0] 46)) (w.heap.size + 1) 46 [.slice none 0 0, .int .i64 0] := Blk.new _ _ _ _ (by simp)
  have ht := refNumber_any _ _ l e 1 (h.below b0) hl
  obtain ⟨E, hE⟩ : ∃ E, E = rpErr l e 1 := ⟨_, rfl⟩
  rw [← hE] at ht hc ⊢
  have hc' : (E == 0) = false := by simpa using hc
  have HT := Lib.hid ht
  have B0 := Lib.hid b0
  have RB := Lib.hid (h.below b0)
  have K0 := Lib.hid k0
  clear ht b0 k0 h hl hE hc
  go_enter Try.func35, Try.ntmps35
  go_wp2_with (go_at_call 33; refine Calls.mono HT.out ?_; rintro ev w1 ⟨sv', rfl, h1, h3⟩; obtain ⟨a1, c1, rfl, _⟩ := (h1 _ RB.out).shape; have S1 := Lib.hid h1; have k1 := K0.out.below h3 K0.out.lt; have hlt1 := k1.lt; have d0 := k1.cell 0 _ rfl; have d1 := k1.cell 1 _ rfl; have g0 := k1.free 0; have g1 := k1.free 1; have B1 := Lib.hid (B0.out.on h3); have K1 := Lib.hid k1; clear h1 h3 k1)
  have hsz := B1.out.size
  exact bodyPost_ret (results_mid2 rfl _ _ (w.heap.size + 1) [.slice a1 (rpLeft l e 1).length c1, .int .i64 E] _ rfl ((cell_final K1.out _ _).alloc _) Try.underlying46 rfl infoRd) rfl ⟨_, rfl, S1.out, (below_final B1.out (by omega) _ _).alloc (by simpa using hsz) _⟩
/-- Behind the first byte, where it is there. -/
theorem one_left {l : List Nat} (hl : 0 < l.length) : rpErr l 0 1 = 0 ∧ rpLeft l 0 1 = l.drop 1 ∧ num (rpGot l 0 1) = gb l 0 := by
  have hk : lookP 1 l.length = 0 := by unfold lookP; rw [if_neg (by omega), if_neg (by omega)]
  refine ⟨by unfold rpErr; rw [if_pos rfl, hk], by unfold rpLeft; rw [if_pos ⟨rfl, hk⟩]; rfl, ?_⟩
  unfold rpGot; rw [if_pos ⟨rfl, hk⟩]
  cases l with
  | nil => simp at hl
  | cons x r => show num [x] = x; simp [num, numStep]
set_option maxHeartbeats 1000000 in
theorem refText_stop (w : World) (sv : Value) (l : List Nat) (m : Int) (h : Rd w sv l) (hl0 : 0 < l.length) (hk : lookT m l ≠ 0) : Calls Try.prog 35 #[refv sv 0, .int .i64 m] w fun ev w' => ev = .returned (.tuple #[refv (.slice none 0 0) (lookT m l), .string ⟨#[]⟩]) ∧ Below w.heap.size w w' := by
  have hl : (0 : Int) ≠ 0 → l = [] := fun q => absurd rfl q
  obtain ⟨e1, e2, e3⟩ := one_left hl0
  have hby := h.byte 0
  have hfit := h.fits
  obtain ⟨ao, cap, rfl, _⟩ := h.shape
  have b0 := below2 w (.cells #[.slice ao l.length cap, .int .i64 0] 46) (.cells #[.slice none 0 0, .int .i64 0] 46)
  have k0 : Blk ((w.alloc (.cells #[.slice ao l.length cap, .int .i64 0] 46)).alloc (.cells #[.slice none 0 0, .int .i64 0] 46)) (w.heap.size + 1) 46 [.slice none 0 0, .int .i64 0] := Blk.new _ _ _ _ (by simp)
  have ht := refNumber_any _ _ l 0 1 (h.below b0) hl
  rw [e1, e2, e3] at ht
  have hdl : (l.drop 1).length = l.length - 1 := List.length_drop
  obtain ⟨D, hD⟩ : ∃ D, D = l.drop 1 := ⟨_, rfl⟩
  obtain ⟨b, hb⟩ : ∃ b, b = gb l 0 := ⟨_, rfl⟩
  rw [← hD] at ht hdl
  rw [← hb] at ht hby
  have ew : IntKind.i64.wrap (b : Int) = (b : Int) := by rw [IntKind.wrap_i64]; omega
  have HT := Lib.hid ht
  have B0 := Lib.hid b0
  have RB := Lib.hid (h.below b0)
  have K0 := Lib.hid k0
  by_cases h1 : l.length < 1 + b
  · have eT : lookT m l = 3 := by unfold lookT; rw [← hb, if_pos h1]
    rw [eT]
    have hgt : (D.length : Int) < (b : Int) := by omega
    clear ht b0 k0 h hl hk eT e1 e2 e3 hD hb hdl
    go_enter Try.func35, Try.ntmps35
    go_wp2_with (first | (go_at_call 33; refine Calls.mono HT.out ?_; rintro ev w1 ⟨sv', rfl, h1, h3⟩; obtain ⟨a1, c1, rfl, _⟩ := (h1 _ RB.out).shape; have S1 := Lib.hid h1; have k1 := K0.out.below h3 K0.out.lt; have hlt1 := k1.lt; have d0 := k1.cell 0 _ rfl; have d1 := k1.cell 1 _ rfl; have g0 := k1.free 0; have g1 := k1.free 1; have B1 := Lib.hid (B0.out.on h3); have K1 := Lib.hid k1; clear h1 h3 k1) | (go_at_call 40; refine (stop_any _ 3).mono ?_; rintro ev w2 ⟨rfl, k3⟩; have q2 := (K1.out.alloc _).below k3 (by simp; omega); have c0 := q2.cell 0 _ rfl; have c1' := q2.cell 1 _ rfl; have f0 := q2.free 0; have f1 := q2.free 1; have Q2 := Lib.hid q2; have K3 := Lib.hid k3; clear q2 k3))
    have hsz := B1.out.size
    exact bodyPost_ret (results_mid2 rfl _ _ (w.heap.size + 1) [.slice none 0 0, .int .i64 3] _ rfl (cell_final Q2.out _ _) Try.underlying46 rfl infoRd) rfl ⟨rfl, below_final ((B1.out.alloc hsz _).on K3.out) (by omega) _ _⟩
  · have h2 : m < (b : Int) := by
      unfold lookT at hk
      rw [← hb, if_neg h1] at hk
      split at hk
      · assumption
      · exact absurd rfl hk
    have eT : lookT m l = 5 := by unfold lookT; rw [← hb, if_neg h1, if_pos h2]
    rw [eT]
    have hle : ¬ (D.length : Int) < (b : Int) := by omega
    clear ht b0 k0 h hl hk eT e1 e2 e3 hD hb hdl
    go_enter Try.func35, Try.ntmps35
    go_wp2_with (first | (go_at_call 33; refine Calls.mono HT.out ?_; rintro ev w1 ⟨sv', rfl, h1, h3⟩; obtain ⟨a1, c1, rfl, _⟩ := (h1 _ RB.out).shape; have S1 := Lib.hid h1; have k1 := K0.out.below h3 K0.out.lt; have hlt1 := k1.lt; have d0 := k1.cell 0 _ rfl; have d1 := k1.cell 1 _ rfl; have g0 := k1.free 0; have g1 := k1.free 1; have B1 := Lib.hid (B0.out.on h3); have K1 := Lib.hid k1; clear h1 h3 k1) | (go_at_call 40; refine (stop_any _ 5).mono ?_; rintro ev w2 ⟨rfl, k3⟩; have q2 := (K1.out.alloc _).below k3 (by simp; omega); have c0 := q2.cell 0 _ rfl; have c1' := q2.cell 1 _ rfl; have f0 := q2.free 0; have f1 := q2.free 1; have Q2 := Lib.hid q2; have K3 := Lib.hid k3; clear q2 k3))
    all_goals have hsz := B1.out.size
    all_goals exact bodyPost_ret (results_mid2 rfl _ _ (w.heap.size + 1) [.slice none 0 0, .int .i64 5] _ rfl (cell_final Q2.out _ _) Try.underlying46 rfl infoRd) rfl ⟨rfl, below_final ((B1.out.alloc hsz _).on K3.out) (by omega) _ _⟩
set_option maxHeartbeats 1000000 in
theorem refText_ok (w : World) (sv : Value) (l : List Nat) (m : Int) (h : Rd w sv l) (hk : lookT m l = 0) : Calls Try.prog 35 #[refv sv 0, .int .i64 m] w fun ev w' => ∃ sv', ev = .returned (.tuple #[refv sv' 0, .string (bstr ((l.drop 1).take (gb l 0)))]) ∧ (∀ W, Rd W sv l → Rd W sv' (l.drop (1 + gb l 0))) ∧ Below w.heap.size w w' := by
  have hl : (0 : Int) ≠ 0 → l = [] := fun q => absurd rfl q
  have hle := rd_lookT hk
  have hm : (gb l 0 : Int) ≤ m := by
    unfold lookT at hk
    split at hk
    · cases hk
    · split at hk
      · cases hk
      · omega
  obtain ⟨e1, e2, e3⟩ := one_left (l := l) (by omega)
  have hby := h.byte 0
  have hfit := h.fits
  obtain ⟨ao, cap, rfl, _⟩ := h.shape
  have b0 := below2 w (.cells #[.slice ao l.length cap, .int .i64 0] 46) (.cells #[.slice none 0 0, .int .i64 0] 46)
  have k0 : Blk ((w.alloc (.cells #[.slice ao l.length cap, .int .i64 0] 46)).alloc (.cells #[.slice none 0 0, .int .i64 0] 46)) (w.heap.size + 1) 46 [.slice none 0 0, .int .i64 0] := Blk.new _ _ _ _ (by simp)
  have ht := refNumber_any _ _ l 0 1 (h.below b0) hl
  rw [e1, e2, e3] at ht
  have hdl : (l.drop 1).length = l.length - 1 := List.length_drop
  have hdd : l.drop (1 + gb l 0) = (l.drop 1).drop (gb l 0) := by rw [List.drop_drop]
  rw [hdd]
  obtain ⟨D, hD⟩ : ∃ D, D = l.drop 1 := ⟨_, rfl⟩
  obtain ⟨b, hb⟩ : ∃ b, b = gb l 0 := ⟨_, rfl⟩
  rw [← hD] at ht hdl ⊢
  rw [← hb] at ht hby hle hm ⊢
  have ew : IntKind.i64.wrap (b : Int) = (b : Int) := by rw [IntKind.wrap_i64]; omega
  have hbD : b ≤ D.length := by omega
  have hn1 : ¬ (D.length : Int) < (b : Int) := by omega
  have hn2 : ¬ m < (b : Int) := by omega
  have hn3 : ¬ m < 0 := by omega
  have HT := Lib.hid ht
  have B0 := Lib.hid b0
  have RB := Lib.hid (h.below b0)
  have K0 := Lib.hid k0
  have HBD := Lib.hid hbD
  clear ht b0 k0 h hl hk e1 e2 e3 hD hb hdl hdd hle
  go_enter Try.func35, Try.ntmps35
  go_wp2_with (first | (go_at_call 33; refine Calls.mono HT.out ?_; rintro ev w1 ⟨sv', rfl, h1, h3⟩; have rb1 := RB.out.below h3; obtain ⟨a1, c1, rfl, _⟩ := (h1 _ rb1).shape; have S1 := Lib.hid h1; have k1 := K0.out.below h3 K0.out.lt; have hlt1 := k1.lt; have d0 := k1.cell 0 _ rfl; have d1 := k1.cell 1 _ rfl; have g0 := k1.free 0; have g1 := k1.free 1; have B1 := Lib.hid (B0.out.on h3); have K1 := Lib.hid k1; have RB1 := Lib.hid (h1 _ rb1); have N1 := Lib.hid (Blk.new w1 46 [.slice a1 D.length c1, .int .i64 0] w1.heap.size rfl); clear h1 h3 k1 rb1) | (go_at_call 34; refine Calls.mono (rtake_ok _ _ D b (RB1.out.alloc _) HBD.out) ?_; rintro ev w2 ⟨sv2, v, rfl, h1, h2, h3⟩; obtain ⟨a2, c2, rfl, _⟩ := (h1 _ ((RB1.out.alloc _).below h3)).shape; have S2 := Lib.hid h1; have n2 := N1.out.below h3 (by simp); have m2 := (K1.out.alloc _).below h3 (by simp; omega); have V2 := Lib.hid h2; have B2 := Lib.hid ((B1.out.alloc B1.out.size _).on h3); have p0 := n2.cell 0 _ rfl; have p1 := n2.cell 1 _ rfl; have q0 := n2.free 0; have q1 := n2.free 1; have N2 := Lib.hid n2; have M2 := Lib.hid m2; clear h1 h2 h3 n2 m2))
  have hne : v.ownBlock ≠ some w1.heap.size := fun q => by have := (V2.out.from _ q).1; simp at this; omega
  have hne4 : v.ownBlock ≠ some (w.heap.size + 1) := fun q => by have := (V2.out.from _ q).1; simp at this; omega
  have n3 := (N2.out.set 0 (.slice a2 (D.length - b) c2)).set 1 (.int .i64 0)
  have m3 := (M2.out.other ⟨w1.heap.size, 0, none⟩ (.slice a2 (D.length - b) c2) (by simp; omega)).other ⟨w1.heap.size, 1, none⟩ (.int .i64 0) (by simp; omega)
  have v3 := (V2.out.rd.setCell ⟨w1.heap.size, 0, none⟩ (.slice a2 (D.length - b) c2) hne).setCell ⟨w1.heap.size, 1, none⟩ (.int .i64 0) hne
  have b3 := below_final B2.out (b := w1.heap.size) (by omega) (.slice a2 (D.length - b) c2) (.int .i64 0)
  simp only [List.set_cons_zero, List.set_cons_succ] at n3
  generalize ((w2.setCell ⟨w1.heap.size, 0, none⟩ (.slice a2 (D.length - b) c2)).setCell ⟨w1.heap.size, 1, none⟩ (.int .i64 0)) = W at *
  have c0 := n3.cell 0 _ rfl
  have c1' := n3.cell 1 _ rfl
  have e0 := m3.cell 0 _ rfl
  have e1 := m3.cell 1 _ rfl
  have f0 := m3.free 0
  have f1 := m3.free 1
  have s3 := v3.drew.str
  have s4 := ((v3.setCell ⟨w.heap.size + 1, 0, none⟩ (.slice a2 (D.length - b) c2) hne4).setCell ⟨w.heap.size + 1, 1, none⟩ (.int .i64 0) hne4).drew.str
  have M3 := Lib.hid m3
  have B3 := Lib.hid b3
  clear n3 m3 v3 b3 p0 p1 q0 q1 d0 d1 g0 g1 hne hne4
  go_region
  all_goals go_wp2_with fail
  all_goals exact bodyPost_ret (results_mid2 rfl _ _ (w.heap.size + 1) [.slice a2 (D.length - b) c2, .int .i64 0] _ rfl (cell_final M3.out.drew _ _) Try.underlying46 rfl infoRd) rfl ⟨_, rfl, fun W' hW' => by have h := S2.out W' (S1.out W' hW'); rw [List.length_drop] at h; exact h, below_final B3.out.drew (by omega) _ _⟩
/-- The document's Text, for whatever reader of it. -/
theorem refText_any (w : World) (sv : Value) (l : List Nat) (e m : Int) (h : Rd w sv l) (hl : e ≠ 0 → l = []) : Calls Try.prog 35 #[refv sv e, .int .i64 m] w fun ev w' => ∃ sv', ev = .returned (.tuple #[refv sv' (rtErr l e m), .string (bstr (rtGot l e m))]) ∧ (∀ W, Rd W sv l → Rd W sv' (rtLeft l e m)) ∧ Below w.heap.size w w' := by
  by_cases he : e = 0
  · subst he
    by_cases hk : lookT m l = 0
    · unfold rtGot rtLeft rtErr
      rw [if_pos rfl, if_pos ⟨rfl, hk⟩, if_pos ⟨rfl, hk⟩, hk]
      exact refText_ok w sv l m h hk
    · unfold rtGot rtLeft rtErr
      rw [if_pos rfl, if_neg (fun q => hk q.2), if_neg (fun q => hk q.2)]
      by_cases h0 : 0 < l.length
      · exact (refText_stop w sv l m h h0 hk).mono fun ev w' ⟨h1, h2⟩ => ⟨_, h1, fun W _ => Rd.none_ W, h2⟩
      · obtain rfl : l = [] := List.eq_nil_of_length_eq_zero (by omega)
        have k := refText_cut w sv [] 0 m h (fun _ => rfl) (by decide)
        exact k
  · have := hl he
    subst this
    have e1 : rpErr [] e 1 = e := by unfold rpErr; rw [if_neg he]
    have e2 : rpLeft [] e 1 = [] := by unfold rpLeft; rw [if_neg (fun q => he q.1)]
    have k := refText_cut w sv [] e m h (fun _ => rfl) (by rw [e1]; exact he)
    rw [e1, e2] at k
    unfold rtGot rtLeft rtErr
    rw [if_neg he, if_neg (fun q => he q.1), if_neg (fun q => he q.1)]
    exact k
end Go.Proofs.Ytngflmdlgaeokaa

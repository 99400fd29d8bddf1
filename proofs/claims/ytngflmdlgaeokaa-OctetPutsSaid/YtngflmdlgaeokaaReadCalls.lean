/- A reader of bytes behind its pointer: contracts of package octet's reader. Own work. -/
import Derived.Test.YtngflmdlgaeokaaPutCalls
import Derived.BigQuiet
import Derived.BigRegion
import Derived.LaidEqlPtr
namespace Go.Proofs.Ytngflmdlgaeokaa
open Go.RowKit
theorem below_dN {B : Nat} {a w : World} (h : Below B a w) (n : Nat) : Below B a (w.drewN n) := ⟨h.os, h.tape, h.output, h.size, h.block⟩
/-- The reader in block rb: what is left, and its error. -/
def Rdr (w : World) (rb : Nat) (l : List Nat) (e : Int) : Prop :=
  ∃ sv, Blk w rb 65 [sv, .int .i64 e] ∧ Rd w sv l ∧ sv.ownBlock ≠ some rb
/-- Of the old blocks the one alone has turned. -/
theorem only_set {a w : World} {g : Nat} (h : a.grownBy w (some g)) {p : Addr} (hp : p.block = g ∨ a.heap.size ≤ p.block) (u : Value) : a.grownBy (w.setCell p u) (some g) := by
  refine ⟨h.os, h.tape, h.output, by simpa [World.setCell] using h.size, fun i hi hne => ?_⟩
  rw [Below.heap_setCell w p u i (fun e => by
    rcases hp with q | q
    · exact hne (by rw [← q, ← e])
    · omega)]
  exact h.block i hi hne
/-- What is wrong with reading n bytes of so many. -/
def lookP (n : Int) (len : Nat) : Int := if n < 0 then 2 else if (len : Int) < n then 3 else 0
set_option maxHeartbeats 400000 in
theorem pass1_any (w : World) (rb bn br : Nat) (l : List Nat) (e n : Int) (hR : Rdr w rb l e) (hn : Blk w bn 3 [.int .i64 n]) (hr : Blk w br 43 [.pointer (some ⟨rb, 0, none⟩)]) :
    Calls Try.prog 41 #[.pointer (some ⟨bn, 0, none⟩), .pointer (some ⟨br, 0, none⟩)] w fun ev w' => ev = .returned (.int .i64 (lookP n l.length)) ∧ Below w.heap.size w w' := by
  obtain ⟨sv, hb, hs, _⟩ := hR
  obtain ⟨ao, cap, rfl, hc⟩ := hs.shape
  have c0 := hn.cell 0 _ rfl
  have c1 := hr.cell 0 _ rfl
  have c2 := hb.cell 0 _ rfl
  clear hs hn hr hb
  by_cases h0 : n < 0
  · rw [show lookP n l.length = 2 by unfold lookP; rw [if_pos h0]]
    go_enter Try.func41, Try.ntmps41
    go_wp2_with fail
    go_ret
    exact ⟨rfl, Below.refl _ _⟩
  · by_cases h1 : (l.length : Int) < n
    · rw [show lookP n l.length = 3 by unfold lookP; rw [if_neg h0, if_pos h1]]
      go_enter Try.func41, Try.ntmps41
      go_wp2_with fail
      go_quiet (fail)
      go_wp2_with fail
      go_ret
      exact ⟨rfl, below_dN (Below.refl _ _) _⟩
    · rw [show lookP n l.length = 0 by unfold lookP; rw [if_neg h0, if_neg h1]]
      go_enter Try.func41, Try.ntmps41
      go_wp2_with fail
      go_quiet (fail)
      go_wp2_with fail
      go_ret
      exact ⟨rfl, below_dN (Below.refl _ _) _⟩

/-- What is wrong with reading a text of at most m bytes. -/
def lookT (m : Int) (l : List Nat) : Int := if l.length < 1 + gb l 0 then 3 else if m < (gb l 0 : Int) then 5 else 0
set_option maxHeartbeats 400000 in
theorem text1_any (w : World) (rb bn br : Nat) (l : List Nat) (e n : Int) (hR : Rdr w rb l e) (hn : Blk w bn 3 [.int .i64 n]) (hr : Blk w br 43 [.pointer (some ⟨rb, 0, none⟩)]) :
    Calls Try.prog 39 #[.pointer (some ⟨br, 0, none⟩), .pointer (some ⟨bn, 0, none⟩)] w fun ev w' => ev = .returned (.int .i64 (lookT n l)) ∧ Below w.heap.size w w' := by
  obtain ⟨sv, hb, hs, _⟩ := hR
  have c0 := hn.cell 0 _ rfl
  have c1 := hr.cell 0 _ rfl
  have c2 := hb.cell 0 _ rfl
  clear hn hr hb
  have hfit := hs.fits
  by_cases h0 : l.length = 0
  · obtain rfl : l = [] := List.eq_nil_of_length_eq_zero h0
    obtain ⟨ao, cap, rfl, hc⟩ := hs.shape
    clear hs
    rw [show lookT n [] = 3 from rfl]
    go_enter Try.func39, Try.ntmps39
    go_wp2_with fail
    go_quiet (fail)
    go_wp2_with fail
    go_ret
    exact ⟨rfl, below_dN (Below.refl _ _) _⟩
  · rcases hs.form with ⟨_, q⟩ | ⟨ad, cap, rfl, hc, hcs⟩
    · exact absurd (by rw [q]; rfl) h0
    have c3 := hcs 0 (by omega)
    rw [Addr.add_zero'] at c3
    have hb := hs.byte 0
    clear hs hcs
    have hd : decide ((l.length : Int) = 0) = false := by simpa using h0
    have hq : ((l.length : Int) == 0) = false := by simpa using h0
    by_cases h1 : l.length < 1 + gb l 0
    · have h1' : (l.length : Int) - 1 < (gb l 0 : Int) := by omega
      rw [show lookT n l = 3 by unfold lookT; rw [if_pos h1]]
      go_enter Try.func39, Try.ntmps39
      go_wp2_with fail
      go_quiet (fail)
      go_wp2_with fail
      go_ret
      exact ⟨rfl, below_dN (Below.refl _ _) _⟩
    · have h1' : ¬ (l.length : Int) - 1 < (gb l 0 : Int) := by omega
      by_cases h2 : n < (gb l 0 : Int)
      · rw [show lookT n l = 5 by unfold lookT; rw [if_neg h1, if_pos h2]]
        go_enter Try.func39, Try.ntmps39
        go_wp2_with fail
        go_quiet (fail)
        go_wp2_with fail
        go_quiet (fail)
        go_wp2_with fail
        go_ret
        exact ⟨rfl, below_dN (below_dN (Below.refl _ _) _) _⟩
      · rw [show lookT n l = 0 by unfold lookT; rw [if_neg h1, if_neg h2]]
        go_enter Try.func39, Try.ntmps39
        go_wp2_with fail
        go_quiet (fail)
        go_wp2_with fail
        go_quiet (fail)
        go_wp2_with fail
        go_ret
        exact ⟨rfl, below_dN (below_dN (Below.refl _ _) _) _⟩

set_option maxHeartbeats 400000 in
theorem sound_pass_old (w : World) (rb bn br : Nat) (l : List Nat) (e n : Int) (hR : Rdr w rb l e) (_hn : Blk w bn 3 [.int .i64 n]) (_hr : Blk w br 43 [.pointer (some ⟨rb, 0, none⟩)]) (he : e ≠ 0) :
    Calls Try.prog 38 #[.pointer (some ⟨rb, 0, none⟩), .func (.func 41) #[] #[.pointer (some ⟨bn, 0, none⟩), .pointer (some ⟨br, 0, none⟩)]] w fun ev w' => ev = .returned (.bool false) ∧ w.grownBy w' (some rb) ∧ Rdr w' rb [] e := by
  obtain ⟨sv, hb, hs, hne⟩ := hR
  have c1 := hb.cell 1 _ rfl
  have c0 := hb.cell 0 _ rfl
  have f0 := hb.free 0
  have hq : (e == 0) = false := by simpa using he
  have HB := Lib.hid hb
  clear hb hs
  go_enter Try.func38, Try.ntmps38
  go_wp2_with fail
  go_ret
  exact ⟨rfl, only_set (World.grownBy.refl _ _) (.inl rfl) _, _, HB.out.set 0 _, Rd.none_ _, by simp [Value.ownBlock]⟩

set_option maxHeartbeats 400000 in
theorem sound_pass_bad (w : World) (rb bn br : Nat) (l : List Nat) (e n : Int) (hR : Rdr w rb l e) (hn : Blk w bn 3 [.int .i64 n]) (hr : Blk w br 43 [.pointer (some ⟨rb, 0, none⟩)]) (he : e = 0) (hk : lookP n l.length ≠ 0) :
    Calls Try.prog 38 #[.pointer (some ⟨rb, 0, none⟩), .func (.func 41) #[] #[.pointer (some ⟨bn, 0, none⟩), .pointer (some ⟨br, 0, none⟩)]] w fun ev w' => ev = .returned (.bool false) ∧ w.grownBy w' (some rb) ∧ Rdr w' rb [] (lookP n l.length) := by
  have hl := pass1_any w rb bn br l e n hR hn hr
  subst he
  obtain ⟨sv, hb, hs, hne⟩ := hR
  clear hn hr
  obtain ⟨k, hkk⟩ : ∃ k, k = lookP n l.length := ⟨_, rfl⟩
  rw [← hkk] at hl hk ⊢
  clear hkk
  have hq : (k == 0) = false := by simpa using hk
  have c1 := hb.cell 1 _ rfl
  have HB := Lib.hid hb
  have HL := Lib.hid hl
  clear hb hs hl
  go_enter Try.func38, Try.ntmps38
  go_wp2_with (go_at_call 41; refine Calls.mono HL.out ?_; rintro ev w1 ⟨rfl, hw1⟩; have hb1 := HB.out.below hw1 HB.out.lt; have d1 := hb1.cell 1 _ rfl; have d0 := hb1.cell 0 _ rfl; have g1 := hb1.free 1; have g0 := hb1.free 0; have HB1 := Lib.hid hb1; have HW1 := Lib.hid hw1; clear hb1 hw1 c1)
  go_ret
  have r1 : w.grownBy (w1.setCell ⟨rb, 1, none⟩ (.int .i64 k)) (some rb) := only_set (grown_of_below HW1.out _) (.inl rfl) _
  have r2 : w.grownBy ((w1.setCell ⟨rb, 1, none⟩ (.int .i64 k)).setCell ⟨rb, 0, none⟩ (.slice none 0 0)) (some rb) := only_set r1 (.inl rfl) _
  exact ⟨rfl, r2, .slice none 0 0, (HB1.out.set 1 (.int .i64 k)).set 0 (.slice none 0 0), Rd.none_ _, by simp [Value.ownBlock]⟩

set_option maxHeartbeats 400000 in
theorem sound_pass_ok (w : World) (rb bn br : Nat) (l : List Nat) (e n : Int) (hR : Rdr w rb l e) (hn : Blk w bn 3 [.int .i64 n]) (hr : Blk w br 43 [.pointer (some ⟨rb, 0, none⟩)]) (he : e = 0) (hk : lookP n l.length = 0) :
    Calls Try.prog 38 #[.pointer (some ⟨rb, 0, none⟩), .func (.func 41) #[] #[.pointer (some ⟨bn, 0, none⟩), .pointer (some ⟨br, 0, none⟩)]] w fun ev w' => ev = .returned (.bool true) ∧ w.grownBy w' (some rb) ∧ Rdr w' rb l 0 := by
  have hl := pass1_any w rb bn br l e n hR hn hr
  subst he
  obtain ⟨sv, hb, hs, hne⟩ := hR
  clear hn hr
  rw [hk] at hl
  clear hk
  have c1 := hb.cell 1 _ rfl
  have HB := Lib.hid hb
  have HL := Lib.hid hl
  have HS := Lib.hid hs
  clear hb hs hl
  go_enter Try.func38, Try.ntmps38
  go_wp2_with (go_at_call 41; refine Calls.mono HL.out ?_; rintro ev w1 ⟨rfl, hw1⟩; have hb1 := HB.out.below hw1 HB.out.lt; have d1 := hb1.cell 1 _ rfl; have d0 := hb1.cell 0 _ rfl; have g1 := hb1.free 1; have g0 := hb1.free 0; have HB1 := Lib.hid hb1; have HW1 := Lib.hid hw1; clear hb1 hw1 c1)
  go_ret
  exact ⟨rfl, only_set (grown_of_below HW1.out _) (.inl rfl) _, _, HB1.out.set 1 _, (HS.out.below HW1.out).setCell _ _ hne, hne⟩

set_option maxHeartbeats 400000 in
theorem sound_text_old (w : World) (rb bn br : Nat) (l : List Nat) (e n : Int) (hR : Rdr w rb l e) (_hn : Blk w bn 3 [.int .i64 n]) (_hr : Blk w br 43 [.pointer (some ⟨rb, 0, none⟩)]) (he : e ≠ 0) :
    Calls Try.prog 38 #[.pointer (some ⟨rb, 0, none⟩), .func (.func 39) #[] #[.pointer (some ⟨br, 0, none⟩), .pointer (some ⟨bn, 0, none⟩)]] w fun ev w' => ev = .returned (.bool false) ∧ w.grownBy w' (some rb) ∧ Rdr w' rb [] e := by
  obtain ⟨sv, hb, hs, hne⟩ := hR
  have c1 := hb.cell 1 _ rfl
  have c0 := hb.cell 0 _ rfl
  have f0 := hb.free 0
  have hq : (e == 0) = false := by simpa using he
  have HB := Lib.hid hb
  clear hb hs
  go_enter Try.func38, Try.ntmps38
  go_wp2_with fail
  go_ret
  exact ⟨rfl, only_set (World.grownBy.refl _ _) (.inl rfl) _, _, HB.out.set 0 _, Rd.none_ _, by simp [Value.ownBlock]⟩

set_option maxHeartbeats 400000 in
theorem sound_text_bad (w : World) (rb bn br : Nat) (l : List Nat) (e n : Int) (hR : Rdr w rb l e) (hn : Blk w bn 3 [.int .i64 n]) (hr : Blk w br 43 [.pointer (some ⟨rb, 0, none⟩)]) (he : e = 0) (hk : lookT n l ≠ 0) :
    Calls Try.prog 38 #[.pointer (some ⟨rb, 0, none⟩), .func (.func 39) #[] #[.pointer (some ⟨br, 0, none⟩), .pointer (some ⟨bn, 0, none⟩)]] w fun ev w' => ev = .returned (.bool false) ∧ w.grownBy w' (some rb) ∧ Rdr w' rb [] (lookT n l) := by
  have hl := text1_any w rb bn br l e n hR hn hr
  subst he
  obtain ⟨sv, hb, hs, hne⟩ := hR
  clear hn hr
  obtain ⟨k, hkk⟩ : ∃ k, k = lookT n l := ⟨_, rfl⟩
  rw [← hkk] at hl hk ⊢
  clear hkk
  have hq : (k == 0) = false := by simpa using hk
  have c1 := hb.cell 1 _ rfl
  have HB := Lib.hid hb
  have HL := Lib.hid hl
  clear hb hs hl
  go_enter Try.func38, Try.ntmps38
  go_wp2_with (go_at_call 39; refine Calls.mono HL.out ?_; rintro ev w1 ⟨rfl, hw1⟩; have hb1 := HB.out.below hw1 HB.out.lt; have d1 := hb1.cell 1 _ rfl; have d0 := hb1.cell 0 _ rfl; have g1 := hb1.free 1; have g0 := hb1.free 0; have HB1 := Lib.hid hb1; have HW1 := Lib.hid hw1; clear hb1 hw1 c1)
  go_ret
  have r1 : w.grownBy (w1.setCell ⟨rb, 1, none⟩ (.int .i64 k)) (some rb) := only_set (grown_of_below HW1.out _) (.inl rfl) _
  have r2 : w.grownBy ((w1.setCell ⟨rb, 1, none⟩ (.int .i64 k)).setCell ⟨rb, 0, none⟩ (.slice none 0 0)) (some rb) := only_set r1 (.inl rfl) _
  exact ⟨rfl, r2, .slice none 0 0, (HB1.out.set 1 (.int .i64 k)).set 0 (.slice none 0 0), Rd.none_ _, by simp [Value.ownBlock]⟩

set_option maxHeartbeats 400000 in
theorem sound_text_ok (w : World) (rb bn br : Nat) (l : List Nat) (e n : Int) (hR : Rdr w rb l e) (hn : Blk w bn 3 [.int .i64 n]) (hr : Blk w br 43 [.pointer (some ⟨rb, 0, none⟩)]) (he : e = 0) (hk : lookT n l = 0) :
    Calls Try.prog 38 #[.pointer (some ⟨rb, 0, none⟩), .func (.func 39) #[] #[.pointer (some ⟨br, 0, none⟩), .pointer (some ⟨bn, 0, none⟩)]] w fun ev w' => ev = .returned (.bool true) ∧ w.grownBy w' (some rb) ∧ Rdr w' rb l 0 := by
  have hl := text1_any w rb bn br l e n hR hn hr
  subst he
  obtain ⟨sv, hb, hs, hne⟩ := hR
  clear hn hr
  rw [hk] at hl
  clear hk
  have c1 := hb.cell 1 _ rfl
  have HB := Lib.hid hb
  have HL := Lib.hid hl
  have HS := Lib.hid hs
  clear hb hs hl
  go_enter Try.func38, Try.ntmps38
  go_wp2_with (go_at_call 39; refine Calls.mono HL.out ?_; rintro ev w1 ⟨rfl, hw1⟩; have hb1 := HB.out.below hw1 HB.out.lt; have d1 := hb1.cell 1 _ rfl; have d0 := hb1.cell 0 _ rfl; have g1 := hb1.free 1; have g0 := hb1.free 0; have HB1 := Lib.hid hb1; have HW1 := Lib.hid hw1; clear hb1 hw1 c1)
  go_ret
  exact ⟨rfl, only_set (grown_of_below HW1.out _) (.inl rfl) _, _, HB1.out.set 1 _, (HS.out.below HW1.out).setCell _ _ hne, hne⟩
end Go.Proofs.Ytngflmdlgaeokaa

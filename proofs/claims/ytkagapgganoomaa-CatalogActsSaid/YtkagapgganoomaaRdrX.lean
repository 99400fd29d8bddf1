/- Texts of one subject in one file: RdrA, RdrB, RdrC. Own work. -/
import Derived.Test.YtkagapgganoomaaPutX
import Derived.Test.YtkagapgganoomaaMem
import Derived.BigQuiet
import Derived.BigRegion
import Derived.LaidEqlPtr
import Derived.Deep.RegionWith
/- A reader of bytes behind its pointer, its bytes below a bound: contracts of package octet's reader. Own work. -/
namespace Go.Proofs.Ytkagapgganoomaa
open Go.RowKit
variable {N : Nat → Prop}
/-- The reader in block rb: what is left, and its error. -/
def Off (N : Nat → Prop) (rb : Nat) (v : Value) : Prop := v.ownBlock ≠ some rb ∧ ∀ g, v.ownBlock = some g → N g
theorem off_none {N : Nat → Prop} {rb n c : Nat} : Off N rb (.slice none n c) := ⟨fun h => (by cases h), fun g h => (by cases h)⟩
def Rdr (N : Nat → Prop) (w : World) (rb : Nat) (l : List Nat) (e : Int) : Prop :=
  ∃ sv, Blk w rb 104 [sv, .int .i64 e] ∧ Rd w sv l ∧ Off N rb sv
/-- What is wrong with reading n bytes of so many. -/
def lookP (n : Int) (len : Nat) : Int := if n < 0 then 2 else if (len : Int) < n then 3 else 0
set_option maxHeartbeats 400000 in
theorem pass1_any (w : World) (rb bn br : Nat) (l : List Nat) (e n : Int) (hR : Rdr N w rb l e) (hn : Blk w bn 3 [.int .i64 n]) (hr : Blk w br 73 [.pointer (some ⟨rb, 0, none⟩)]) :
    Calls Try.prog 78 #[.pointer (some ⟨bn, 0, none⟩), .pointer (some ⟨br, 0, none⟩)] w fun ev w' => ev = .returned (.int .i64 (lookP n l.length)) ∧ Below w.heap.size w w' := by
  obtain ⟨sv, hb, hs, _⟩ := hR
  obtain ⟨ao, cap, rfl, hc⟩ := hs.shape
  have c0 := hn.cell 0 _ rfl
  have c1 := hr.cell 0 _ rfl
  have c2 := hb.cell 0 _ rfl
  clear hs hn hr hb
  by_cases h0 : n < 0
  · rw [show lookP n l.length = 2 by unfold lookP; rw [if_pos h0]]
    go_enter Try.func78, Try.ntmps78
    go_wp2_with fail
    go_ret
    exact ⟨rfl, Below.refl _ _⟩
  · by_cases h1 : (l.length : Int) < n
    · rw [show lookP n l.length = 3 by unfold lookP; rw [if_neg h0, if_pos h1]]
      go_enter Try.func78, Try.ntmps78
      go_wp2_with fail
      go_quiet (fail)
      go_wp2_with fail
      go_ret
      exact ⟨rfl, below_dN (Below.refl _ _) _⟩
    · rw [show lookP n l.length = 0 by unfold lookP; rw [if_neg h0, if_neg h1]]
      go_enter Try.func78, Try.ntmps78
      go_wp2_with fail
      go_quiet (fail)
      go_wp2_with fail
      go_ret
      exact ⟨rfl, below_dN (Below.refl _ _) _⟩

/-- What is wrong with reading a text of at most m bytes. -/
def lookT (m : Int) (l : List Nat) : Int := if l.length < 1 + gb l 0 then 3 else if m < (gb l 0 : Int) then 5 else 0
set_option maxHeartbeats 400000 in
theorem text1_any (w : World) (rb bn br : Nat) (l : List Nat) (e n : Int) (hR : Rdr N w rb l e) (hn : Blk w bn 3 [.int .i64 n]) (hr : Blk w br 73 [.pointer (some ⟨rb, 0, none⟩)]) :
    Calls Try.prog 77 #[.pointer (some ⟨br, 0, none⟩), .pointer (some ⟨bn, 0, none⟩)] w fun ev w' => ev = .returned (.int .i64 (lookT n l)) ∧ Below w.heap.size w w' := by
  obtain ⟨sv, hb, hs, _⟩ := hR
  have c0 := hn.cell 0 _ rfl
  have c1 := hr.cell 0 _ rfl
  have c2 := hb.cell 0 _ rfl
  clear hn hr hb
  have hfit := hs.fits
  by_cases h0 : l.length = 0
  · obtain rfl : l = [] := List.eq_nil_of_length_eq_zero h0
    obtain ⟨ao, cap, rfl, hc⟩ := hs.shape
    clear hs
    rw [show lookT n [] = 3 from rfl]
    go_enter Try.func77, Try.ntmps77
    go_wp2_with fail
    go_quiet (fail)
    go_wp2_with fail
    go_ret
    exact ⟨rfl, below_dN (Below.refl _ _) _⟩
  · rcases hs.form with ⟨_, q⟩ | ⟨ad, cap, rfl, hc, hcs⟩
    · exact absurd (by rw [q]; rfl) h0
    have c3 := hcs 0 (by omega)
    rw [Addr.add_zero'] at c3
    have hb := hs.byte 0
    clear hs hcs
    have hd : decide ((l.length : Int) = 0) = false := by simpa using h0
    have hq : ((l.length : Int) == 0) = false := by simpa using h0
    by_cases h1 : l.length < 1 + gb l 0
    · have h1' : (l.length : Int) - 1 < (gb l 0 : Int) := by omega
      rw [show lookT n l = 3 by unfold lookT; rw [if_pos h1]]
      go_enter Try.func77, Try.ntmps77
      go_wp2_with fail
      go_quiet (fail)
      go_wp2_with fail
      go_ret
      exact ⟨rfl, below_dN (Below.refl _ _) _⟩
    · have h1' : ¬ (l.length : Int) - 1 < (gb l 0 : Int) := by omega
      by_cases h2 : n < (gb l 0 : Int)
      · rw [show lookT n l = 5 by unfold lookT; rw [if_neg h1, if_pos h2]]
        go_enter Try.func77, Try.ntmps77
        go_wp2_with fail
        go_quiet (fail)
        go_wp2_with fail
        go_quiet (fail)
        go_wp2_with fail
        go_ret
        exact ⟨rfl, below_dN (below_dN (Below.refl _ _) _) _⟩
      · rw [show lookT n l = 0 by unfold lookT; rw [if_neg h1, if_neg h2]]
        go_enter Try.func77, Try.ntmps77
        go_wp2_with fail
        go_quiet (fail)
        go_wp2_with fail
        go_quiet (fail)
        go_wp2_with fail
        go_ret
        exact ⟨rfl, below_dN (below_dN (Below.refl _ _) _) _⟩

set_option maxHeartbeats 400000 in
theorem sound_pass_old (w : World) (rb bn br : Nat) (l : List Nat) (e n : Int) (hR : Rdr N w rb l e) (_hn : Blk w bn 3 [.int .i64 n]) (_hr : Blk w br 73 [.pointer (some ⟨rb, 0, none⟩)]) (he : e ≠ 0) :
    Calls Try.prog 76 #[.pointer (some ⟨rb, 0, none⟩), .func (.func 78) #[] #[.pointer (some ⟨bn, 0, none⟩), .pointer (some ⟨br, 0, none⟩)]] w fun ev w' => ev = .returned (.bool false) ∧ w.grownBy w' (some rb) ∧ Rdr N w' rb [] e := by
  obtain ⟨sv, hb, hs, hne⟩ := hR
  have c1 := hb.cell 1 _ rfl
  have c0 := hb.cell 0 _ rfl
  have f0 := hb.free 0
  have hq : (e == 0) = false := by simpa using he
  have HB := Lib.hid hb
  clear hb hs
  go_enter Try.func76, Try.ntmps76
  go_wp2_with fail
  go_ret
  exact ⟨rfl, only_set (World.grownBy.refl _ _) (.inl rfl) _, _, HB.out.set 0 _, Rd.none_ _, off_none⟩

set_option maxHeartbeats 400000 in
theorem sound_pass_bad (w : World) (rb bn br : Nat) (l : List Nat) (e n : Int) (hR : Rdr N w rb l e) (hn : Blk w bn 3 [.int .i64 n]) (hr : Blk w br 73 [.pointer (some ⟨rb, 0, none⟩)]) (he : e = 0) (hk : lookP n l.length ≠ 0) :
    Calls Try.prog 76 #[.pointer (some ⟨rb, 0, none⟩), .func (.func 78) #[] #[.pointer (some ⟨bn, 0, none⟩), .pointer (some ⟨br, 0, none⟩)]] w fun ev w' => ev = .returned (.bool false) ∧ w.grownBy w' (some rb) ∧ Rdr N w' rb [] (lookP n l.length) := by
  have hl := pass1_any w rb bn br l e n hR hn hr
  subst he
  obtain ⟨sv, hb, hs, hne⟩ := hR
  clear hn hr
  obtain ⟨k, hkk⟩ : ∃ k, k = lookP n l.length := ⟨_, rfl⟩
  rw [← hkk] at hl hk ⊢
  clear hkk
  have hq : (k == 0) = false := by simpa using hk
  have c1 := hb.cell 1 _ rfl
  have HB := Lib.hid hb
  have HL := Lib.hid hl
  clear hb hs hl
  go_enter Try.func76, Try.ntmps76
  go_wp2_with (go_at_call 78; refine Calls.mono HL.out ?_; rintro ev w1 ⟨rfl, hw1⟩; have hb1 := HB.out.below hw1 HB.out.lt; have d1 := hb1.cell 1 _ rfl; have d0 := hb1.cell 0 _ rfl; have g1 := hb1.free 1; have g0 := hb1.free 0; have HB1 := Lib.hid hb1; have HW1 := Lib.hid hw1; clear hb1 hw1 c1)
  go_ret
  have r1 : w.grownBy (w1.setCell ⟨rb, 1, none⟩ (.int .i64 k)) (some rb) := only_set (grown_of_below HW1.out _) (.inl rfl) _
  have r2 : w.grownBy ((w1.setCell ⟨rb, 1, none⟩ (.int .i64 k)).setCell ⟨rb, 0, none⟩ (.slice none 0 0)) (some rb) := only_set r1 (.inl rfl) _
  exact ⟨rfl, r2, .slice none 0 0, (HB1.out.set 1 (.int .i64 k)).set 0 (.slice none 0 0), Rd.none_ _, off_none⟩

set_option maxHeartbeats 400000 in
theorem sound_pass_ok (w : World) (rb bn br : Nat) (l : List Nat) (e n : Int) (hR : Rdr N w rb l e) (hn : Blk w bn 3 [.int .i64 n]) (hr : Blk w br 73 [.pointer (some ⟨rb, 0, none⟩)]) (he : e = 0) (hk : lookP n l.length = 0) :
    Calls Try.prog 76 #[.pointer (some ⟨rb, 0, none⟩), .func (.func 78) #[] #[.pointer (some ⟨bn, 0, none⟩), .pointer (some ⟨br, 0, none⟩)]] w fun ev w' => ev = .returned (.bool true) ∧ w.grownBy w' (some rb) ∧ Rdr N w' rb l 0 := by
  have hl := pass1_any w rb bn br l e n hR hn hr
  subst he
  obtain ⟨sv, hb, hs, hne⟩ := hR
  clear hn hr
  rw [hk] at hl
  clear hk
  have c1 := hb.cell 1 _ rfl
  have HB := Lib.hid hb
  have HL := Lib.hid hl
  have HS := Lib.hid hs
  clear hb hs hl
  go_enter Try.func76, Try.ntmps76
  go_wp2_with (go_at_call 78; refine Calls.mono HL.out ?_; rintro ev w1 ⟨rfl, hw1⟩; have hb1 := HB.out.below hw1 HB.out.lt; have d1 := hb1.cell 1 _ rfl; have d0 := hb1.cell 0 _ rfl; have g1 := hb1.free 1; have g0 := hb1.free 0; have HB1 := Lib.hid hb1; have HW1 := Lib.hid hw1; clear hb1 hw1 c1)
  go_ret
  exact ⟨rfl, only_set (grown_of_below HW1.out _) (.inl rfl) _, _, HB1.out.set 1 _, (HS.out.below HW1.out).setCell _ _ hne.1, hne⟩

set_option maxHeartbeats 400000 in
theorem sound_text_old (w : World) (rb bn br : Nat) (l : List Nat) (e n : Int) (hR : Rdr N w rb l e) (_hn : Blk w bn 3 [.int .i64 n]) (_hr : Blk w br 73 [.pointer (some ⟨rb, 0, none⟩)]) (he : e ≠ 0) :
    Calls Try.prog 76 #[.pointer (some ⟨rb, 0, none⟩), .func (.func 77) #[] #[.pointer (some ⟨br, 0, none⟩), .pointer (some ⟨bn, 0, none⟩)]] w fun ev w' => ev = .returned (.bool false) ∧ w.grownBy w' (some rb) ∧ Rdr N w' rb [] e := by
  obtain ⟨sv, hb, hs, hne⟩ := hR
  have c1 := hb.cell 1 _ rfl
  have c0 := hb.cell 0 _ rfl
  have f0 := hb.free 0
  have hq : (e == 0) = false := by simpa using he
  have HB := Lib.hid hb
  clear hb hs
  go_enter Try.func76, Try.ntmps76
  go_wp2_with fail
  go_ret
  exact ⟨rfl, only_set (World.grownBy.refl _ _) (.inl rfl) _, _, HB.out.set 0 _, Rd.none_ _, off_none⟩

set_option maxHeartbeats 400000 in
theorem sound_text_bad (w : World) (rb bn br : Nat) (l : List Nat) (e n : Int) (hR : Rdr N w rb l e) (hn : Blk w bn 3 [.int .i64 n]) (hr : Blk w br 73 [.pointer (some ⟨rb, 0, none⟩)]) (he : e = 0) (hk : lookT n l ≠ 0) :
    Calls Try.prog 76 #[.pointer (some ⟨rb, 0, none⟩), .func (.func 77) #[] #[.pointer (some ⟨br, 0, none⟩), .pointer (some ⟨bn, 0, none⟩)]] w fun ev w' => ev = .returned (.bool false) ∧ w.grownBy w' (some rb) ∧ Rdr N w' rb [] (lookT n l) := by
  have hl := text1_any w rb bn br l e n hR hn hr
  subst he
  obtain ⟨sv, hb, hs, hne⟩ := hR
  clear hn hr
  obtain ⟨k, hkk⟩ : ∃ k, k = lookT n l := ⟨_, rfl⟩
  rw [← hkk] at hl hk ⊢
  clear hkk
  have hq : (k == 0) = false := by simpa using hk
  have c1 := hb.cell 1 _ rfl
  have HB := Lib.hid hb
  have HL := Lib.hid hl
  clear hb hs hl
  go_enter Try.func76, Try.ntmps76
  go_wp2_with (go_at_call 77; refine Calls.mono HL.out ?_; rintro ev w1 ⟨rfl, hw1⟩; have hb1 := HB.out.below hw1 HB.out.lt; have d1 := hb1.cell 1 _ rfl; have d0 := hb1.cell 0 _ rfl; have g1 := hb1.free 1; have g0 := hb1.free 0; have HB1 := Lib.hid hb1; have HW1 := Lib.hid hw1; clear hb1 hw1 c1)
  go_ret
  have r1 : w.grownBy (w1.setCell ⟨rb, 1, none⟩ (.int .i64 k)) (some rb) := only_set (grown_of_below HW1.out _) (.inl rfl) _
  have r2 : w.grownBy ((w1.setCell ⟨rb, 1, none⟩ (.int .i64 k)).setCell ⟨rb, 0, none⟩ (.slice none 0 0)) (some rb) := only_set r1 (.inl rfl) _
  exact ⟨rfl, r2, .slice none 0 0, (HB1.out.set 1 (.int .i64 k)).set 0 (.slice none 0 0), Rd.none_ _, off_none⟩

set_option maxHeartbeats 400000 in
theorem sound_text_ok (w : World) (rb bn br : Nat) (l : List Nat) (e n : Int) (hR : Rdr N w rb l e) (hn : Blk w bn 3 [.int .i64 n]) (hr : Blk w br 73 [.pointer (some ⟨rb, 0, none⟩)]) (he : e = 0) (hk : lookT n l = 0) :
    Calls Try.prog 76 #[.pointer (some ⟨rb, 0, none⟩), .func (.func 77) #[] #[.pointer (some ⟨br, 0, none⟩), .pointer (some ⟨bn, 0, none⟩)]] w fun ev w' => ev = .returned (.bool true) ∧ w.grownBy w' (some rb) ∧ Rdr N w' rb l 0 := by
  have hl := text1_any w rb bn br l e n hR hn hr
  subst he
  obtain ⟨sv, hb, hs, hne⟩ := hR
  clear hn hr
  rw [hk] at hl
  clear hk
  have c1 := hb.cell 1 _ rfl
  have HB := Lib.hid hb
  have HL := Lib.hid hl
  have HS := Lib.hid hs
  clear hb hs hl
  go_enter Try.func76, Try.ntmps76
  go_wp2_with (go_at_call 77; refine Calls.mono HL.out ?_; rintro ev w1 ⟨rfl, hw1⟩; have hb1 := HB.out.below hw1 HB.out.lt; have d1 := hb1.cell 1 _ rfl; have d0 := hb1.cell 0 _ rfl; have g1 := hb1.free 1; have g0 := hb1.free 0; have HB1 := Lib.hid hb1; have HW1 := Lib.hid hw1; clear hb1 hw1 c1)
  go_ret
  exact ⟨rfl, only_set (grown_of_below HW1.out _) (.inl rfl) _, _, HB1.out.set 1 _, (HS.out.below HW1.out).setCell _ _ hne.1, hne⟩
end Go.Proofs.Ytkagapgganoomaa
/- Passing over bytes: package octet's pass, for whatever reader. Own work. -/
namespace Go.Proofs.Ytkagapgganoomaa
open Go.RowKit
variable {N : Nat → Prop}
theorem off_cut {ao : Option Addr} {n cap k n' c' rb : Nat} (h : Off N rb (Value.slice ao n cap)) : Off N rb (Value.slice (if cap = k then ao else ao.map (·.add k)) n' c') := by
  refine ⟨owner_cut h.1, fun g hg => h.2 g ?_⟩
  cases ao with
  | none => split at hg <;> simp [Value.ownBlock] at hg
  | some a =>
    split at hg
    · exact hg
    · have e : some (a.add k).block = some g := hg
      rw [add_block] at e; exact e
theorem Rdr.below {w w' : World} {rb : Nat} {l : List Nat} {e : Int} (h : Rdr N w rb l e) (hb : Below w.heap.size w w') : Rdr N w' rb l e := by
  obtain ⟨sv, h1, h2, h3⟩ := h
  exact ⟨sv, h1.below hb h1.lt, h2.below hb, h3⟩
theorem Rdr.lt {w : World} {rb : Nat} {l : List Nat} {e : Int} (h : Rdr N w rb l e) : rb < w.heap.size := by
  obtain ⟨sv, h1, _, _⟩ := h
  exact h1.lt
/-- Behind a read of n bytes: what was read, what is left, the error. -/
def rpGot (l : List Nat) (e n : Int) : List Nat := if e = 0 ∧ lookP n l.length = 0 then l.take n.toNat else []
def rpLeft (l : List Nat) (e n : Int) : List Nat := if e = 0 ∧ lookP n l.length = 0 then l.drop n.toNat else []
def rpErr (l : List Nat) (e n : Int) : Int := if e = 0 then lookP n l.length else e
set_option maxHeartbeats 400000 in
theorem pass_old (w : World) (rb : Nat) (l : List Nat) (e n : Int) (hR : Rdr N w rb l e) (he : e ≠ 0) :
    Calls Try.prog 75 #[.pointer (some ⟨rb, 0, none⟩), .int .i64 n] w fun ev w' => ev = .returned (.slice none 0 0) ∧ Rdr N w' rb [] e ∧ w.grownBy w' (some rb) := by
  have hb : Below w.heap.size w ((w.alloc (.cells #[.pointer (some ⟨rb, 0, none⟩)] 73)).alloc (.cells #[.int .i64 n] 3)) := ((Below.refl _ _).alloc (Nat.le_refl _) _).alloc (by simp) _
  have b1 : Blk ((w.alloc (.cells #[.pointer (some ⟨rb, 0, none⟩)] 73)).alloc (.cells #[.int .i64 n] 3)) w.heap.size 73 [.pointer (some ⟨rb, 0, none⟩)] := (Blk.new w _ _ _ rfl).alloc _
  have b2 : Blk ((w.alloc (.cells #[.pointer (some ⟨rb, 0, none⟩)] 73)).alloc (.cells #[.int .i64 n] 3)) (w.heap.size + 1) 3 [.int .i64 n] := Blk.new _ _ _ _ (by simp)
  have hs := sound_pass_old _ rb (w.heap.size + 1) w.heap.size l e n (hR.below hb) b2 b1 he
  have c1 := b1.cell 0 _ rfl
  have HS := Lib.hid hs
  have HB := Lib.hid hb
  clear hs hb b1 b2 hR he
  go_enter Try.func75, Try.ntmps75
  go_wp2_with (go_at_call 76; refine Calls.mono HS.out ?_; rintro ev w1 ⟨rfl, hg, hr⟩; have HG := Lib.hid hg; have HR := Lib.hid hr; clear hg hr)
  go_ret
  exact ⟨rfl, HR.out, only_after HB.out HG.out⟩
set_option maxHeartbeats 400000 in
theorem pass_bad (w : World) (rb : Nat) (l : List Nat) (n : Int) (hR : Rdr N w rb l 0) (hk : lookP n l.length ≠ 0) :
    Calls Try.prog 75 #[.pointer (some ⟨rb, 0, none⟩), .int .i64 n] w fun ev w' => ev = .returned (.slice none 0 0) ∧ Rdr N w' rb [] (lookP n l.length) ∧ w.grownBy w' (some rb) := by
  have hb : Below w.heap.size w ((w.alloc (.cells #[.pointer (some ⟨rb, 0, none⟩)] 73)).alloc (.cells #[.int .i64 n] 3)) := ((Below.refl _ _).alloc (Nat.le_refl _) _).alloc (by simp) _
  have b1 : Blk ((w.alloc (.cells #[.pointer (some ⟨rb, 0, none⟩)] 73)).alloc (.cells #[.int .i64 n] 3)) w.heap.size 73 [.pointer (some ⟨rb, 0, none⟩)] := (Blk.new w _ _ _ rfl).alloc _
  have b2 : Blk ((w.alloc (.cells #[.pointer (some ⟨rb, 0, none⟩)] 73)).alloc (.cells #[.int .i64 n] 3)) (w.heap.size + 1) 3 [.int .i64 n] := Blk.new _ _ _ _ (by simp)
  have hs := sound_pass_bad _ rb (w.heap.size + 1) w.heap.size l 0 n (hR.below hb) b2 b1 rfl hk
  have c1 := b1.cell 0 _ rfl
  have HS := Lib.hid hs
  have HB := Lib.hid hb
  clear hs hb b1 b2 hR hk
  go_enter Try.func75, Try.ntmps75
  go_wp2_with (go_at_call 76; refine Calls.mono HS.out ?_; rintro ev w1 ⟨rfl, hg, hr⟩; have HG := Lib.hid hg; have HR := Lib.hid hr; clear hg hr)
  go_ret
  exact ⟨rfl, HR.out, only_after HB.out HG.out⟩
set_option maxHeartbeats 400000 in
theorem pass_ok (w : World) (rb : Nat) (l : List Nat) (n : Nat) (hR : Rdr N w rb l 0) (hk : n ≤ l.length) :
    Calls Try.prog 75 #[.pointer (some ⟨rb, 0, none⟩), .int .i64 n] w fun ev w' => ∃ v, ev = .returned v ∧ Rd w' v (l.take n) ∧ Rdr N w' rb (l.drop n) 0 ∧ w.grownBy w' (some rb) ∧ v.ownBlock ≠ some rb := by
  have hb : Below w.heap.size w ((w.alloc (.cells #[.pointer (some ⟨rb, 0, none⟩)] 73)).alloc (.cells #[.int .i64 n] 3)) := ((Below.refl _ _).alloc (Nat.le_refl _) _).alloc (by simp) _
  have b1 : Blk ((w.alloc (.cells #[.pointer (some ⟨rb, 0, none⟩)] 73)).alloc (.cells #[.int .i64 n] 3)) w.heap.size 73 [.pointer (some ⟨rb, 0, none⟩)] := (Blk.new w _ _ _ rfl).alloc _
  have b2 : Blk ((w.alloc (.cells #[.pointer (some ⟨rb, 0, none⟩)] 73)).alloc (.cells #[.int .i64 n] 3)) (w.heap.size + 1) 3 [.int .i64 n] := Blk.new _ _ _ _ (by simp)
  have hlk : lookP n l.length = 0 := by unfold lookP; rw [if_neg (by omega), if_neg (by omega)]
  have hs := sound_pass_ok _ rb (w.heap.size + 1) w.heap.size l 0 n (hR.below hb) b2 b1 rfl hlk
  have c1 := b1.cell 0 _ rfl
  have hlt := hR.lt
  have HS := Lib.hid hs
  have HB := Lib.hid hb
  have B1 := Lib.hid b1
  have B2 := Lib.hid b2
  clear hs hb b1 b2 hR hlk
  go_enter Try.func75, Try.ntmps75
  go_wp2_with (go_at_call 76; refine Calls.mono HS.out ?_; rintro ev w1 ⟨rfl, hg, hr⟩; have HG := Lib.hid hg; have HR := Lib.hid hr; clear hg hr c1)
  obtain ⟨sv, h1, h2, h3⟩ := HR.out
  have d1 := (B1.out.grown HG.out (by simp; omega)).cell 0 _ rfl
  have d2 := (B2.out.grown HG.out (by simp; omega)).cell 0 _ rfl
  obtain ⟨ao, cap, rfl, hcap⟩ := h2.shape
  have d3 := h1.cell 0 _ rfl
  have f3 := h1.free 0
  have H1 := Lib.hid h1
  have H2 := Lib.hid h2
  clear h1 h2 HR B1 B2 HS
  go_quiet (fail)
  go_wp2_with fail
  go_region
  have k1 : Blk (w1.drewN (nq + 1)) rb 104 [.slice ao l.length cap, .int .i64 0] := H1.out
  have k2 : Rd (w1.drewN (nq + 1)) (.slice ao l.length cap) l := H2.out.drewN _
  have k3 := k2.drop n hk
  have k4 : Off N rb (Value.slice (if cap = n then ao else ao.map (·.add n)) (l.length - n) (cap - n)) := off_cut h3
  have k5 : (Value.slice ao n cap).ownBlock ≠ some rb := by rw [owner_len]; exact h3.1
  have K5 := Lib.hid k5
  have K6 := Lib.hid (k2.take n hk)
  generalize (Value.slice (if cap = n then ao else ao.map (·.add n)) (l.length - n) (cap - n)) = V at *
  have K1 := Lib.hid k1
  have K3 := Lib.hid k3
  have K4 := Lib.hid k4
  clear k1 k2 k3 k4 k5
  go_wp2_with fail
  go_ret
  exact ⟨_, rfl, K6.out.setCell _ _ K5.out, ⟨_, K1.out.set 0 _, K3.out.setCell _ _ K4.out.1, K4.out⟩, only_set (only_dN (only_after HB.out HG.out) _) (.inl rfl) _, K5.out⟩
/-- pass, for whatever reader and whatever n. -/
theorem pass_any (w : World) (rb : Nat) (l : List Nat) (e n : Int) (hR : Rdr N w rb l e) :
    Calls Try.prog 75 #[.pointer (some ⟨rb, 0, none⟩), .int .i64 n] w fun ev w' => ∃ v, ev = .returned v ∧ Rd w' v (rpGot l e n) ∧ Rdr N w' rb (rpLeft l e n) (rpErr l e n) ∧ w.grownBy w' (some rb) ∧ v.ownBlock ≠ some rb := by
  by_cases he : e = 0
  · subst he
    by_cases hk : lookP n l.length = 0
    · have hn : 0 ≤ n ∧ n ≤ l.length := by
        unfold lookP at hk
        split at hk
        · cases hk
        · split at hk
          · cases hk
          · omega
      obtain ⟨m, rfl⟩ : ∃ m : Nat, n = (m : Int) := ⟨n.toNat, by omega⟩
      unfold rpGot rpLeft rpErr
      rw [if_pos ⟨rfl, hk⟩, if_pos ⟨rfl, hk⟩, if_pos rfl, hk, Int.toNat_natCast]
      exact pass_ok w rb l m hR (by omega)
    · unfold rpGot rpLeft rpErr
      rw [if_neg (fun h => hk h.2), if_neg (fun h => hk h.2), if_pos rfl]
      exact (pass_bad w rb l n hR hk).mono fun ev w' ⟨h1, h2, h3⟩ => ⟨_, h1, Rd.none_ _, h2, h3, by simp [Value.ownBlock]⟩
  · unfold rpGot rpLeft rpErr
    rw [if_neg (fun h => he h.1), if_neg (fun h => he h.1), if_neg he]
    exact (pass_old w rb l e n hR he).mono fun ev w' ⟨h1, h2, h3⟩ => ⟨_, h1, Rd.none_ _, h2, h3, by simp [Value.ownBlock]⟩
set_option maxHeartbeats 400000 in
theorem sound_nil (w : World) (f : FuncId) (caps : Array Value) : Calls Try.prog 76 #[.pointer none, .func (.func f) #[] caps] w fun ev w' => ev = .returned (.bool false) ∧ w = w' := by
  go_enter Try.func76, Try.ntmps76
  go_wp2_with fail
  go_ret
  exact ⟨rfl, rfl⟩
set_option maxHeartbeats 400000 in
theorem pass_nil (w : World) (n : Int) : Calls Try.prog 75 #[.pointer none, .int .i64 n] w fun ev w' => ev = .returned (.slice none 0 0) ∧ Below w.heap.size w w' := by
  have hb : Below w.heap.size w ((w.alloc (.cells #[.pointer none] 73)).alloc (.cells #[.int .i64 n] 3)) := ((Below.refl _ _).alloc (Nat.le_refl _) _).alloc (by simp) _
  have b1 : Blk ((w.alloc (.cells #[.pointer none] 73)).alloc (.cells #[.int .i64 n] 3)) w.heap.size 73 [.pointer none] := (Blk.new w _ _ _ rfl).alloc _
  have c1 := b1.cell 0 _ rfl
  have HB := Lib.hid hb
  clear hb b1
  go_enter Try.func75, Try.ntmps75
  go_wp2_with (go_at_call 76; refine (sound_nil _ _ _).mono ?_; rintro ev w1 ⟨rfl, rfl⟩)
  go_ret
  exact ⟨rfl, HB.out⟩
end Go.Proofs.Ytkagapgganoomaa
/- A reader's numbers, bytes and texts: contracts of package octet's reader. Own work. -/
namespace Go.Proofs.Ytkagapgganoomaa
open Go.RowKit
variable {N : Nat → Prop}
def numStep (a b : Nat) : Nat := a * 256 % 18446744073709551616 + b
/-- The number that these bytes are. -/
def num (l : List Nat) : Nat := l.foldl numStep 0
theorem num_take (l : List Nat) (k : Nat) (hk : k < l.length) : num (l.take (k + 1)) = numStep (num (l.take k)) (gb l k) := by
  unfold num
  rw [List.take_succ_eq_append_getElem hk, List.foldl_append]
  show numStep _ _ = _
  congr 1
  unfold gb; rw [List.getD_eq_getElem?_getD, List.getElem?_eq_getElem hk]; rfl
theorem foldl_lt (l : List Nat) (hl : ∀ k, gb l k < 256) : ∀ a, a < 18446744073709551616 → l.foldl numStep a < 18446744073709551616 := by
  induction l with
  | nil => exact fun a h => h
  | cons x r ih =>
    intro a _
    rw [List.foldl_cons]
    refine ih (fun k => hl (k + 1)) _ ?_
    have hx : x < 256 := hl 0
    unfold numStep; omega
theorem num_lt (l : List Nat) (hl : ∀ k, gb l k < 256) : num l < 18446744073709551616 := foldl_lt l hl 0 (by omega)
theorem foldl_small (l : List Nat) (hl : ∀ k, gb l k < 256) : ∀ (a m : Nat), a < m → l.foldl numStep a < m * 256 ^ l.length := by
  induction l with
  | nil => intro a m h; simpa using h
  | cons x r ih =>
    intro a m h
    rw [List.foldl_cons, List.length_cons, Nat.pow_succ, Nat.mul_comm (256 ^ r.length), ← Nat.mul_assoc]
    refine ih (fun k => hl (k + 1)) _ _ ?_
    have hx : x < 256 := hl 0
    unfold numStep
    have := Nat.mod_le (a * 256) 18446744073709551616
    omega
theorem num_small (l : List Nat) (hl : ∀ k, gb l k < 256) : num l < 256 ^ l.length := by
  have h := foldl_small l hl 0 1 (by omega)
  rw [Nat.one_mul] at h; exact h
theorem num_le (l : List Nat) (hl : ∀ k, gb l k < 256) (n : Nat) (h : l.length ≤ n) : num l < 256 ^ n := Nat.lt_of_lt_of_le (num_small l hl) (Nat.pow_le_pow_right (by omega) h)
theorem rpGot_byte {l : List Nat} (hl : ∀ k, gb l k < 256) (e n : Int) (k : Nat) : gb (rpGot l e n) k < 256 := by
  unfold rpGot; split
  · exact gb_take_byte l _ hl k
  · rw [gb_nil]; omega
theorem rpGot_len (l : List Nat) (e : Int) (n : Nat) : (rpGot l e n).length ≤ n := by
  unfold rpGot; split
  · rw [List.length_take]; omega
  · simp
theorem Rdr.byte {w : World} {rb : Nat} {l : List Nat} {e : Int} (h : Rdr N w rb l e) : ∀ k, gb l k < 256 := by
  obtain ⟨sv, _, h2, _⟩ := h
  exact h2.byte
theorem or_low (a b : Nat) (hb : b < 256) : (a * 256 % 18446744073709551616 ||| b) = a * 256 % 18446744073709551616 + b := by
  have e : a * 256 % 18446744073709551616 = 2 ^ 8 * (a % 72057594037927936) := by omega
  rw [e, ← Nat.two_pow_add_eq_or_of_lt (by omega : b < 2 ^ 8)]
theorem or_step (A b : Nat) (hb : b < 256) : bits .or .u64 (IntKind.u64.wrap ((A : Int) * 256)) (b : Int) = ((numStep A b : Nat) : Int) := by
  have e : IntKind.u64.wrap ((A : Int) * 256) = ((A * 256 % 18446744073709551616 : Nat) : Int) := by
    rw [IntKind.wrap_u64]; omega
  rw [e, u64_or_nat _ _ (by omega) (by omega), or_low A b hb]
  rfl
set_option maxHeartbeats 400000 in
theorem number_any (w : World) (rb : Nat) (l : List Nat) (e n : Int) (hR : Rdr N w rb l e) :
    Calls Try.prog 74 #[.func (.func 75) #[.pointer (some ⟨rb, 0, none⟩)] #[], .int .i64 n] w fun ev w' =>
      ev = .returned (.int .u64 (num (rpGot l e n) : Nat)) ∧ Rdr N w' rb (rpLeft l e n) (rpErr l e n) ∧ w.grownBy w' (some rb) := by
  have hp := pass_any w rb l e n hR
  have hby := rpGot_byte hR.byte e n
  obtain ⟨L, hL⟩ : ∃ L, L = rpGot l e n := ⟨_, rfl⟩
  rw [← hL] at hp hby ⊢
  have HP := Lib.hid hp
  have HY := Lib.hid hby
  clear hp hL hR hby
  go_enter Try.func74, Try.ntmps74
  go_wp2_with (go_at_call 75; refine Calls.mono HP.out ?_; rintro ev w1 ⟨v, rfl, h1, h2, h3, h4⟩; obtain ⟨ao, cap, rfl, hcap⟩ := h1.shape; have hfit := h1.fits; have H1 := Lib.hid h1; have H2 := Lib.hid h2; have H3 := Lib.hid h3; clear h1 h2 h3 h4)
  go_loop [5, 12] (fun a i => ∃ k : Nat, k ≤ L.length ∧ i = .int .i64 k ∧ a = .int .u64 ((num (L.take k) : Nat) : Int)) (fun _ i => L.length - (intOf i).toNat)
  case atStart => exact ⟨0, Nat.zero_le _, rfl, rfl⟩
  case round =>
    obtain ⟨k, hk, rfl, rfl⟩ := hrel
    by_cases hlt : k < L.length
    · obtain ⟨ad, rfl, hc⟩ := H1.out.at_ k hlt
      have hn := num_lt (L.take k) (gb_take_byte L k HY.out)
      have hb := HY.out k
      obtain ⟨A, hA⟩ : ∃ A, A = num (L.take k) := ⟨_, rfl⟩
      obtain ⟨b, hbb⟩ : ∃ b, b = gb L k := ⟨_, rfl⟩
      rw [← hA] at hn ⊢
      rw [← hbb] at hb hc
      have HA := Lib.hid hA
      have HBB := Lib.hid hbb
      clear hA hbb
      go_wp2_with fail
      refine ⟨⟨k + 1, by omega, by go_num, ?_⟩, by simp [intOf]; omega⟩
      rw [or_step A b hb, num_take L k hlt, HA.out, HBB.out]
    · obtain rfl : k = L.length := by omega
      go_wp2_with fail
      go_ret
      exact ⟨rfl, H2.out, H3.out⟩

theorem u8_any (w : World) (rb : Nat) (l : List Nat) (e : Int) (hR : Rdr N w rb l e) :
    Calls Try.prog 62 #[.pointer (some ⟨rb, 0, none⟩)] w fun ev w' => ev = .returned (.int .u8 (num (rpGot l e 1) : Nat)) ∧ Rdr N w' rb (rpLeft l e 1) (rpErr l e 1) ∧ w.grownBy w' (some rb) := by
  have hp := number_any w rb l e 1 hR
  have hsm : num (rpGot l e 1) < 256 := num_le _ (rpGot_byte hR.byte e 1) 1 (rpGot_len l e 1)
  obtain ⟨A, hA⟩ : ∃ A, A = num (rpGot l e 1) := ⟨_, rfl⟩
  rw [← hA] at hp hsm ⊢
  have HP := Lib.hid hp
  clear hp hA hR
  go_enter Try.func62, Try.ntmps62
  go_wp2_with (go_at_call 74; refine Calls.mono HP.out ?_; rintro ev w1 ⟨rfl, h2, h3⟩; have H2 := Lib.hid h2; have H3 := Lib.hid h3; clear h2 h3)
  go_ret
  refine ⟨?_, H2.out, H3.out⟩
  have e2 : ((A : Int) % 256) = (A : Int) := by omega
  first | rfl | (simp [e2])

theorem u32_any (w : World) (rb : Nat) (l : List Nat) (e : Int) (hR : Rdr N w rb l e) :
    Calls Try.prog 72 #[.pointer (some ⟨rb, 0, none⟩)] w fun ev w' => ev = .returned (.int .u32 (num (rpGot l e 4) : Nat)) ∧ Rdr N w' rb (rpLeft l e 4) (rpErr l e 4) ∧ w.grownBy w' (some rb) := by
  have hp := number_any w rb l e 4 hR
  have hsm : num (rpGot l e 4) < 4294967296 := num_le _ (rpGot_byte hR.byte e 4) 4 (rpGot_len l e 4)
  obtain ⟨A, hA⟩ : ∃ A, A = num (rpGot l e 4) := ⟨_, rfl⟩
  rw [← hA] at hp hsm ⊢
  have HP := Lib.hid hp
  clear hp hA hR
  go_enter Try.func72, Try.ntmps72
  go_wp2_with (go_at_call 74; refine Calls.mono HP.out ?_; rintro ev w1 ⟨rfl, h2, h3⟩; have H2 := Lib.hid h2; have H3 := Lib.hid h3; clear h2 h3)
  go_ret
  refine ⟨?_, H2.out, H3.out⟩
  have e2 : ((A : Int) % 4294967296) = (A : Int) := by omega
  first | rfl | (simp [e2])

theorem take_any (w : World) (rb : Nat) (l : List Nat) (e n : Int) (hR : Rdr N w rb l e) :
    Calls Try.prog 73 #[.pointer (some ⟨rb, 0, none⟩), .int .i64 n] w fun ev w' => ∃ v, ev = .returned v ∧ Own w' w.heap.size v (rpGot l e n) ∧ Rdr N w' rb (rpLeft l e n) (rpErr l e n) ∧ w.grownBy w' (some rb) := by
  have HP := Lib.hid (pass_any w rb l e n hR)
  clear hR
  go_enter Try.func73, Try.ntmps73
  go_wp2_with (first | (go_at_call 75; refine Calls.mono HP.out ?_; rintro ev w1 ⟨v, rfl, h1, h2, h3, h4⟩; have H1 := Lib.hid h1; have H2 := Lib.hid h2; have H3 := Lib.hid h3; clear h1 h2 h3 h4) | (go_at_call 64; refine (clone_any v _ w1 H1.out).mono ?_; rintro ev w2 ⟨v2, rfl, k1, k2⟩; have K1 := Lib.hid k1; have K2 := Lib.hid k2; clear k1 k2))
  go_ret
  exact ⟨_, rfl, K1.out.lower H3.out.size, H2.out.below K2.out, only_trans H3.out (grown_of_below K2.out _)⟩
theorem read_any (w : World) (v : Value) (l : List Nat) (h : Rd w v l) :
    Calls Try.prog 42 #[v] w fun ev w' => ∃ rb, ev = .returned (.pointer (some ⟨rb, 0, none⟩)) ∧ Rdr (fun g => w.heap.size ≤ g ∧ g < w'.heap.size) w' rb l 0 ∧ Below w.heap.size w w' ∧ w.heap.size ≤ rb := by
  have H := Lib.hid h
  clear h
  go_enter Try.func42, Try.ntmps42
  go_wp2_with (go_at_call 64; refine (clone_any v l w H.out).mono ?_; rintro ev w1 ⟨v2, rfl, k1, k2⟩; obtain ⟨ao, cap, rfl, hcap⟩ := k1.rd.shape; have K1 := Lib.hid k1; have K2 := Lib.hid k2; clear k1 k2)
  go_ret
  refine ⟨w1.heap.size, rfl, ⟨_, Blk.new w1 _ _ _ rfl, K1.out.rd.alloc _, fun h => ?_, fun g h => ?_⟩, (K2.out).alloc K2.out.size _, K2.out.size⟩
  · have := (K1.out.from _ h).2
    omega
  · have := K1.out.from _ h
    simp; omega
/-- Behind a read of a text of at most m bytes: what was read, what is left, the error. -/
def rtGot (l : List Nat) (e m : Int) : List Nat := if e = 0 ∧ lookT m l = 0 then (l.drop 1).take (gb l 0) else []
def rtLeft (l : List Nat) (e m : Int) : List Nat := if e = 0 ∧ lookT m l = 0 then l.drop (1 + gb l 0) else []
def rtErr (l : List Nat) (e m : Int) : Int := if e = 0 then lookT m l else e
theorem rd_lookT {m : Int} {l : List Nat} (h : lookT m l = 0) : 1 + gb l 0 ≤ l.length := by
  unfold lookT at h
  split at h
  · cases h
  · omega
set_option maxHeartbeats 400000 in
theorem rtext_bad (w : World) (rb : Nat) (l : List Nat) (e m : Int) (hR : Rdr N w rb l e) (hk : ¬ (e = 0 ∧ lookT m l = 0)) :
    Calls Try.prog 63 #[.pointer (some ⟨rb, 0, none⟩), .int .i64 m] w fun ev w' => ev = .returned (.string ByteArray.empty) ∧ Rdr N w' rb [] (rtErr l e m) ∧ w.grownBy w' (some rb) := by
  have hb : Below w.heap.size w ((w.alloc (.cells #[.pointer (some ⟨rb, 0, none⟩)] 73)).alloc (.cells #[.int .i64 m] 3)) := ((Below.refl _ _).alloc (Nat.le_refl _) _).alloc (by simp) _
  have b1 : Blk ((w.alloc (.cells #[.pointer (some ⟨rb, 0, none⟩)] 73)).alloc (.cells #[.int .i64 m] 3)) w.heap.size 73 [.pointer (some ⟨rb, 0, none⟩)] := (Blk.new w _ _ _ rfl).alloc _
  have b2 : Blk ((w.alloc (.cells #[.pointer (some ⟨rb, 0, none⟩)] 73)).alloc (.cells #[.int .i64 m] 3)) (w.heap.size + 1) 3 [.int .i64 m] := Blk.new _ _ _ _ (by simp)
  have hs : Calls Try.prog 76 #[.pointer (some ⟨rb, 0, none⟩), .func (.func 77) #[] #[.pointer (some ⟨w.heap.size, 0, none⟩), .pointer (some ⟨w.heap.size + 1, 0, none⟩)]] ((w.alloc (.cells #[.pointer (some ⟨rb, 0, none⟩)] 73)).alloc (.cells #[.int .i64 m] 3)) fun ev w' => ev = .returned (.bool false) ∧ ((w.alloc (.cells #[.pointer (some ⟨rb, 0, none⟩)] 73)).alloc (.cells #[.int .i64 m] 3)).grownBy w' (some rb) ∧ Rdr N w' rb [] (rtErr l e m) := by
    by_cases he : e = 0
    · have h := sound_text_bad _ rb (w.heap.size + 1) w.heap.size l e m (hR.below hb) b2 b1 he (fun q => hk ⟨he, q⟩)
      unfold rtErr; rw [if_pos he]; exact h
    · have h := sound_text_old _ rb (w.heap.size + 1) w.heap.size l e m (hR.below hb) b2 b1 he
      unfold rtErr; rw [if_neg he]; exact h
  have c1 := b1.cell 0 _ rfl
  have HS := Lib.hid hs
  have HB := Lib.hid hb
  clear hs hb b1 b2 hR hk
  go_enter Try.func63, Try.ntmps63
  go_wp2_with (go_at_call 76; refine Calls.mono HS.out ?_; rintro ev w1 ⟨rfl, hg, hr⟩; have HG := Lib.hid hg; have HR := Lib.hid hr; clear hg hr)
  go_ret
  exact ⟨rfl, HR.out, only_after HB.out HG.out⟩
theorem Rdr.drew {w : World} {rb : Nat} {l : List Nat} {e : Int} (h : Rdr N w rb l e) : Rdr N w.drew rb l e := by
  obtain ⟨sv, h1, h2, h3⟩ := h
  exact ⟨sv, h1, h2.drew, h3⟩
set_option maxHeartbeats 800000 in
theorem rtext_ok (w : World) (rb : Nat) (l : List Nat) (m : Int) (hR : Rdr N w rb l 0) (hk : lookT m l = 0) :
    Calls Try.prog 63 #[.pointer (some ⟨rb, 0, none⟩), .int .i64 m] w fun ev w' => ev = .returned (.string (bstr ((l.drop 1).take (gb l 0)))) ∧ Rdr N w' rb (l.drop (1 + gb l 0)) 0 ∧ w.grownBy w' (some rb) := by
  have hb : Below w.heap.size w ((w.alloc (.cells #[.pointer (some ⟨rb, 0, none⟩)] 73)).alloc (.cells #[.int .i64 m] 3)) := ((Below.refl _ _).alloc (Nat.le_refl _) _).alloc (by simp) _
  have b1 : Blk ((w.alloc (.cells #[.pointer (some ⟨rb, 0, none⟩)] 73)).alloc (.cells #[.int .i64 m] 3)) w.heap.size 73 [.pointer (some ⟨rb, 0, none⟩)] := (Blk.new w _ _ _ rfl).alloc _
  have b2 : Blk ((w.alloc (.cells #[.pointer (some ⟨rb, 0, none⟩)] 73)).alloc (.cells #[.int .i64 m] 3)) (w.heap.size + 1) 3 [.int .i64 m] := Blk.new _ _ _ _ (by simp)
  have hs := sound_text_ok _ rb (w.heap.size + 1) w.heap.size l 0 m (hR.below hb) b2 b1 rfl hk
  have hl := rd_lookT hk
  have h0 := hR.byte 0
  have g1 : rpGot l 0 1 = [gb l 0] := by
    unfold rpGot
    rw [if_pos ⟨rfl, by unfold lookP; rw [if_neg (by omega), if_neg (by omega)]⟩]
    cases l with
    | nil => simp at hl
    | cons x r => rfl
  have g2 : rpLeft l 0 1 = l.drop 1 := by
    unfold rpLeft
    rw [if_pos ⟨rfl, by unfold lookP; rw [if_neg (by omega), if_neg (by omega)]⟩]; rfl
  have g3 : rpErr l 0 1 = 0 := by
    unfold rpErr
    rw [if_pos rfl]; unfold lookP; rw [if_neg (by omega), if_neg (by omega)]
  have g4 : num [gb l 0] = gb l 0 := by unfold num numStep; simp
  have hlt := hR.lt
  obtain ⟨c, hc⟩ : ∃ c, c = gb l 0 := ⟨_, rfl⟩
  rw [← hc] at g1 g4 hl h0 ⊢
  have hu : ∀ W, Rdr N W rb l 0 → Calls Try.prog 62 #[.pointer (some ⟨rb, 0, none⟩)] W fun ev w' => ev = .returned (.int .u8 (c : Nat)) ∧ Rdr N w' rb (l.drop 1) 0 ∧ W.grownBy w' (some rb) := fun W hW => by
    have h := u8_any W rb l 0 hW
    rw [g1, g2, g3, g4] at h
    exact h
  have c1 := b1.cell 0 _ rfl
  have HS := Lib.hid hs
  have HB := Lib.hid hb
  have B1 := Lib.hid b1
  have HU := Lib.hid hu
  have hp : ∀ W, Rdr N W rb (l.drop 1) 0 → Calls Try.prog 75 #[.pointer (some ⟨rb, 0, none⟩), .int .i64 (IntKind.i64.wrap (c : Int))] W fun ev w' => ∃ v, ev = .returned v ∧ Rd w' v ((l.drop 1).take c) ∧ Rdr N w' rb ((l.drop 1).drop c) 0 ∧ W.grownBy w' (some rb) ∧ v.ownBlock ≠ some rb := fun W hW => by
    rw [show IntKind.i64.wrap (c : Int) = (c : Int) by rw [IntKind.wrap_i64]; omega]
    exact pass_ok W rb (l.drop 1) c hW (by rw [List.length_drop]; omega)
  have HP := Lib.hid hp
  clear hp
  clear hs hb b1 b2 hR hk hu g1 g2 g3 g4 hc hl
  go_enter Try.func63, Try.ntmps63
  go_wp2_with (go_at_call 76; refine Calls.mono HS.out ?_; rintro ev w1 ⟨rfl, hg, hr⟩; have HG := Lib.hid hg; have HR := Lib.hid hr; have k1 := (B1.out.grown hg (by simp; omega)); have c2 := k1.cell 0 _ rfl; have K1 := Lib.hid k1; clear hg hr c1 k1)
  have c3 : w1.drew.cell? ⟨w.heap.size, 0, none⟩ = some (.pointer (some ⟨rb, 0, none⟩)) := K1.out.drew.cell 0 _ rfl
  go_region_with (first | (go_at_call 62; refine Calls.mono (HU.out _ ?_) ?_; exact HR.out.drew; rintro ev w2 ⟨rfl, hr2, hg2⟩; have k2 := K1.out.drew.grown hg2 (by simp; omega); have c4 := k2.cell 0 _ rfl; have R2 := Lib.hid hr2; have G2 := Lib.hid hg2; clear k2 hr2 hg2) | (go_at_call 75; refine Calls.mono (HP.out _ ?_) ?_; exact R2.out; rintro ev w3 ⟨v, rfl, h1, h2, h3, h4⟩; have S3 := h1.str; have R3 := Lib.hid h2; have G3 := Lib.hid h3; clear h1 h2 h3 h4))
  all_goals go_wp2_with fail
  all_goals go_ret
  all_goals exact ⟨by rw [List.drop_one]; rfl, by rw [← List.drop_drop]; exact R3.out, only_trans (only_trans (only_after HB.out (only_dN HG.out 1)) G2.out) G3.out⟩
/-- Text, for whatever reader and whatever bound. -/
theorem rtext_any (w : World) (rb : Nat) (l : List Nat) (e m : Int) (hR : Rdr N w rb l e) :
    Calls Try.prog 63 #[.pointer (some ⟨rb, 0, none⟩), .int .i64 m] w fun ev w' => ev = .returned (.string (bstr (rtGot l e m))) ∧ Rdr N w' rb (rtLeft l e m) (rtErr l e m) ∧ w.grownBy w' (some rb) := by
  by_cases h : e = 0 ∧ lookT m l = 0
  · obtain ⟨rfl, hk⟩ := h
    unfold rtGot rtLeft rtErr
    rw [if_pos ⟨rfl, hk⟩, if_pos ⟨rfl, hk⟩, if_pos rfl, hk]
    exact rtext_ok w rb l m hR hk
  · have h1 := rtext_bad w rb l e m hR h
    unfold rtGot rtLeft
    rw [if_neg h, if_neg h]
    exact h1
theorem number_nil (w : World) (n : Int) :
    Calls Try.prog 74 #[.func (.func 75) #[.pointer none] #[], .int .i64 n] w fun ev w' => ev = .returned (.int .u64 0) ∧ Below w.heap.size w w' := by
  go_enter Try.func74, Try.ntmps74
  go_wp2_with (go_at_call 75; refine (pass_nil w n).mono ?_; rintro ev w1 ⟨rfl, h1⟩; have H1 := Lib.hid h1; clear h1)
  refine wp_loop_rounds 1 ?_
  rw [rounds_succ]
  go_wp2_with fail
  go_ret
  exact ⟨rfl, H1.out⟩
theorem take_nil (w : World) (n : Int) :
    Calls Try.prog 73 #[.pointer none, .int .i64 n] w fun ev w' => ∃ v, ev = .returned v ∧ Own w' w.heap.size v [] ∧ Below w.heap.size w w' := by
  go_enter Try.func73, Try.ntmps73
  go_wp2_with (first | (go_at_call 75; refine (pass_nil w n).mono ?_; rintro ev w1 ⟨rfl, h3⟩; have H3 := Lib.hid h3; clear h3) | (go_at_call 64; refine (clone_any _ [] w1 (Rd.none_ w1)).mono ?_; rintro ev w2 ⟨v2, rfl, k1, k2⟩; have K1 := Lib.hid k1; have K2 := Lib.hid k2; clear k1 k2))
  go_ret
  exact ⟨_, rfl, K1.out.lower H3.out.size, H3.out.trans (K2.out.mono H3.out.size)⟩
set_option maxHeartbeats 400000 in
theorem rtext_nil (w : World) (m : Int) :
    Calls Try.prog 63 #[.pointer none, .int .i64 m] w fun ev w' => ev = .returned (.string ByteArray.empty) ∧ Below w.heap.size w w' := by
  have hb : Below w.heap.size w ((w.alloc (.cells #[.pointer none] 73)).alloc (.cells #[.int .i64 m] 3)) := ((Below.refl _ _).alloc (Nat.le_refl _) _).alloc (by simp) _
  have b1 : Blk ((w.alloc (.cells #[.pointer none] 73)).alloc (.cells #[.int .i64 m] 3)) w.heap.size 73 [.pointer none] := (Blk.new w _ _ _ rfl).alloc _
  have c1 := b1.cell 0 _ rfl
  have HB := Lib.hid hb
  clear hb b1
  go_enter Try.func63, Try.ntmps63
  go_wp2_with (go_at_call 76; refine (sound_nil _ _ _).mono ?_; rintro ev w1 ⟨rfl, rfl⟩)
  go_ret
  exact ⟨rfl, HB.out⟩
theorem u8_nil (w : World) : Calls Try.prog 62 #[.pointer none] w fun ev w' => ev = .returned (.int .u8 0) ∧ Below w.heap.size w w' := by
  go_enter Try.func62, Try.ntmps62
  go_wp2_with (go_at_call 74; refine (number_nil w 1).mono ?_; rintro ev w1 ⟨rfl, h2⟩; have H2 := Lib.hid h2; clear h2)
  go_ret
  exact ⟨rfl, H2.out⟩
theorem u32_nil (w : World) : Calls Try.prog 72 #[.pointer none] w fun ev w' => ev = .returned (.int .u32 0) ∧ Below w.heap.size w w' := by
  go_enter Try.func72, Try.ntmps72
  go_wp2_with (go_at_call 74; refine (number_nil w 4).mono ?_; rintro ev w1 ⟨rfl, h2⟩; have H2 := Lib.hid h2; clear h2)
  go_ret
  exact ⟨rfl, H2.out⟩
end Go.Proofs.Ytkagapgganoomaa

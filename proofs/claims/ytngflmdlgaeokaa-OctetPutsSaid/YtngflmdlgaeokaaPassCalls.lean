/- Passing over bytes: package octet's pass, for whatever reader. Own work. -/
import Derived.Test.YtngflmdlgaeokaaReadCalls
namespace Go.Proofs.Ytngflmdlgaeokaa
open Go.RowKit
theorem Rdr.below {w w' : World} {rb : Nat} {l : List Nat} {e : Int} (h : Rdr w rb l e) (hb : Below w.heap.size w w') : Rdr w' rb l e := by
  obtain ⟨sv, h1, h2, h3⟩ := h
  exact ⟨sv, h1.below hb h1.lt, h2.below hb, h3⟩
theorem Rdr.lt {w : World} {rb : Nat} {l : List Nat} {e : Int} (h : Rdr w rb l e) : rb < w.heap.size := by
  obtain ⟨sv, h1, _, _⟩ := h
  exact h1.lt
theorem Blk.grown {w w' : World} {g : Nat} {t : TypeId} {vs : List Value} (h : Blk w g t vs) {row : Option Nat} (hg : w.grownBy w' row) (hne : some g ≠ row) : Blk w' g t vs := (hg.block g h.lt hne).trans h
theorem only_trans {a b c : World} {row : Option Nat} (h : a.grownBy b row) (k : b.grownBy c row) : a.grownBy c row :=
  ⟨k.os.trans h.os, k.tape.trans h.tape, k.output.trans h.output, Nat.le_trans h.size k.size, fun i hi hne => (k.block i (Nat.lt_of_lt_of_le hi h.size) hne).trans (h.block i hi hne)⟩
theorem only_after {a b c : World} {row : Option Nat} (h : Below a.heap.size a b) (k : b.grownBy c row) : a.grownBy c row := only_trans (grown_of_below h row) k
theorem Rd.drewN {w : World} {v : Value} {l : List Nat} (h : Rd w v l) (n : Nat) : Rd (w.drewN n) v l := h.keep fun _ _ _ => rfl
theorem only_dN {a w : World} {row : Option Nat} (h : a.grownBy w row) (n : Nat) : a.grownBy (w.drewN n) row := ⟨h.os, h.tape, h.output, h.size, h.block⟩
/-- Behind a read of n bytes: what was read, what is left, the error. -/
def rpGot (l : List Nat) (e n : Int) : List Nat := if e = 0 ∧ lookP n l.length = 0 then l.take n.toNat else []
def rpLeft (l : List Nat) (e n : Int) : List Nat := if e = 0 ∧ lookP n l.length = 0 then l.drop n.toNat else []
def rpErr (l : List Nat) (e n : Int) : Int := if e = 0 then lookP n l.length else e
theorem gb_take (l : List Nat) (k j : Nat) (hj : j < k) : gb (l.take k) j = gb l j := by
  unfold gb
  rw [List.getD_eq_getElem?_getD, List.getD_eq_getElem?_getD, List.getElem?_take, if_pos hj]
theorem gb_drop (l : List Nat) (k j : Nat) : gb (l.drop k) j = gb l (k + j) := by
  unfold gb
  rw [List.getD_eq_getElem?_getD, List.getD_eq_getElem?_getD, List.getElem?_drop]
theorem gb_take_byte (l : List Nat) (k : Nat) (h : ∀ j, gb l j < 256) (j : Nat) : gb (l.take k) j < 256 := by
  by_cases hj : j < k
  · rw [gb_take l k j hj]; exact h j
  · unfold gb; rw [List.getD_eq_getElem?_getD, List.getElem?_take, if_neg hj]; show 0 < 256; omega
theorem add_of_add (a : Addr) (i j : Nat) : (a.add i).add j = a.add (i + j) := Addr.add_add a i j
/-- The first k bytes of a slice. -/
theorem Rd.take {w : World} {ao : Option Addr} {n cap : Nat} {l : List Nat} (h : Rd w (.slice ao n cap) l) (k : Nat) (hk : k ≤ l.length) : Rd w (.slice ao k cap) (l.take k) := by
  have e1 : (l.take k).length = k := by rw [List.length_take]; omega
  refine ⟨gb_take_byte l k h.byte, by rw [e1]; have := h.fits; omega, ?_⟩
  rcases h.form with ⟨e, q⟩ | ⟨ad, cap', e, hc, hs⟩
  · subst q
    injection e with e2 e3 e4
    subst e2; subst e4
    obtain rfl : k = 0 := by simpa using hk
    exact .inl ⟨rfl, rfl⟩
  · injection e with e2 e3 e4
    subst e2; subst e4
    refine .inr ⟨ad, cap, by rw [e1], by rw [e1]; omega, fun j hj => ?_⟩
    rw [gb_take l k j (by omega)]
    exact hs j (by omega)
/-- What stands behind the first k bytes. -/
theorem Rd.drop {w : World} {ao : Option Addr} {n cap : Nat} {l : List Nat} (h : Rd w (.slice ao n cap) l) (k : Nat) (hk : k ≤ l.length) : Rd w (.slice (if cap = k then ao else ao.map (·.add k)) (l.length - k) (cap - k)) (l.drop k) := by
  have e1 : (l.drop k).length = l.length - k := List.length_drop
  refine ⟨fun j => by rw [gb_drop]; exact h.byte _, by rw [e1]; have := h.fits; omega, ?_⟩
  rcases h.form with ⟨e, q⟩ | ⟨ad, cap', e, hc, hs⟩
  · subst q
    injection e with e2 e3 e4
    subst e2; subst e4
    obtain rfl : k = 0 := by simpa using hk
    exact .inl ⟨by simp, rfl⟩
  · injection e with e2 e3 e4
    subst e2; subst e4
    by_cases hq : cap = k
    · refine .inr ⟨ad, cap - k, by rw [if_pos hq, e1], by rw [e1]; omega, fun j hj => absurd hj (by omega)⟩
    · refine .inr ⟨ad.add k, cap - k, by rw [if_neg hq, e1]; rfl, by rw [e1]; omega, fun j hj => ?_⟩
      rw [add_of_add, gb_drop]
      exact hs (k + j) (by omega)
theorem owner_len {ao : Option Addr} {n m c d : Nat} : (Value.slice ao n c).ownBlock = (Value.slice ao m d).ownBlock := by cases ao <;> rfl
theorem owner_cut {ao : Option Addr} {n cap k n' c' rb : Nat} (h : (Value.slice ao n cap).ownBlock ≠ some rb) : (Value.slice (if cap = k then ao else ao.map (·.add k)) n' c').ownBlock ≠ some rb := by
  cases ao with
  | none => split <;> simp [Value.ownBlock]
  | some a =>
    split
    · exact h
    · show some (a.add k).block ≠ some rb
      rw [add_block]; exact h
set_option maxHeartbeats 400000 in
theorem pass_old (w : World) (rb : Nat) (l : List Nat) (e n : Int) (hR : Rdr w rb l e) (he : e ≠ 0) :
    Calls Try.prog 37 #[.pointer (some ⟨rb, 0, none⟩), .int .i64 n] w fun ev w' => ev = .returned (.slice none 0 0) ∧ Rdr w' rb [] e ∧ w.grownBy w' (some rb) := by
  have hb : Below w.heap.size w ((w.alloc (.cells #[.pointer (some ⟨rb, 0, none⟩)] 43)).alloc (.cells #[.int .i64 n] 3)) := ((Below.refl _ _).alloc (Nat.le_refl _) _).alloc (by simp) _
  have b1 : Blk ((w.alloc (.cells #[.pointer (some ⟨rb, 0, none⟩)] 43)).alloc (.cells #[.int .i64 n] 3)) w.heap.size 43 [.pointer (some ⟨rb, 0, none⟩)] := (Blk.new w _ _ _ rfl).alloc _
  have b2 : Blk ((w.alloc (.cells #[.pointer (some ⟨rb, 0, none⟩)] 43)).alloc (.cells #[.int .i64 n] 3)) (w.heap.size + 1) 3 [.int .i64 n] := Blk.new _ _ _ _ (by simp)
  have hs := sound_pass_old _ rb (w.heap.size + 1) w.heap.size l e n (hR.below hb) b2 b1 he
  have c1 := b1.cell 0 _ rfl
  have HS := Lib.hid hs
  have HB := Lib.hid hb
  clear hs hb b1 b2 hR he
  go_enter Try.func37, Try.ntmps37
  go_wp2_with (go_at_call 38; refine Calls.mono HS.out ?_; rintro ev w1 ⟨rfl, hg, hr⟩; have HG := Lib.hid hg; have HR := Lib.hid hr; clear hg hr)
  go_ret
  exact ⟨rfl, HR.out, only_after HB.out HG.out⟩
set_option maxHeartbeats 400000 in
theorem pass_bad (w : World) (rb : Nat) (l : List Nat) (n : Int) (hR : Rdr w rb l 0) (hk : lookP n l.length ≠ 0) :
    Calls Try.prog 37 #[.pointer (some ⟨rb, 0, none⟩), .int .i64 n] w fun ev w' => ev = .returned (.slice none 0 0) ∧ Rdr w' rb [] (lookP n l.length) ∧ w.grownBy w' (some rb) := by
  have hb : Below w.heap.size w ((w.alloc (.cells #[.pointer (some ⟨rb, 0, none⟩)] 43)).alloc (.cells #[.int .i64 n] 3)) := ((Below.refl _ _).alloc (Nat.le_refl _) _).alloc (by simp) _
  have b1 : Blk ((w.alloc (.cells #[.pointer (some ⟨rb, 0, none⟩)] 43)).alloc (.cells #[.int .i64 n] 3)) w.heap.size 43 [.pointer (some ⟨rb, 0, none⟩)] := (Blk.new w _ _ _ rfl).alloc _
  have b2 : Blk ((w.alloc (.cells #[.pointer (some ⟨rb, 0, none⟩)] 43)).alloc (.cells #[.int .i64 n] 3)) (w.heap.size + 1) 3 [.int .i64 n] := Blk.new _ _ _ _ (by simp)
  have hs := sound_pass_bad _ rb (w.heap.size + 1) w.heap.size l 0 n (hR.below hb) b2 b1 rfl hk
  have c1 := b1.cell 0 _ rfl
  have HS := Lib.hid hs
  have HB := Lib.hid hb
  clear hs hb b1 b2 hR hk
  go_enter Try.func37, Try.ntmps37
  go_wp2_with (go_at_call 38; refine Calls.mono HS.out ?_; rintro ev w1 ⟨rfl, hg, hr⟩; have HG := Lib.hid hg; have HR := Lib.hid hr; clear hg hr)
  go_ret
  exact ⟨rfl, HR.out, only_after HB.out HG.out⟩
set_option maxHeartbeats 400000 in
theorem pass_ok (w : World) (rb : Nat) (l : List Nat) (n : Nat) (hR : Rdr w rb l 0) (hk : n ≤ l.length) :
    Calls Try.prog 37 #[.pointer (some ⟨rb, 0, none⟩), .int .i64 n] w fun ev w' => ∃ v, ev = .returned v ∧ Rd w' v (l.take n) ∧ Rdr w' rb (l.drop n) 0 ∧ w.grownBy w' (some rb) ∧ v.ownBlock ≠ some rb := by
  have hb : Below w.heap.size w ((w.alloc (.cells #[.pointer (some ⟨rb, 0, none⟩)] 43)).alloc (.cells #[.int .i64 n] 3)) := ((Below.refl _ _).alloc (Nat.le_refl _) _).alloc (by simp) _
  have b1 : Blk ((w.alloc (.cells #[.pointer (some ⟨rb, 0, none⟩)] 43)).alloc (.cells #[.int .i64 n] 3)) w.heap.size 43 [.pointer (some ⟨rb, 0, none⟩)] := (Blk.new w _ _ _ rfl).alloc _
  have b2 : Blk ((w.alloc (.cells #[.pointer (some ⟨rb, 0, none⟩)] 43)).alloc (.cells #[.int .i64 n] 3)) (w.heap.size + 1) 3 [.int .i64 n] := Blk.new _ _ _ _ (by simp)
  have hlk : lookP n l.length = 0 := by unfold lookP; rw [if_neg (by omega), if_neg (by omega)]
  have hs := sound_pass_ok _ rb (w.heap.size + 1) w.heap.size l 0 n (hR.below hb) b2 b1 rfl hlk
  have c1 := b1.cell 0 _ rfl
  have hlt := hR.lt
  have HS := Lib.hid hs
  have HB := Lib.hid hb
  have B1 := Lib.hid b1
  have B2 := Lib.hid b2
  clear hs hb b1 b2 hR hlk
  go_enter Try.func37, Try.ntmps37
  go_wp2_with (go_at_call 38; refine Calls.mono HS.out ?_; rintro ev w1 ⟨rfl, hg, hr⟩; have HG := Lib.hid hg; have HR := Lib.hid hr; clear hg hr c1)
  obtain ⟨sv, h1, h2, h3⟩ := HR.out
  have d1 := (B1.out.grown HG.out (by simp; omega)).cell 0 _ rfl
  have d2 := (B2.out.grown HG.out (by simp; omega)).cell 0 _ rfl
  obtain ⟨ao, cap, rfl, hcap⟩ := h2.shape
  have d3 := h1.cell 0 _ rfl
  have f3 := h1.free 0
  have H1 := Lib.hid h1
  have H2 := Lib.hid h2
  clear h1 h2 HR B1 B2 HS
  go_quiet (fail)
  go_wp2_with fail
  go_region
  have k1 : Blk (w1.drewN (nq + 1)) rb 65 [.slice ao l.length cap, .int .i64 0] := H1.out
  have k2 : Rd (w1.drewN (nq + 1)) (.slice ao l.length cap) l := H2.out.drewN _
  have k3 := k2.drop n hk
  have k4 : (Value.slice (if cap = n then ao else ao.map (·.add n)) (l.length - n) (cap - n)).ownBlock ≠ some rb := owner_cut h3
  have k5 : (Value.slice ao n cap).ownBlock ≠ some rb := by rw [owner_len]; exact h3
  have K5 := Lib.hid k5
  have K6 := Lib.hid (k2.take n hk)
  generalize (Value.slice (if cap = n then ao else ao.map (·.add n)) (l.length - n) (cap - n)) = V at *
  have K1 := Lib.hid k1
  have K3 := Lib.hid k3
  have K4 := Lib.hid k4
  clear k1 k2 k3 k4 k5
  go_wp2_with fail
  go_ret
  exact ⟨_, rfl, K6.out.setCell _ _ K5.out, ⟨_, K1.out.set 0 _, K3.out.setCell _ _ K4.out, K4.out⟩, only_set (only_dN (only_after HB.out HG.out) _) (.inl rfl) _, K5.out⟩
/-- pass, for whatever reader and whatever n. -/
theorem pass_any (w : World) (rb : Nat) (l : List Nat) (e n : Int) (hR : Rdr w rb l e) :
    Calls Try.prog 37 #[.pointer (some ⟨rb, 0, none⟩), .int .i64 n] w fun ev w' => ∃ v, ev = .returned v ∧ Rd w' v (rpGot l e n) ∧ Rdr w' rb (rpLeft l e n) (rpErr l e n) ∧ w.grownBy w' (some rb) ∧ v.ownBlock ≠ some rb := by
  by_cases he : e = 0
  · subst he
    by_cases hk : lookP n l.length = 0
    · have hn : 0 ≤ n ∧ n ≤ l.length := by
        unfold lookP at hk
        split at hk
        · cases hk
        · split at hk
          · cases hk
          · omega
      obtain ⟨m, rfl⟩ : ∃ m : Nat, n = (m : Int) := ⟨n.toNat, by omega⟩
      unfold rpGot rpLeft rpErr
      rw [if_pos ⟨rfl, hk⟩, if_pos ⟨rfl, hk⟩, if_pos rfl, hk, Int.toNat_natCast]
      exact pass_ok w rb l m hR (by omega)
    · unfold rpGot rpLeft rpErr
      rw [if_neg (fun h => hk h.2), if_neg (fun h => hk h.2), if_pos rfl]
      exact (pass_bad w rb l n hR hk).mono fun ev w' ⟨h1, h2, h3⟩ => ⟨_, h1, Rd.none_ _, h2, h3, by simp [Value.ownBlock]⟩
  · unfold rpGot rpLeft rpErr
    rw [if_neg (fun h => he h.1), if_neg (fun h => he h.1), if_neg he]
    exact (pass_old w rb l e n hR he).mono fun ev w' ⟨h1, h2, h3⟩ => ⟨_, h1, Rd.none_ _, h2, h3, by simp [Value.ownBlock]⟩
set_option maxHeartbeats 400000 in
theorem sound_nil (w : World) (f : FuncId) (caps : Array Value) : Calls Try.prog 38 #[.pointer none, .func (.func f) #[] caps] w fun ev w' => ev = .returned (.bool false) ∧ w = w' := by
  go_enter Try.func38, Try.ntmps38
  go_wp2_with fail
  go_ret
  exact ⟨rfl, rfl⟩
set_option maxHeartbeats 400000 in
theorem pass_nil (w : World) (n : Int) : Calls Try.prog 37 #[.pointer none, .int .i64 n] w fun ev w' => ev = .returned (.slice none 0 0) ∧ Below w.heap.size w w' := by
  have hb : Below w.heap.size w ((w.alloc (.cells #[.pointer none] 43)).alloc (.cells #[.int .i64 n] 3)) := ((Below.refl _ _).alloc (Nat.le_refl _) _).alloc (by simp) _
  have b1 : Blk ((w.alloc (.cells #[.pointer none] 43)).alloc (.cells #[.int .i64 n] 3)) w.heap.size 43 [.pointer none] := (Blk.new w _ _ _ rfl).alloc _
  have c1 := b1.cell 0 _ rfl
  have HB := Lib.hid hb
  clear hb b1
  go_enter Try.func37, Try.ntmps37
  go_wp2_with (go_at_call 38; refine (sound_nil _ _ _).mono ?_; rintro ev w1 ⟨rfl, rfl⟩)
  go_ret
  exact ⟨rfl, HB.out⟩
end Go.Proofs.Ytngflmdlgaeokaa

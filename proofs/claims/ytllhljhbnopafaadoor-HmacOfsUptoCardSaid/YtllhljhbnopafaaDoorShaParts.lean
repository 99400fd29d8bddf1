/- Slices of slices of bytes, and the sum of parts: contract. Own work. -/
import Derived.Test.YtllhljhbnopafaaDoorShaSum
namespace Go.Proofs.YtllhljhbnopafaaDoor
open Go.ChangeShapes Go.WideShapes Go.ChangeAt Go.RowKit
open SM
/-- The slice v holds slices that hold these bytes. -/
structure Rds (w : World) (v : Value) (ls : List (List Nat)) : Prop where
  fits : ls.length ≤ 140737488351232
  form : (v = .slice none 0 0 ∧ ls = []) ∨ ∃ ad cap, v = .slice (some ad) ls.length cap ∧ ls.length ≤ cap ∧ ∀ j l, ls[j]? = some l → ∃ x, w.cell? (ad.add j) = some x ∧ Rd w x l
theorem Rds.shape {w : World} {v : Value} {ls : List (List Nat)} (h : Rds w v ls) : ∃ ao cap, v = .slice ao ls.length cap ∧ ls.length ≤ cap := by
  rcases h.form with ⟨e, q⟩ | ⟨ad, cap, e, hc, _⟩
  · subst q; exact ⟨none, 0, e, Nat.le_refl _⟩
  · exact ⟨some ad, cap, e, hc⟩
theorem cell_below {w w' : World} {a : Addr} {v : Value} (h : w.cell? a = some v) (hb : Below w.heap.size w w') : w'.cell? a = some v := by
  rw [World.cell?_of_block (w := w) (hb.block _ (World.block_lt_of_cell? w _ h))]; exact h
theorem Rds.below {w w' : World} {v : Value} {ls : List (List Nat)} (h : Rds w v ls) (hb : Below w.heap.size w w') : Rds w' v ls := by
  refine ⟨h.fits, ?_⟩
  rcases h.form with q | ⟨ad, cap, e, hc, hs⟩
  · exact .inl q
  · refine .inr ⟨ad, cap, e, hc, fun j l hj => ?_⟩
    obtain ⟨x, h1, h2⟩ := hs j l hj
    exact ⟨x, cell_below h1 hb, h2.below hb⟩
theorem Rds.at_ {w : World} {ao : Option Addr} {n cap : Nat} {ls : List (List Nat)} (h : Rds w (.slice ao n cap) ls) (j : Nat) (hj : j < ls.length) : ∃ ad x, ao = some ad ∧ w.cell? (ad.add j) = some x ∧ Rd w x ls[j] := by
  rcases h.form with ⟨_, q⟩ | ⟨ad, cap', e, _, hs⟩
  · subst q; simp at hj
  · injection e with e2 e3 e4
    obtain ⟨x, h1, h2⟩ := hs j ls[j] (List.getElem?_eq_getElem hj)
    exact ⟨ad, x, e2, h1, h2⟩
/-- What reads as some bytes stands in a block that is there. -/
theorem Rd.old {w : World} {v : Value} {l : List Nat} (h : Rd w v l) (hl : 0 < l.length) (g : Nat) (hg : w.heap.size ≤ g) : v.ownBlock ≠ some g := by
  rcases h.form with ⟨_, q⟩ | ⟨ad, cap, e, _, hs⟩
  · subst q; simp at hl
  · have := World.block_lt_of_cell? w _ (hs 0 hl)
    rw [add_block] at this
    subst e
    intro q
    have : ad.block = g := Option.some.inj q
    omega
theorem new_ex (w : World) : Calls Tryd.prog 25 #[] w fun e w' => ∃ h, h = w.heap.size ∧ e = .returned (.pointer (some ⟨h, 0, none⟩)) ∧ Hs w' h [] ∧ Below w.heap.size w w' :=
  (new_any w).mono fun _ _ h => ⟨_, rfl, h⟩
theorem flat_take (ls : List (List Nat)) (k : Nat) (hk : k < ls.length) : (ls.take k).flatten ++ ls[k] = (ls.take (k + 1)).flatten := by
  rw [List.take_succ_eq_append_getElem hk, List.flatten_append]; simp
theorem flat_le (ls : List (List Nat)) (k : Nat) : (ls.take k).flatten.length ≤ ls.flatten.length := by
  have h := congrArg List.length (List.flatten_append (L₁ := ls.take k) (L₂ := ls.drop k))
  rw [List.take_append_drop, List.length_append] at h
  omega
set_option maxRecDepth 100000 in
set_option maxHeartbeats 1000000 in
theorem of_any (ls : List (List Nat)) (hn : ls.flatten.length ≤ 1152921504606846976) (v : Value) (w : World) (hv : Rds w v ls) (ht : TabP w) :
    Calls Tryd.prog 17 #[v] w fun e w' => e = .returned (.agg (row8 (sha ls.flatten)).toArray) ∧ Below w.heap.size w w' := by
  obtain ⟨ao, cap, rfl, hcap⟩ := hv.shape
  have HV := Lib.hid hv
  have HT := Lib.hid ht
  have HFI := hv.fits
  have bb1 := (Below.refl w.heap.size w).alloc (Nat.le_refl _) (.cells (row8 (List.replicate 32 0)).toArray 26)
  have r1 := Blk.new w 26 (row8 (List.replicate 32 0)) _ rfl
  have BB1 := Lib.hid bb1
  have R1 := Lib.hid r1
  clear hv ht bb1 r1
  obtain ⟨S, hS⟩ : ∃ S, S = sha ls.flatten := ⟨_, rfl⟩
  rw [← hS]
  have HSS := Lib.hid hS
  clear hS
  go_enter Tryd.func17, Tryd.ntmps17
  go_wp2_with (go_at_call 25; refine (new_ex _).mono ?_; rintro e w2 ⟨h, hh, rfl, h2, b2⟩; have HH := Lib.hid hh; clear hh; have H2 := Lib.hid h2; have BB2 := Lib.hid (BB1.out.on b2); have R2 := Lib.hid (R1.out.below b2 R1.out.lt); clear h2 b2)
  go_loopw [9] (fun i wr => ∃ k : Nat, k ≤ ls.length ∧ i = .int .i64 (k : Int) ∧ Hs wr h (ls.take k).flatten ∧ Blk wr w.heap.size 26 (row8 (List.replicate 32 0)) ∧ Below w.heap.size w wr) (fun i _ => ls.length - (intOf i).toNat)
  case atStart => exact ⟨0, Nat.zero_le _, rfl, H2.out, R2.out, BB2.out⟩
  case round =>
    clear H2 R2 BB2 R1 BB1
    obtain ⟨k, hk, rfl, hs, r0, b0⟩ := hrel
    have hh1 : h = w.heap.size + 1 := by have := HH.out; simpa using this
    have hgk : h ≠ 1 := by have := HT.out.lt; omega
    by_cases hlt : k < ls.length
    · obtain ⟨ad, x, rfl, hc, hr⟩ := (HV.out.below b0).at_ k hlt
      obtain ⟨_, x', e1, hc', hr'⟩ := HV.out.at_ k hlt
      cases e1
      have hxx : x' = x := Option.some.inj ((cell_below hc' b0).symm.trans hc)
      subst hxx
      have hne : 0 < ls[k].length → x'.ownBlock ≠ some h := fun hl => hr'.old hl h (by omega)
      have hle : (ls.take k).flatten.length + ls[k].length ≤ 1152921504606846976 := by
        have h1 := congrArg List.length (flat_take ls k hlt)
        rw [List.length_append] at h1
        have := flat_le ls (k + 1)
        omega
      have HW := Lib.hid (write_any h _ _ x' wr hr hne hs (HT.out.below b0) hgk (by omega))
      have HFT := Lib.hid (flat_take ls k hlt)
      have R0 := Lib.hid r0
      have B0 := Lib.hid b0
      have HH1 := Lib.hid hh1
      clear hr hr' hne hs r0 b0 hc' hle hh1
      go_wp2_with (go_at_call 22; refine HW.out.mono ?_; rintro e w3 ⟨rfl, h3, g3⟩; rw [HFT.out] at h3; have H3 := Lib.hid h3; have R3 := Lib.hid (R0.out.grown g3 (fun q => by have := Option.some.inj q; have := HH1.out; omega)); have B3 := Lib.hid (B0.out.grown g3 B0.out.size (fun j hj => by have := Option.some.inj hj; have := HH1.out; omega)); clear h3 g3)
      exact ⟨⟨k + 1, by omega, by go_num, H3.out, R3.out, B3.out⟩, by simp [intOf]; omega⟩
    · obtain rfl : k = ls.length := by omega
      rw [List.take_length] at hs
      have HS := Lib.hid (sum_any h _ wr hs (HT.out.below b0) hn)
      rw [← HSS.out] at HS
      have H32 := Lib.hid (show (row8 S).length = 32 by rw [HSS.out, row8_len]; show (out _).length = 32; rw [← outK_all, outK_len])
      have R0 := Lib.hid r0
      have B0 := Lib.hid b0
      clear r0 b0 hs hh1
      go_wp2_with (first
        | (go_at_call 23; refine HS.out.mono ?_; rintro e w4 ⟨rfl, b4⟩; have R4 := Lib.hid (R0.out.below b4 R0.out.lt); have B4 := Lib.hid (B0.out.on b4); clear b4)
        | (refine wpList_store_mid rfl 26 (.tmp 2) (.tmp 18) rfl w.heap.size 0 (row8 S).toArray rfl rfl (R4.out.there _ (by rw [List.size_toArray, H32.out]; rfl)) (by rw [List.size_toArray, H32.out]; exact infoS) (row8_one _) ?_))
      have fin := R4.out.whole (row8 S) (by rw [H32.out]; rfl)
      exact bodyPost_ret (v := .agg (row8 S).toArray) (results_mid rfl _ _ w.heap.size (row8 S) _ rfl fin.range Tryd.underlying26 rfl (by rw [H32.out]; exact infoS)) rfl ⟨rfl, below_setCells w.heap.size (Nat.le_refl _) _ 0 _ B4.out⟩
end Go.Proofs.YtllhljhbnopafaaDoor

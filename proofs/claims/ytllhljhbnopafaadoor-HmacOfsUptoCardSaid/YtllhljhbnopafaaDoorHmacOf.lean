/- The sum of parts with a key: contract of the program's Of. Own work. -/
import Derived.Test.YtllhljhbnopafaaDoorHmacSum
namespace Go.Proofs.YtllhljhbnopafaaDoor
open Go.ChangeShapes Go.WideShapes Go.ChangeAt Go.RowKit
open SM
set_option maxRecDepth 100000 in
set_option maxHeartbeats 1000000 in
theorem hof_any (l : List Nat) (ls : List (List Nat)) (hn : ls.flatten.length ≤ 1152921504606846900) (u v : Value) (w : World) (hu : Rd w u l) (hv : Rds w v ls) (ht : TabP w) :
    Calls Tryd.prog 10 #[u, v] w fun e w' => e = .returned (.agg (row8 (mac l ls.flatten)).toArray) ∧ Below w.heap.size w w' := by
  obtain ⟨au, cu, rfl, hcu⟩ := hu.shape
  obtain ⟨ao, cap, rfl, hcap⟩ := hv.shape
  have HV := Lib.hid hv
  have HFI := hv.fits
  have HT := Lib.hid ht
  have HTL := Lib.hid ht.lt
  obtain ⟨C0, hC0⟩ : ∃ C0, C0 = row8 (List.replicate 32 0) := ⟨_, rfl⟩
  have hz : ∀ w, (zeroValue 26).run Tryd.prog w = .ok (.agg C0.toArray) w := by rw [hC0]; exact zeroSum
  have hc0 : C0.length = 32 := by rw [hC0, row8_len, List.length_replicate]
  have bb1 := (Below.refl w.heap.size w).alloc (Nat.le_refl _) (.cells C0.toArray 26)
  have R1 := Lib.hid (Blk.new w 26 C0 _ rfl)
  have N1 := Lib.hid (mac_new l (.slice au l.length cu) (w.alloc (.cells C0.toArray 26)) (hu.alloc _) (ht.below bb1))
  have BB1 := Lib.hid bb1
  obtain ⟨S, hS⟩ : ∃ S, S = mac l ls.flatten := ⟨_, rfl⟩
  rw [← hS]
  have HSS := Lib.hid hS
  have H32 := Lib.hid (show (row8 S).length = 32 by rw [hS, row8_len]; exact SM.sha_length _)
  clear hu hv ht bb1 hS hC0
  go_enter Tryd.func10, Tryd.ntmps10
  go_wp2_with (go_at_call 13; (with_reducible refine N1.out.mono ?_); rintro e w2 ⟨m, h, o, hm, hh, ho, rfl, m2, b2⟩; have HM := Lib.hid hm; have HH := Lib.hid hh; have HO := Lib.hid ho; clear hm hh ho; have M2 := Lib.hid m2; have BB2 := Lib.hid (BB1.out.on b2); have R2 := Lib.hid (R1.out.below b2 R1.out.lt); clear m2 b2)
  go_loopw [12] (fun i wr => ∃ k : Nat, k ≤ ls.length ∧ i = .int .i64 (k : Int) ∧ Mc wr m h o l (ls.take k).flatten ∧ Blk wr w.heap.size 26 C0 ∧ Below w.heap.size w wr) (fun i _ => ls.length - (intOf i).toNat)
  case atStart => exact ⟨0, Nat.zero_le _, rfl, M2.out, R2.out, BB2.out⟩
  case round =>
    clear M2 R2 BB2 R1 BB1 N1
    obtain ⟨k, hk, rfl, hs, r0, b0⟩ := hrel
    have hh1 : w.heap.size + 1 ≤ h := by have := HH.out; simpa using this
    have hgk : h ≠ 1 := by have := HTL.out; omega
    by_cases hlt : k < ls.length
    · obtain ⟨ad, x, rfl, hc, hr⟩ := (HV.out.below b0).at_ k hlt
      obtain ⟨_, x', e1, hc', hr'⟩ := HV.out.at_ k hlt
      cases e1
      have hxx : x' = x := Option.some.inj ((cell_below hc' b0).symm.trans hc)
      subst hxx
      have hne : 0 < ls[k].length → x'.ownBlock ≠ some h := fun hl => hr'.old hl h (by omega)
      have hle : (ls.take k).flatten.length + ls[k].length ≤ 1152921504606846900 := by
        have h1 := congrArg List.length (flat_take ls k hlt)
        rw [List.length_append] at h1
        have := flat_le ls (k + 1)
        omega
      have HW := Lib.hid (mac_write m h o l _ _ x' wr hr hne hs (HT.out.below b0) hgk (by omega))
      have HFT := Lib.hid (flat_take ls k hlt)
      have R0 := Lib.hid r0
      have B0 := Lib.hid b0
      have HH1 := Lib.hid hh1
      clear hr hr' hne hs r0 b0 hc' hle hh1
      go_wp2_with (go_at_call 14; (with_reducible refine HW.out.mono ?_); rintro e w3 ⟨rfl, h3, g3⟩; rw [HFT.out] at h3; have H3 := Lib.hid h3; have R3 := Lib.hid (R0.out.grown g3 (fun q => by have e : w.heap.size = h := Option.some.inj q; have := HH1.out; omega)); have B3 := Lib.hid (B0.out.grown g3 B0.out.size (fun j hj => by have e : h = j := Option.some.inj hj; have := HH1.out; omega)); clear h3 g3)
      exact ⟨⟨k + 1, by omega, by go_num, H3.out, R3.out, B3.out⟩, by simp [intOf]; omega⟩
    · obtain rfl : k = ls.length := by omega
      rw [List.take_length] at hs
      have HS := Lib.hid (mac_sum m h o l _ wr hs (HT.out.below b0) hn)
      rw [← HSS.out] at HS
      have R0 := Lib.hid r0
      have B0 := Lib.hid b0
      clear r0 b0 hs hh1
      go_wp2_with (first
        | (go_at_call 15; (with_reducible refine HS.out.mono ?_); rintro e w4 ⟨rfl, b4⟩; have R4 := Lib.hid (R0.out.below b4 R0.out.lt); have B4 := Lib.hid (B0.out.on b4); clear b4)
        | (refine wpList_store_mid rfl 26 (.tmp 4) (.tmp 21) rfl w.heap.size 0 (row8 S).toArray rfl rfl (R4.out.there _ (by rw [List.size_toArray, H32.out, hc0])) (by rw [List.size_toArray, H32.out]; exact infoS) (row8_one _) ?_))
      have fin := R4.out.whole (row8 S) (by rw [H32.out, hc0])
      exact bodyPost_ret (v := .agg (row8 S).toArray) (results_mid rfl _ _ w.heap.size (row8 S) _ rfl fin.range Tryd.underlying26 rfl (by rw [H32.out]; exact infoS)) rfl ⟨rfl, below_setCells w.heap.size (Nat.le_refl _) _ 0 _ B4.out⟩
/-- One part, and two, as the laws call it. -/
theorem hof_one_at {w : World} {u x : Value} {l m S : List Nat} {b : Nat} (hb : b = w.heap.size) (hu : Rd w u l) (hx : Rd w x m) (ht : TabP w) (hn : m.length ≤ 1152921504606846900) (hS : S = mac l m) :
    Calls Tryd.prog 10 #[u, .slice (some ⟨b, 0, none⟩) 1 1] (w.alloc (.cells #[x] 22)) fun e w' => e = .returned (.agg (row8 S).toArray) ∧ Below w.heap.size w w' := by
  have e : [m].flatten = m := by simp
  have bb := (Below.refl w.heap.size w).alloc (Nat.le_refl _) (.cells #[x] 22)
  have h1 := hof_any l [m] (by rw [e]; exact hn) u _ _ (hu.alloc _) (rds_one hx hb) (ht.below bb)
  rw [e, ← hS] at h1
  exact h1.mono fun _ _ q => ⟨q.1, bb.on q.2⟩
theorem hof_two_at {w : World} {u x y : Value} {l m n S : List Nat} {b : Nat} (hb : b = w.heap.size) (hu : Rd w u l) (hx : Rd w x m) (hy : Rd w y n) (ht : TabP w) (hn : m.length + n.length ≤ 1152921504606846900) (hS : S = mac l (m ++ n)) :
    Calls Tryd.prog 10 #[u, .slice (some ⟨b, 0, none⟩) 2 2] (w.alloc (.cells #[x, y] 22)) fun e w' => e = .returned (.agg (row8 S).toArray) ∧ Below w.heap.size w w' := by
  have e : [m, n].flatten = m ++ n := by simp
  have bb := (Below.refl w.heap.size w).alloc (Nat.le_refl _) (.cells #[x, y] 22)
  have h1 := hof_any l [m, n] (by rw [e, List.length_append]; exact hn) u _ _ (hu.alloc _) (rds_two hx hy hb) (ht.below bb)
  rw [e, ← hS] at h1
  exact h1.mono fun _ _ q => ⟨q.1, bb.on q.2⟩
theorem mac_bytes (l b : List Nat) : Bytes 32 (mac l b) := sha_bytes _
end Go.Proofs.YtllhljhbnopafaaDoor

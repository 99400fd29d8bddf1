/- The document's answer for sums with a key: the whole: contract. Own work. -/
import Derived.Test.YtllhljhbnopafaaDoorHmacRef
import Derived.Test.YtllhljhbnopafaaDoorFactsH
namespace Go.Proofs.YtllhljhbnopafaaDoor
open Go.ChangeShapes Go.WideShapes Go.ChangeAt Go.RowKit
open SM
set_option maxRecDepth 100000 in
set_option maxHeartbeats 2000000 in
theorem rmac_any (l b : List Nat) (hl : l.length + 72 ≤ 140737488351232) (hb : b.length + 136 ≤ 140737488351232) (u v : Value) (w : World) (hu : Rd w u l) (hv : Rd w v b) (ht : Tab w) :
    Calls Tryd.prog 11 #[u, v] w fun e w' => e = .returned (.agg (row8 (mac l b)).toArray) ∧ Below w.heap.size w w' := by
  obtain ⟨au, cu, rfl, hcu⟩ := hu.shape
  obtain ⟨av, cv, rfl, hcv⟩ := hv.shape
  obtain ⟨KI, hKI⟩ : ∃ K, K = kx l 0x36 := ⟨_, rfl⟩
  obtain ⟨KO, hKO⟩ : ∃ K, K = kx l 0x5c := ⟨_, rfl⟩
  have lKI : KI.length = 64 := by rw [hKI, kx]; simp
  have lKO : KO.length = 64 := by rw [hKO, kx]; simp
  obtain ⟨S, hS⟩ : ∃ S, S = sha (KI ++ b) := ⟨_, rfl⟩
  have bS : Bytes 32 S := by rw [hS]; exact sha_bytes _
  obtain ⟨M, hM⟩ : ∃ M, M = sha (KO ++ S) := ⟨_, rfl⟩
  have bM : Bytes 32 M := by rw [hM]; exact sha_bytes _
  rw [show mac l b = M by rw [hM, hS, hKI, hKO]; rfl]
  have HS := Lib.hid hS
  have HMM := Lib.hid hM
  have HBS := Lib.hid bS
  have S32 := Lib.hid (show (row8 S).length = 32 by rw [row8_len]; exact bS.1)
  have M32 := Lib.hid (show (row8 M).length = 32 by rw [row8_len]; exact bM.1)
  have HLI := Lib.hid lKI
  have HLO := Lib.hid lKO
  have HU := Lib.hid hu
  have HV := Lib.hid hv
  have HT := Lib.hid ht
  have HB6 := Lib.hid (show ∀ W, Below w.heap.size w W → Calls Tryd.prog 19 #[.slice au l.length cu, .int .u8 54] W fun e w' => ∃ y, e = .returned y ∧ Own w' W.heap.size y KI ∧ Below W.heap.size W w' from fun W hW => by rw [hKI]; exact hrblock_any l hl 54 (by omega) (.slice au l.length cu) W (hu.below hW) (ht.below hW))
  have HB5 := Lib.hid (show ∀ W, Below w.heap.size w W → Calls Tryd.prog 19 #[.slice au l.length cu, .int .u8 92] W fun e w' => ∃ y, e = .returned y ∧ Own w' W.heap.size y KO ∧ Below W.heap.size W w' from fun W hW => by rw [hKO]; exact hrblock_any l hl 92 (by omega) (.slice au l.length cu) W (hu.below hW) (ht.below hW))
  obtain ⟨D0, hD0⟩ : ∃ C0, C0 = row8 (List.replicate 32 0) := ⟨_, rfl⟩
  have hzs : ∀ w, (zeroValue 26).run Tryd.prog w = .ok (.agg D0.toArray) w := by rw [hD0]; exact zeroSum
  have hd0 : D0.length = 32 := by rw [hD0, row8_len, List.length_replicate]
  have BB1 := Lib.hid ((Below.refl w.heap.size w).alloc (Nat.le_refl _) (.cells D0.toArray 26))
  have R1 := Lib.hid (Blk.new w 26 D0 _ rfl)
  clear hS hM bS bM hu hv ht hKI hKO lKI lKO hD0
  go_enter Tryd.func11, Tryd.ntmps11
  go_upto_region 2 with (first
    | (go_at_call 19; (with_reducible refine (HB6.out _ BB1.out).mono ?_); rintro e w2 ⟨y, rfl, o2, b2⟩; have O2 := Lib.hid (o2.lower (b' := w.heap.size) BB1.out.size); have B2 := Lib.hid (BB1.out.on b2); have R2 := Lib.hid (R1.out.below b2 R1.out.lt); have N2 := Lib.hid (show y.ownBlock ≠ some w.heap.size from fun q => absurd (o2.from _ q).1 (by simp)); clear o2 b2)
    | (at_builtin; refine wpList_app rfl (.tmp 7) (.tmp 8) rfl w.heap.size y (.slice av b.length cv) KI b rfl rfl O2.out (HV.out.below B2.out) (by have := HLI.out; omega) B2.out.size ?_; intro y3 w3 o3 g3 k3; have B3 := Lib.hid (B2.out.grown g3 B2.out.size (fun k hk => (O2.out.from k hk).1)); have R3 := Lib.hid (R2.out.grown g3 (fun q => N2.out q.symm)); have F3 := Lib.hid (rof_any (KI ++ b) (by rw [List.length_append]; have := HLI.out; omega) y3 w3 o3.rd (HT.out.below B3.out)); rw [← HS.out] at F3; clear o3 g3 k3)
    | (go_at_call 18; (with_reducible refine F3.out.mono ?_); rintro e w4 ⟨rfl, b4⟩; have B4 := Lib.hid (B3.out.on b4); have R4 := Lib.hid (R3.out.below b4 R3.out.lt); clear b4)
    | (refine wpList_store_blk rfl 26 (.tmp 5) (.tmp 10) rfl w4.heap.size 0 (row8 S) rfl rfl 26 D0 (Blk.new w4 26 D0 _ rfl) (by rw [S32.out, hd0]; exact Nat.le_refl _) (by rw [S32.out]; exact infoS) (row8_one _) ?_; intro w5 b5 g5; rw [splice_all _ _ (by rw [S32.out, hd0])] at b5; have N5 := Lib.hid b5; have B5 := Lib.hid (own_turn B4.out g5); have R5 := Lib.hid ((R4.out.alloc (.cells D0.toArray 26)).grown g5 (fun q => by have e : w.heap.size = w4.heap.size := Option.some.inj q; have := R4.out.lt; omega)); clear b5 g5))
  simp only [put_none]
  obtain ⟨sb, hsb⟩ : ∃ b, b = w4.heap.size := ⟨_, rfl⟩
  rw [← hsb] at N5 ⊢
  have SL := Lib.hid N5.out.lt
  have RL := Lib.hid R5.out.lt
  have s9 := blk_rd N5.out HBS.out.2 (n := 32) (cap := 32) (by rw [HBS.out.1]; omega) (by omega) (by rw [HBS.out.1]; omega)
  rw [List.take_of_length_le (by rw [HBS.out.1]; omega)] at s9
  have HX := Lib.hid s9
  clear s9 hsb hzs
  refine wp_region_g (by kernel_rfl) 3 (by decide) (by kernel_rfl) (by kernel_rfl) (by kernel_rfl) w5.heap.size (Nat.le_refl _) [.val (.slice au l.length cu), .own KO, .val (.slice (some ⟨sb, 0, none⟩) 32 32)] (fun _ => 6) ?_ ?_
  · refine ⟨?_, ?_, ?_, trivial⟩
    · intro a w' hF hB hd
      have e0 : a.eval (.tmp 0) = .slice au l.length cu := hF 0 (by decide +kernel)
      exact doesG_val rfl (ex_move rfl e0) rfl rfl
    · intro a w' hF hB hd
      have e11 : a.eval (.tmp 11) = .slice au l.length cu := hd 0 (by decide +kernel) (.inr (by decide))
      exact doesG_made rfl (ex_call (vs := #[.slice au l.length cu, .int .u8 92]) rfl (by simp only [List.map_toArray, List.map_cons, List.map_nil, e11]; rfl) (by go_simp)) ((HB5.out w' (B5.out.on hB)).mono fun e w6 hh => by
        obtain ⟨y, rfl, o6, b6⟩ := hh
        exact ⟨_, rfl, o6.lower hB.size, b6, fun g hg => o6.from g (own_held' o6.rd hg)⟩)
    · intro a w' hF hB hd
      have e5 : a.eval (.tmp 5) = .pointer (some ⟨sb, 0, none⟩) := hF 5 (by decide +kernel)
      exact doesG_val rfl (v := .slice (some ⟨sb, 0, none⟩) 32 32) (by unfold execOp; simp only [e5]; go_simp) rfl rfl
  · intro vs w6 hB hv hap
    have e2 : vs 2 = .slice (some ⟨sb, 0, none⟩) 32 32 := hv 2 (by omega) (by omega)
    have o1 : Own w6 w5.heap.size (vs 1) KO := hv 1 (by omega) (by omega)
    simp only [List.take_succ_cons, List.take_zero, List.drop_succ_cons, List.drop_zero, putOps, Act.put, List.setIfInBounds_toArray, List.set_cons_zero, List.set_cons_succ, e2]
    have O1 := Lib.hid o1
    have B6 := Lib.hid (B5.out.on hB)
    have R6 := Lib.hid (R5.out.below hB R5.out.lt)
    have X6 := Lib.hid (HX.out.below hB)
    have HSZ := Lib.hid hB.size
    obtain ⟨ay, cy, hy, _⟩ := o1.rd.shape
    generalize vs 1 = y at *
    subst hy
    generalize vs 0 = z at *
    clear hv hap e2 o1 hB
    go_wp2_with (first
      | (at_builtin; refine wpList_app rfl (.tmp 12) (.tmp 13) rfl w5.heap.size (.slice ay KO.length cy) (.slice (some ⟨sb, 0, none⟩) 32 32) KO S rfl rfl O1.out X6.out (by have := HLO.out; have := HBS.out.1; omega) HSZ.out ?_; intro y7 w7 o7 g7 k7; have B7 := Lib.hid (B6.out.grown g7 B6.out.size (fun k hk => by have := (O1.out.from k hk).1; have := B5.out.size; omega)); have R7 := Lib.hid (R6.out.grown g7 (fun q => by have := (O1.out.from _ q.symm).1; have := RL.out; omega)); have F7 := Lib.hid (rof_any (KO ++ S) (by rw [List.length_append]; have := HLO.out; have := HBS.out.1; omega) y7 w7 o7.rd (HT.out.below B7.out)); rw [← HMM.out] at F7; clear o7 g7 k7)
      | (go_at_call 18; (with_reducible refine F7.out.mono ?_); rintro e w8 ⟨rfl, b8⟩; have B8 := Lib.hid (B7.out.on b8); have R8 := Lib.hid (R7.out.below b8 R7.out.lt); clear b8)
      | (refine wpList_store_mid rfl 26 (.tmp 4) (.tmp 15) rfl w.heap.size 0 (row8 M).toArray rfl rfl (R8.out.there _ (by rw [List.size_toArray, M32.out, hd0])) (by rw [List.size_toArray, M32.out]; exact infoS) (row8_one _) ?_))
    have fin := R8.out.whole (row8 M) (by rw [M32.out, hd0])
    exact bodyPost_ret (v := .agg (row8 M).toArray) (results_mid rfl _ _ w.heap.size (row8 M) _ rfl fin.range Tryd.underlying26 rfl (by rw [M32.out]; exact infoS)) rfl ⟨rfl, below_setCells w.heap.size (Nat.le_refl _) _ 0 _ B8.out⟩
end Go.Proofs.YtllhljhbnopafaaDoor

/- A Mac written to and its sum told; the sum of parts with a key: contracts. Own work. -/
import Derived.Test.YtllhljhbnopafaaDoorHmacMac
namespace Go.Proofs.YtllhljhbnopafaaDoor
open Go.ChangeShapes Go.WideShapes Go.ChangeAt Go.RowKit
open SM
theorem mac_write_nil (v : Value) (w : World) : Calls Tryd.prog 14 #[.pointer none, v] w fun e w' => e = .returned (.int .i64 1) ∧ w' = w := by
  go_enter Tryd.func14, Tryd.ntmps14
  go_wp2_with fail
  go_ret
  exact ⟨rfl, rfl⟩
theorem Mc.wrote {w w' : World} {m h o : Nat} {l b c : List Nat} (k : Mc w m h o l b) (hs : Hs w' h (kx l 0x36 ++ b ++ c)) (hg : w.grownBy w' (some h)) : Mc w' m h o l (b ++ c) :=
  ⟨k.blk.grown hg (fun q => k.hm (Option.some.inj q).symm), by rw [← List.append_assoc]; exact hs, k.out.grown hg (fun q => k.ho (Option.some.inj q).symm), k.ho, k.hm, k.om⟩
theorem mac_write (m h o : Nat) (l b c : List Nat) (v : Value) (w : World) (hv : Rd w v c) (hne : 0 < c.length → v.ownBlock ≠ some h) (hm : Mc w m h o l b) (ht : TabP w) (hgk : h ≠ 1) (hn : b.length + c.length ≤ 2305843009213693952) :
    Calls Tryd.prog 14 #[.pointer (some ⟨m, 0, none⟩), v] w fun e w' => e = .returned (.int .i64 0) ∧ Mc w' m h o l (b ++ c) ∧ w.grownBy w' (some h) := by
  have c0 := hm.blk.cell 0 _ rfl
  have HW := Lib.hid (write_any h (kx l 0x36 ++ b) c v w hv hne hm.inn ht hgk (by rw [List.length_append, kx_len]; omega))
  have HM := Lib.hid hm
  clear hm hv hne ht
  go_enter Tryd.func14, Tryd.ntmps14
  go_wp2_with (go_at_call 22; (with_reducible refine HW.out.mono ?_); rintro e w2 ⟨rfl, h2, g2⟩; have H2 := Lib.hid h2; have G2 := Lib.hid g2; clear h2 g2)
  go_ret
  exact ⟨rfl, HM.out.wrote H2.out G2.out, G2.out⟩
set_option maxRecDepth 100000 in
theorem mac_sum_nil (w : World) : Calls Tryd.prog 15 #[.pointer none] w fun e w' => e = .returned (.agg (row8 (List.replicate 32 0)).toArray) ∧ Below w.heap.size w w' := by
  go_enter Tryd.func15, Tryd.ntmps15
  go_wp2_with (refine wpList_store_mid rfl 26 (.tmp 2) (.tmp 7) rfl w.heap.size 0 (row8 (List.replicate 32 0)).toArray rfl rfl ((Blk.new w 26 (row8 (List.replicate 32 0)) _ rfl).there _ rfl) infoS (row8_one _) ?_)
  simp only [put_none]
  have fin := (Blk.new w 26 (row8 (List.replicate 32 0)) _ rfl).whole (row8 (List.replicate 32 0)) rfl
  exact bodyPost_ret (v := .agg (row8 (List.replicate 32 0)).toArray) (results_mid rfl _ _ w.heap.size (row8 (List.replicate 32 0)) _ rfl fin.range Tryd.underlying26 rfl infoS) rfl ⟨rfl, below_setCells w.heap.size (Nat.le_refl _) _ 0 _ ((Below.refl _ _).alloc (Nat.le_refl _) _)⟩
set_option maxRecDepth 100000 in
set_option maxHeartbeats 1000000 in
theorem mac_sum (m h o : Nat) (l b : List Nat) (w : World) (hm : Mc w m h o l b) (ht : TabP w) (hn : b.length ≤ 1152921504606846900) :
    Calls Tryd.prog 15 #[.pointer (some ⟨m, 0, none⟩)] w fun e w' => e = .returned (.agg (row8 (mac l b)).toArray) ∧ Below w.heap.size w w' := by
  obtain ⟨S, hS⟩ : ∃ S, S = sha (kx l 0x36 ++ b) := ⟨_, rfl⟩
  have bS : Bytes 32 S := by rw [hS]; exact sha_bytes _
  obtain ⟨M, hM⟩ : ∃ M, M = mac l b := ⟨_, rfl⟩
  have hM2 : M = sha (kx l 0x5c ++ S) := by rw [hM, hS]; rfl
  have bM : Bytes 32 M := by rw [hM2]; exact sha_bytes _
  rw [← hM]
  obtain ⟨C0, hC0⟩ : ∃ C0, C0 = row8 (List.replicate 32 0) := ⟨_, rfl⟩
  have hz : ∀ w, (zeroValue 26).run Tryd.prog w = .ok (.agg C0.toArray) w := by rw [hC0]; exact zeroSum
  have hc0 : C0.length = 32 := by rw [hC0, row8_len, List.length_replicate]
  clear hC0
  have HS := Lib.hid hS
  have HM2 := Lib.hid hM2
  have HBS := Lib.hid bS
  have S32 := Lib.hid (show (row8 S).length = 32 by rw [row8_len]; exact bS.1)
  have M32 := Lib.hid (show (row8 M).length = 32 by rw [row8_len]; exact bM.1)
  have HT := Lib.hid ht
  have HTL := Lib.hid ht.lt
  have m1 := hm.alloc (.cells C0.toArray 26)
  have c0 := m1.blk.cell 0 _ rfl
  have M1 := Lib.hid m1
  have bb1 := (Below.refl w.heap.size w).alloc (Nat.le_refl _) (.cells C0.toArray 26)
  have R1 := Lib.hid (Blk.new w 26 C0 _ rfl)
  have S1 := Lib.hid (sum_of m1.inn (ht.below bb1) (by rw [List.length_append, kx_len]; omega) hS)
  have BB1 := Lib.hid bb1
  clear hS hM hM2 bS bM ht hm m1 bb1
  go_enter Tryd.func15, Tryd.ntmps15
  go_wp2_with (first
    | (go_at_call 23; (with_reducible refine S1.out.mono ?_); rintro e w2 ⟨rfl, b2⟩; have B2 := Lib.hid (BB1.out.on b2); have R2 := Lib.hid (R1.out.below b2 R1.out.lt); have M2 := Lib.hid (M1.out.below b2); clear b2)
    | (refine wpList_store_blk rfl 26 (.tmp 3) (.tmp 12) rfl w2.heap.size 0 (row8 S) rfl rfl 26 C0 (Blk.new w2 26 C0 _ rfl) (by rw [S32.out, hc0]; exact Nat.le_refl _) (by rw [S32.out]; exact infoS) (row8_one _) ?_; intro w3 b3 g3; rw [splice_all _ _ (by rw [S32.out, hc0])] at b3; have K3 := Lib.hid b3; have B3 := Lib.hid (own_turn B2.out g3); have R3 := Lib.hid ((R2.out.alloc (.cells C0.toArray 26)).grown g3 (fun q => by have e : w.heap.size = w2.heap.size := Option.some.inj q; have := R2.out.lt; omega)); have m3 := (M2.out.alloc (.cells C0.toArray 26)); have c1 := (m3.blk.grown g3 (fun q => by have e : m = w2.heap.size := Option.some.inj q; have := M2.out.blk.lt; omega)).cell 1 _ rfl; have F3 := Lib.hid (fork_ex o (kx l 0x5c) w3 (m3.out.grown g3 (fun q => by have e : o = w2.heap.size := Option.some.inj q; have := M2.out.out.lt; omega))); clear b3 g3 m3)
    | (go_at_call 24; (with_reducible refine F3.out.mono ?_); rintro e w4 ⟨f, hf, rfl, h4, b4⟩; have HF := Lib.hid hf; have B4 := Lib.hid (B3.out.on b4); have R4 := Lib.hid (R3.out.below b4 R3.out.lt); have W4 := Lib.hid (write_any f (kx l 0x5c) S (.slice (some ⟨w2.heap.size, 0, none⟩) 32 32) w4 (by have := blk_rd (K3.out.below b4 K3.out.lt) HBS.out.2 (n := 32) (cap := 32) (by rw [HBS.out.1]; omega) (by omega) (by rw [HBS.out.1]; omega); rwa [List.take_of_length_le (by rw [HBS.out.1]; omega)] at this) (fun _ q => by have e : w2.heap.size = f := Option.some.inj q; have := K3.out.lt; omega) h4 (HT.out.below B4.out) (by have := HTL.out; have := B3.out.size; omega) (by rw [kx_len, HBS.out.1]; omega)); clear h4 b4 hf)
    | (go_at_call 22; (with_reducible refine W4.out.mono ?_); rintro e w5 ⟨rfl, h5, g5⟩; have B5 := Lib.hid (B4.out.grown g5 B4.out.size (fun k hk => by have e : f = k := Option.some.inj hk; have := HF.out; have := B3.out.size; omega)); have R5 := Lib.hid (R4.out.grown g5 (fun q => by have e : w.heap.size = f := Option.some.inj q; have := HF.out; have := R3.out.lt; omega)); have S5 := Lib.hid (sum_of h5 (HT.out.below B5.out) (by rw [List.length_append, kx_len, HBS.out.1]; omega) HM2.out); clear h5 g5)
    | (go_at_call 23; (with_reducible refine S5.out.mono ?_); rintro e w6 ⟨rfl, b6⟩; have B6 := Lib.hid (B5.out.on b6); have R6 := Lib.hid (R5.out.below b6 R5.out.lt); clear b6)
    | (refine wpList_store_mid rfl 26 (.tmp 2) (.tmp 22) rfl w.heap.size 0 (row8 M).toArray rfl rfl (R6.out.there _ (by rw [List.size_toArray, M32.out, hc0])) (by rw [List.size_toArray, M32.out]; exact infoS) (row8_one _) ?_))
  have fin := R6.out.whole (row8 M) (by rw [M32.out, hc0])
  exact bodyPost_ret (v := .agg (row8 M).toArray) (results_mid rfl _ _ w.heap.size (row8 M) _ rfl fin.range Tryd.underlying26 rfl (by rw [M32.out]; exact infoS)) rfl ⟨rfl, below_setCells w.heap.size (Nat.le_refl _) _ 0 _ B6.out⟩
end Go.Proofs.YtllhljhbnopafaaDoor

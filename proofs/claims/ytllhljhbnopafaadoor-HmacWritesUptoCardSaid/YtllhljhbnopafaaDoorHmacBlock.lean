/- A key's block: contract of the program's helper. Own work. -/
import Derived.Test.YtllhljhbnopafaaDoorHmacBehind
namespace Go.Proofs.YtllhljhbnopafaaDoor
open Go.ChangeShapes Go.WideShapes Go.ChangeAt Go.RowKit
open SM
/-- Bytes and noughts behind them, 64 in all. -/
def pad (K : List Nat) : List Nat := (List.range 64).map (gb K)
theorem pad_len (K : List Nat) : (pad K).length = 64 := by simp [pad]
theorem pad_get (K : List Nat) (k : Nat) (hk : k < 64) : gb (pad K) k = gb K k := by
  unfold pad; rw [gb_map, if_pos hk]
theorem pad_bytes {K : List Nat} (hK : ∀ k, gb K k < 256) : Bytes 64 (pad K) := by
  refine ⟨pad_len K, fun k => ?_⟩
  unfold pad; rw [gb_map]; split
  · exact hK k
  · omega
theorem pad_kx (l : List Nat) (x : Nat) : xk (pad (kof l)) x 64 = kx l x := by
  rw [xk_all]; unfold kx
  apply List.map_congr_left
  intro i hi
  rw [pad_get _ _ (by simpa using hi)]
theorem pad_splice (K : List Nat) (hK : K.length ≤ 64) : splice (row8 (List.replicate 64 0)) 0 (row8 K) = row8 (pad K) := by
  rw [← row8_splice]
  congr 1
  refine bytes_ext (n := 64) (by rw [splice_len _ _ _ (by simp; omega)]; simp) (pad_len K) fun k hk => ?_
  rw [gb_splice _ _ _ _ (by simp; omega), pad_get _ _ hk, if_neg (by omega)]
  by_cases h : k < K.length
  · rw [if_pos (by omega)]; simp
  · rw [if_neg (by omega)]
    unfold gb
    rw [List.getD_eq_getElem?_getD, List.getD_eq_getElem?_getD, List.getElem?_eq_none (l := K) (by omega), List.getElem?_replicate]
    split <;> rfl
theorem infoHb : (Tryd.prog.info? 44).map (·.size) = some 64 := by kernel_rfl
theorem kof_byte {l : List Nat} (h : ∀ k, gb l k < 256) (k : Nat) : gb (kof l) k < 256 := by
  unfold kof; split
  · exact (sha_bytes l).2 k
  · exact h k
set_option maxRecDepth 100000 in
theorem zeroHb (w : World) : (zeroValue 44).run Tryd.prog w = .ok (.agg (row8 (List.replicate 64 0)).toArray) w := by kernel_rfl
set_option maxRecDepth 100000 in
set_option maxHeartbeats 1000000 in
theorem blockOf_any (l : List Nat) (v : Value) (w : World) (hv : Rd w v l) (ht : TabP w) :
    Calls Tryd.prog 20 #[v] w fun e w' => e = .returned (.agg (row8 (pad (kof l))).toArray) ∧ Below w.heap.size w w' := by
  obtain ⟨ao, cap, rfl, hcap⟩ := hv.shape
  have HF := hv.fits
  have HV := Lib.hid hv
  have HT := Lib.hid ht
  obtain ⟨C0, hC0⟩ : ∃ C0, C0 = row8 (List.replicate 64 0) := ⟨_, rfl⟩
  have hz : ∀ w, (zeroValue 44).run Tryd.prog w = .ok (.agg C0.toArray) w := by rw [hC0]; exact zeroHb
  have hc0 : C0.length = 64 := by rw [hC0, row8_len, List.length_replicate]
  have HC0 := Lib.hid hC0
  clear hC0
  have bb1 := (Below.refl w.heap.size w).alloc (Nat.le_refl _) (.cells C0.toArray 44)
  have bb2 := bb1.alloc bb1.size (.cells C0.toArray 44)
  have r2 := (Blk.new w 44 C0 _ rfl).alloc (.cells C0.toArray 44)
  have n2 := Blk.new (w.alloc (.cells C0.toArray 44)) 44 C0 (w.heap.size + 1) (by simp)
  have BB2 := Lib.hid bb2
  have R2 := Lib.hid r2
  have N2 := Lib.hid n2
  clear ht hv bb1 bb2 r2 n2
  by_cases hlt : 64 < l.length
  · obtain ⟨S, hS⟩ : ∃ S, S = sha l := ⟨_, rfl⟩
    have hk : kof l = S := by unfold kof; rw [if_pos hlt, hS]
    have HS := Lib.hid hS
    have bS : Bytes 32 S := by rw [hS]; exact sha_bytes l
    have HBS := Lib.hid bS
    have H32 := Lib.hid (show (row8 S).length = 32 by rw [row8_len]; exact bS.1)
    have HOF := Lib.hid (fun W b (hb : b = W.heap.size) (hB : Below w.heap.size w W) => of_one_at (w := W) hb (HV.out.below hB) (HT.out.below hB) (by omega) HS.out)
    have HSP := Lib.hid (show splice C0 0 (row8 (S.take 32)) = row8 (pad S) by rw [List.take_of_length_le (by have := bS.1; omega)]; rw [HC0.out]; exact pad_splice S (by have := bS.1; omega))
    have HMN := Lib.hid (show (32 : Nat) = min (S.take 32).length 64 by rw [List.length_take, bS.1]; rfl)
    have HP := Lib.hid (show (row8 (pad S)).length = 64 by rw [row8_len, pad_len])
    rw [hk]
    have hlI : (64 : Int) < (l.length : Int) := by omega
    clear hS bS hk
    go_enter Tryd.func20, Tryd.ntmps20
    go_wp2_with (first
      | (go_at_call 17; (with_reducible refine (HOF.out _ _ (by simp) BB2.out).mono ?_); rintro e w3 ⟨rfl, b3⟩; have B3 := Lib.hid (BB2.out.on b3); have R3 := Lib.hid (R2.out.below b3 R2.out.lt); have N3 := Lib.hid (N2.out.below b3 N2.out.lt); clear b3)
      | (refine wpList_store_blk rfl 26 (.tmp 4) (.tmp 10) rfl w3.heap.size 0 (row8 S) rfl rfl 26 (row8 (List.replicate 32 0)) (Blk.new w3 26 (row8 (List.replicate 32 0)) _ rfl) (by rw [H32.out]; exact Nat.le_refl _) (by rw [H32.out]; exact infoS) (row8_one _) ?_; intro w4 b4 g4; rw [splice_all _ _ (by rw [H32.out]; rfl)] at b4; have B4 := Lib.hid (own_turn B3.out g4); have R4 := Lib.hid ((R3.out.alloc _).grown g4 (fun q => by have e : w.heap.size = w3.heap.size := Option.some.inj q; have := R3.out.lt; omega)); have N4 := Lib.hid ((N3.out.alloc _).grown g4 (fun q => by have e : w.heap.size + 1 = w3.heap.size := Option.some.inj q; have := N3.out.lt; omega)); have S4 := Lib.hid (show Rd w4 (.slice (some ⟨w3.heap.size, 0, none⟩) 32 32) (S.take 32) from blk_rd b4 HBS.out.2 (n := 32) (cap := 32) (by rw [HBS.out.1]; omega) (by omega) (by rw [HBS.out.1]; omega)); clear b4 g4)
      | ((with_reducible show wpList _ _ _ _ _ _); refine wpList_copy_blk rfl (.tmp 12) (.tmp 13) 22 22 rfl Tryd.underlying22 (w.heap.size + 1) 0 64 64 44 C0 N4.out (some ⟨w.heap.size + 1, 0, none⟩) rfl (.slice (some ⟨w3.heap.size, 0, none⟩) 32 32) rfl (S.take 32) S4.out 32 HMN.out (fun _ => rfl) (by omega) ?_; intro w5 hb5 hg5; rw [List.take_of_length_le (by rw [List.length_take]; omega), HSP.out] at hb5; have N5 := Lib.hid hb5; have R5 := Lib.hid (R4.out.grown hg5 (fun q => by have e : w.heap.size = w.heap.size + 1 := Option.some.inj q; omega)); have B5 := Lib.hid (B4.out.grown hg5 B4.out.size (fun k hk => by have e : w.heap.size + 1 = k := Option.some.inj hk; omega)); clear hb5 hg5)
      | (refine wpList_load_mid rfl 44 (.tmp 3) rfl (w.heap.size + 1) 0 rfl (row8 (pad S)) _ N5.out.range Tryd.underlying44 rfl (by rw [HP.out]; exact infoHb) ?_)
      | (refine wpList_store_mid rfl 44 (.tmp 2) (.tmp 15) rfl w.heap.size 0 (row8 (pad S)).toArray rfl rfl (R5.out.there _ (by rw [List.size_toArray, HP.out, hc0])) (by rw [List.size_toArray, HP.out]; exact infoHb) (row8_one _) ?_))
    have fin := R5.out.whole (row8 (pad S)) (by rw [HP.out, hc0])
    exact bodyPost_ret (v := .agg (row8 (pad S)).toArray) (results_mid rfl _ _ w.heap.size (row8 (pad S)) _ rfl fin.range Tryd.underlying44 rfl (by rw [HP.out]; exact infoHb)) rfl ⟨rfl, below_setCells w.heap.size (Nat.le_refl _) _ 0 _ B5.out⟩
  · have hk : kof l = l := by unfold kof; rw [if_neg hlt]
    rw [hk]
    have HSP := Lib.hid (show splice C0 0 (row8 (l.take l.length)) = row8 (pad l) by rw [List.take_of_length_le (Nat.le_refl _)]; rw [HC0.out]; exact pad_splice l (by omega))
    have HMN := Lib.hid (show l.length = min l.length 64 by omega)
    have HP := Lib.hid (show (row8 (pad l)).length = 64 by rw [row8_len, pad_len])
    have H2 := Lib.hid (show 0 + l.length ≤ C0.length by omega)
    have V2 := Lib.hid (HV.out.below BB2.out)
    have hlI : ¬ (64 : Int) < (l.length : Int) := by omega
    clear hk
    go_enter Tryd.func20, Tryd.ntmps20
    go_wp2_with (first
      | ((with_reducible show wpList _ _ _ _ _ _); refine wpList_copy_blk rfl (.tmp 12) (.tmp 13) 22 22 rfl Tryd.underlying22 (w.heap.size + 1) 0 64 64 44 C0 N2.out (some ⟨w.heap.size + 1, 0, none⟩) rfl (.slice ao l.length cap) rfl l V2.out l.length HMN.out (fun _ => rfl) H2.out ?_; intro w5 hb5 hg5; rw [HSP.out] at hb5; have N5 := Lib.hid hb5; have R5 := Lib.hid (R2.out.grown hg5 (fun q => by have e : w.heap.size = w.heap.size + 1 := Option.some.inj q; omega)); have B5 := Lib.hid (BB2.out.grown hg5 BB2.out.size (fun k hk => by have e : w.heap.size + 1 = k := Option.some.inj hk; omega)); clear hb5 hg5)
      | (refine wpList_load_mid rfl 44 (.tmp 3) rfl (w.heap.size + 1) 0 rfl (row8 (pad l)) _ N5.out.range Tryd.underlying44 rfl (by rw [HP.out]; exact infoHb) ?_)
      | (refine wpList_store_mid rfl 44 (.tmp 2) (.tmp 15) rfl w.heap.size 0 (row8 (pad l)).toArray rfl rfl (R5.out.there _ (by rw [List.size_toArray, HP.out, hc0])) (by rw [List.size_toArray, HP.out]; exact infoHb) (row8_one _) ?_))
    have fin := R5.out.whole (row8 (pad l)) (by rw [HP.out, hc0])
    exact bodyPost_ret (v := .agg (row8 (pad l)).toArray) (results_mid rfl _ _ w.heap.size (row8 (pad l)) _ rfl fin.range Tryd.underlying44 rfl (by rw [HP.out]; exact infoHb)) rfl ⟨rfl, below_setCells w.heap.size (Nat.le_refl _) _ 0 _ B5.out⟩
end Go.Proofs.YtllhljhbnopafaaDoor

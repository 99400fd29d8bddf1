/- Texts of one subject in one file: HmacMath, HmacBehind, HmacBlock, HmacMac, HmacSum, HmacOf. Own work. -/
import Derived.Test.YtoacdeddkfcllaaDoorShaA
import Derived.Test.YtoacdeddkfcllaaDoorShaD
/- The sums with a key of the document on numbers: a key's block, the whole. Own work. -/
namespace Go.Proofs.YtoacdeddkfcllaaDoor
namespace SM
/-- A key as it counts: its sum, where it has more than 64 bytes. -/
def kof (key : List Nat) : List Nat := if 64 < key.length then sha key else key
/-- A key's block, each byte exclusive-ored with x. -/
def kx (key : List Nat) (x : Nat) : List Nat := (List.range 64).map fun i => gb (kof key) i ^^^ x
def mac (key b : List Nat) : List Nat := sha (kx key 0x5c ++ sha (kx key 0x36 ++ b))
theorem out_len (h : List Nat) : (out h).length = 32 := by simp [out]
theorem sha_length (l : List Nat) : (sha l).length = 32 := out_len _
theorem kof_sum (key : List Nat) (h : 64 < key.length) : kof (sha key) = kof key := by
  unfold kof
  rw [if_pos h, if_neg (by rw [sha_length]; omega)]
theorem mac_sum (key b : List Nat) (h : 64 < key.length) : mac (sha key) b = mac key b := by
  unfold mac kx
  rw [kof_sum key h]
theorem mac_nought (key b : List Nat) (h : key.length < 64) : mac (key ++ [0]) b = mac key b := by
  have e : ∀ x, kx (key ++ [0]) x = kx key x := fun x => by
    unfold kx kof
    rw [if_neg (by simp; omega), if_neg (by omega)]
    apply List.map_congr_left
    intro i _
    congr 1
    unfold gb
    rw [List.getD_eq_getElem?_getD, List.getD_eq_getElem?_getD]
    by_cases hi : i < key.length
    · rw [List.getElem?_append_left hi]
    · rw [List.getElem?_append_right (by omega), List.getElem?_eq_none (l := key) (by omega)]
      cases i - key.length <;> simp
  unfold mac
  rw [e, e]
theorem mac_jefe : (mac [74, 101, 102, 101] [119, 104, 97, 116, 32, 100, 111, 32, 121, 97, 32, 119, 97, 110, 116, 32, 102, 111, 114, 32, 110, 111, 116, 104, 105, 110, 103, 63]).take 4 = [0x5b, 0xdc, 0xc1, 0x46] := by
  decide +kernel
end SM
end Go.Proofs.YtoacdeddkfcllaaDoor
/- A key's block, exclusive-ored and written to a Hash; and the block itself: contracts of the program's two helpers. Own work. -/
namespace Go.Proofs.YtoacdeddkfcllaaDoor
open Go.ChangeShapes Go.WideShapes Go.ChangeAt Go.RowKit
open SM
/-- Of 64 bytes the first n exclusive-ored with x. -/
def xk (K : List Nat) (x n : Nat) : List Nat := (List.range 64).map fun i => if i < n then gb K i ^^^ x else gb K i
theorem xk_len (K : List Nat) (x n : Nat) : (xk K x n).length = 64 := by simp [xk]
theorem xk_get (K : List Nat) (x n k : Nat) (hk : k < 64) : gb (xk K x n) k = if k < n then gb K k ^^^ x else gb K k := by
  unfold xk; rw [gb_map, if_pos hk]
theorem xk_byte {K : List Nat} (hK : ∀ k, gb K k < 256) {x : Nat} (hx : x < 256) (n k : Nat) : gb (xk K x n) k < 256 := by
  unfold xk; rw [gb_map]
  split
  · split
    · exact Nat.xor_lt_two_pow (n := 8) (hK k) hx
    · exact hK k
  · omega
theorem xk_zero {K : List Nat} (hK : K.length = 64) (x : Nat) : xk K x 0 = K :=
  bytes_ext (n := 64) (xk_len _ _ _) hK fun k hk => by rw [xk_get _ _ _ _ hk, if_neg (by omega)]
theorem xk_step (K : List Nat) (x k : Nat) (hk : k < 64) : (xk K x k).set k (gb K k ^^^ x) = xk K x (k + 1) :=
  bytes_ext (n := 64) (by rw [List.length_set, xk_len]) (xk_len _ _ _) fun j hj => by
    rw [gb_set _ _ _ _ (by rw [xk_len]; exact hk), xk_get _ _ _ _ hj, xk_get _ _ _ _ hj]
    by_cases e : k = j
    · subst e; rw [if_pos rfl, if_pos (by omega)]
    · rw [if_neg e]
      by_cases h : j < k
      · rw [if_pos h, if_pos (by omega)]
      · rw [if_neg h, if_neg (by omega)]
theorem xk_all (K : List Nat) (x : Nat) : xk K x 64 = (List.range 64).map fun i => gb K i ^^^ x := by
  unfold xk
  apply List.map_congr_left
  intro i hi
  rw [if_pos (by simpa using hi)]
set_option maxRecDepth 100000 in
set_option maxHeartbeats 1000000 in
theorem behind_any (K : List Nat) (hK : Bytes 64 K) (x : Nat) (hx : x < 256) (w : World) (ht : TabP w) :
    Calls Tryd.prog 47 #[.agg (row8 K).toArray, .int .u8 (x : Int)] w fun e w' => ∃ h, w.heap.size < h ∧ e = .returned (.pointer (some ⟨h, 0, none⟩)) ∧ Hs w' h (xk K x 64) ∧ Below w.heap.size w w' := by
  have HT := Lib.hid ht
  have HK := Lib.hid hK
  have b0 := Blk.new w 76 (row8 K) _ rfl
  have B0 := Lib.hid b0
  have BB := Lib.hid ((Below.refl w.heap.size w).alloc (Nat.le_refl _) (.cells (row8 K).toArray 76))
  clear ht hK b0
  go_enter Tryd.func47, Tryd.ntmps47
  go_wp2_with fail
  go_loopw [7] (fun i wr => ∃ k : Nat, k ≤ 64 ∧ i = .int .i64 (k : Int) ∧ Blk wr w.heap.size 76 (row8 (xk K x k)) ∧ Below w.heap.size w wr) (fun i _ => 64 - (intOf i).toNat)
  case atStart => exact ⟨0, Nat.zero_le _, rfl, by rw [xk_zero HK.out.1]; exact B0.out, BB.out⟩
  case round =>
    clear B0 BB
    obtain ⟨k, hk, rfl, hb, bb⟩ := hrel
    by_cases hlt : k < 64
    · have hg : gb (xk K x k) k = gb K k := by rw [xk_get _ _ _ _ hlt, if_neg (by omega)]
      have hc := hb.cell k _ (row8_val _ k (by rw [xk_len]; exact hlt))
      rw [hg] at hc
      have hf := hb.free k
      have hxr := u8_xor_nat (gb K k) x (HK.out.2 k) hx
      have BK := Lib.hid hb
      have BB := Lib.hid bb
      clear hb bb hg
      go_wp2_with fail
      exact ⟨⟨k + 1, by omega, by go_num, by rw [← xk_step _ _ _ hlt, ← row8_set]; exact BK.out.set k _, BB.out.setCell (Nat.le_refl _) _⟩, by simp [intOf]; omega⟩
    · obtain rfl : k = 64 := by omega
      have BK := Lib.hid hb
      have BB := Lib.hid bb
      clear hb bb
      go_wp2_with (first
        | (go_at_call 31; refine (new_ex _).mono ?_; rintro e w2 ⟨h, hh, rfl, h2, b2⟩; have HH := Lib.hid (show w.heap.size < h by have := BK.out.lt; omega); have B2 := Lib.hid (BB.out.on b2); have K2 := Lib.hid (BK.out.below b2 BK.out.lt); have W2 := Lib.hid (write_any h [] (xk K x 64) (.slice (some ⟨w.heap.size, 0, none⟩) 64 64) w2 (by have := blk_rd K2.out (xk_byte HK.out.2 hx 64) (n := 64) (cap := 64) (by rw [xk_len]; omega) (by omega) (by rw [xk_len]; omega); rwa [List.take_of_length_le (by rw [xk_len]; omega)] at this) (fun _ q => by have e : w.heap.size = h := Option.some.inj q; have := HH.out; omega) h2 (HT.out.below B2.out) (by have := HT.out.lt; have := HH.out; omega) (by rw [xk_len]; simp)); clear h2 b2 hh)
        | (go_at_call 32; (with_reducible refine W2.out.mono ?_); rintro e w3 ⟨rfl, h3, g3⟩; rw [List.nil_append] at h3; have H3 := Lib.hid h3; have B3 := Lib.hid (B2.out.grown g3 B2.out.size (fun j hj => by have := Option.some.inj hj; have := HH.out; omega)); clear h3 g3))
      go_ret
      exact ⟨_, HH.out, rfl, H3.out, B3.out⟩
end Go.Proofs.YtoacdeddkfcllaaDoor
/- A key's block: contract of the program's helper. Own work. -/
namespace Go.Proofs.YtoacdeddkfcllaaDoor
open Go.ChangeShapes Go.WideShapes Go.ChangeAt Go.RowKit
open SM
/-- Bytes and noughts behind them, 64 in all. -/
def pad (K : List Nat) : List Nat := (List.range 64).map (gb K)
theorem pad_len (K : List Nat) : (pad K).length = 64 := by simp [pad]
theorem pad_get (K : List Nat) (k : Nat) (hk : k < 64) : gb (pad K) k = gb K k := by
  unfold pad; rw [gb_map, if_pos hk]
theorem pad_bytes {K : List Nat} (hK : ∀ k, gb K k < 256) : Bytes 64 (pad K) := by
  refine ⟨pad_len K, fun k => ?_⟩
  unfold pad; rw [gb_map]; split
  · exact hK k
  · omega
theorem pad_kx (l : List Nat) (x : Nat) : xk (pad (kof l)) x 64 = kx l x := by
  rw [xk_all]; unfold kx
  apply List.map_congr_left
  intro i hi
  rw [pad_get _ _ (by simpa using hi)]
theorem pad_splice (K : List Nat) (hK : K.length ≤ 64) : splice (row8 (List.replicate 64 0)) 0 (row8 K) = row8 (pad K) := by
  rw [← row8_splice]
  congr 1
  refine bytes_ext (n := 64) (by rw [splice_len _ _ _ (by simp; omega)]; simp) (pad_len K) fun k hk => ?_
  rw [gb_splice _ _ _ _ (by simp; omega), pad_get _ _ hk, if_neg (by omega)]
  by_cases h : k < K.length
  · rw [if_pos (by omega)]; simp
  · rw [if_neg (by omega)]
    unfold gb
    rw [List.getD_eq_getElem?_getD, List.getD_eq_getElem?_getD, List.getElem?_eq_none (l := K) (by omega), List.getElem?_replicate]
    split <;> rfl
theorem infoHb : (Tryd.prog.info? 76).map (·.size) = some 64 := by kernel_rfl
theorem kof_byte {l : List Nat} (h : ∀ k, gb l k < 256) (k : Nat) : gb (kof l) k < 256 := by
  unfold kof; split
  · exact (sha_bytes l).2 k
  · exact h k
set_option maxRecDepth 100000 in
theorem zeroHb (w : World) : (zeroValue 76).run Tryd.prog w = .ok (.agg (row8 (List.replicate 64 0)).toArray) w := by kernel_rfl
set_option maxRecDepth 100000 in
set_option maxHeartbeats 1000000 in
theorem blockOf_any (l : List Nat) (v : Value) (w : World) (hv : Rd w v l) (ht : TabP w) :
    Calls Tryd.prog 46 #[v] w fun e w' => e = .returned (.agg (row8 (pad (kof l))).toArray) ∧ Below w.heap.size w w' := by
  obtain ⟨ao, cap, rfl, hcap⟩ := hv.shape
  have HF := hv.fits
  have HV := Lib.hid hv
  have HT := Lib.hid ht
  obtain ⟨C0, hC0⟩ : ∃ C0, C0 = row8 (List.replicate 64 0) := ⟨_, rfl⟩
  have hz : ∀ w, (zeroValue 76).run Tryd.prog w = .ok (.agg C0.toArray) w := by rw [hC0]; exact zeroHb
  have hc0 : C0.length = 64 := by rw [hC0, row8_len, List.length_replicate]
  have HC0 := Lib.hid hC0
  clear hC0
  have bb1 := (Below.refl w.heap.size w).alloc (Nat.le_refl _) (.cells C0.toArray 76)
  have bb2 := bb1.alloc bb1.size (.cells C0.toArray 76)
  have r2 := (Blk.new w 76 C0 _ rfl).alloc (.cells C0.toArray 76)
  have n2 := Blk.new (w.alloc (.cells C0.toArray 76)) 76 C0 (w.heap.size + 1) (by simp)
  have BB2 := Lib.hid bb2
  have R2 := Lib.hid r2
  have N2 := Lib.hid n2
  clear ht hv bb1 bb2 r2 n2
  by_cases hlt : 64 < l.length
  · obtain ⟨S, hS⟩ : ∃ S, S = sha l := ⟨_, rfl⟩
    have hk : kof l = S := by unfold kof; rw [if_pos hlt, hS]
    have HS := Lib.hid hS
    have bS : Bytes 32 S := by rw [hS]; exact sha_bytes l
    have HBS := Lib.hid bS
    have H32 := Lib.hid (show (row8 S).length = 32 by rw [row8_len]; exact bS.1)
    have HOF := Lib.hid (fun W b (hb : b = W.heap.size) (hB : Below w.heap.size w W) => of_one_at (w := W) hb (HV.out.below hB) (HT.out.below hB) (by omega) HS.out)
    have HSP := Lib.hid (show splice C0 0 (row8 (S.take 32)) = row8 (pad S) by rw [List.take_of_length_le (by have := bS.1; omega)]; rw [HC0.out]; exact pad_splice S (by have := bS.1; omega))
    have HMN := Lib.hid (show (32 : Nat) = min (S.take 32).length 64 by rw [List.length_take, bS.1]; rfl)
    have HP := Lib.hid (show (row8 (pad S)).length = 64 by rw [row8_len, pad_len])
    rw [hk]
    have hlI : (64 : Int) < (l.length : Int) := by omega
    clear hS bS hk
    go_enter Tryd.func46, Tryd.ntmps46
    go_wp2_with (first
      | (go_at_call 21; (with_reducible refine (HOF.out _ _ (by simp) BB2.out).mono ?_); rintro e w3 ⟨rfl, b3⟩; have B3 := Lib.hid (BB2.out.on b3); have R3 := Lib.hid (R2.out.below b3 R2.out.lt); have N3 := Lib.hid (N2.out.below b3 N2.out.lt); clear b3)
      | (refine wpList_store_blk rfl 24 (.tmp 4) (.tmp 10) rfl w3.heap.size 0 (row8 S) rfl rfl 24 (row8 (List.replicate 32 0)) (Blk.new w3 24 (row8 (List.replicate 32 0)) _ rfl) (by rw [H32.out]; exact Nat.le_refl _) (by rw [H32.out]; exact infoS) (row8_one _) ?_; intro w4 b4 g4; rw [splice_all _ _ (by rw [H32.out]; rfl)] at b4; have B4 := Lib.hid (own_turn B3.out g4); have R4 := Lib.hid ((R3.out.alloc _).grown g4 (fun q => by have e : w.heap.size = w3.heap.size := Option.some.inj q; have := R3.out.lt; omega)); have N4 := Lib.hid ((N3.out.alloc _).grown g4 (fun q => by have e : w.heap.size + 1 = w3.heap.size := Option.some.inj q; have := N3.out.lt; omega)); have S4 := Lib.hid (show Rd w4 (.slice (some ⟨w3.heap.size, 0, none⟩) 32 32) (S.take 32) from blk_rd b4 HBS.out.2 (n := 32) (cap := 32) (by rw [HBS.out.1]; omega) (by omega) (by rw [HBS.out.1]; omega)); clear b4 g4)
      | ((with_reducible show wpList _ _ _ _ _ _); refine wpList_copy_blk rfl (.tmp 12) (.tmp 13) 29 29 rfl Tryd.underlying29 (w.heap.size + 1) 0 64 64 76 C0 N4.out (some ⟨w.heap.size + 1, 0, none⟩) rfl (.slice (some ⟨w3.heap.size, 0, none⟩) 32 32) rfl (S.take 32) S4.out 32 HMN.out (fun _ => rfl) (by omega) ?_; intro w5 hb5 hg5; rw [List.take_of_length_le (by rw [List.length_take]; omega), HSP.out] at hb5; have N5 := Lib.hid hb5; have R5 := Lib.hid (R4.out.grown hg5 (fun q => by have e : w.heap.size = w.heap.size + 1 := Option.some.inj q; omega)); have B5 := Lib.hid (B4.out.grown hg5 B4.out.size (fun k hk => by have e : w.heap.size + 1 = k := Option.some.inj hk; omega)); clear hb5 hg5)
      | (refine wpList_load_mid rfl 76 (.tmp 3) rfl (w.heap.size + 1) 0 rfl (row8 (pad S)) _ N5.out.range Tryd.underlying76 rfl (by rw [HP.out]; exact infoHb) ?_)
      | (refine wpList_store_mid rfl 76 (.tmp 2) (.tmp 15) rfl w.heap.size 0 (row8 (pad S)).toArray rfl rfl (R5.out.there _ (by rw [List.size_toArray, HP.out, hc0])) (by rw [List.size_toArray, HP.out]; exact infoHb) (row8_one _) ?_))
    have fin := R5.out.whole (row8 (pad S)) (by rw [HP.out, hc0])
    exact bodyPost_ret (v := .agg (row8 (pad S)).toArray) (results_mid rfl _ _ w.heap.size (row8 (pad S)) _ rfl fin.range Tryd.underlying76 rfl (by rw [HP.out]; exact infoHb)) rfl ⟨rfl, below_setCells w.heap.size (Nat.le_refl _) _ 0 _ B5.out⟩
  · have hk : kof l = l := by unfold kof; rw [if_neg hlt]
    rw [hk]
    have HSP := Lib.hid (show splice C0 0 (row8 (l.take l.length)) = row8 (pad l) by rw [List.take_of_length_le (Nat.le_refl _)]; rw [HC0.out]; exact pad_splice l (by omega))
    have HMN := Lib.hid (show l.length = min l.length 64 by omega)
    have HP := Lib.hid (show (row8 (pad l)).length = 64 by rw [row8_len, pad_len])
    have H2 := Lib.hid (show 0 + l.length ≤ C0.length by omega)
    have V2 := Lib.hid (HV.out.below BB2.out)
    have hlI : ¬ (64 : Int) < (l.length : Int) := by omega
    clear hk
    go_enter Tryd.func46, Tryd.ntmps46
    go_wp2_with (first
      | ((with_reducible show wpList _ _ _ _ _ _); refine wpList_copy_blk rfl (.tmp 12) (.tmp 13) 29 29 rfl Tryd.underlying29 (w.heap.size + 1) 0 64 64 76 C0 N2.out (some ⟨w.heap.size + 1, 0, none⟩) rfl (.slice ao l.length cap) rfl l V2.out l.length HMN.out (fun _ => rfl) H2.out ?_; intro w5 hb5 hg5; rw [HSP.out] at hb5; have N5 := Lib.hid hb5; have R5 := Lib.hid (R2.out.grown hg5 (fun q => by have e : w.heap.size = w.heap.size + 1 := Option.some.inj q; omega)); have B5 := Lib.hid (BB2.out.grown hg5 BB2.out.size (fun k hk => by have e : w.heap.size + 1 = k := Option.some.inj hk; omega)); clear hb5 hg5)
      | (refine wpList_load_mid rfl 76 (.tmp 3) rfl (w.heap.size + 1) 0 rfl (row8 (pad l)) _ N5.out.range Tryd.underlying76 rfl (by rw [HP.out]; exact infoHb) ?_)
      | (refine wpList_store_mid rfl 76 (.tmp 2) (.tmp 15) rfl w.heap.size 0 (row8 (pad l)).toArray rfl rfl (R5.out.there _ (by rw [List.size_toArray, HP.out, hc0])) (by rw [List.size_toArray, HP.out]; exact infoHb) (row8_one _) ?_))
    have fin := R5.out.whole (row8 (pad l)) (by rw [HP.out, hc0])
    exact bodyPost_ret (v := .agg (row8 (pad l)).toArray) (results_mid rfl _ _ w.heap.size (row8 (pad l)) _ rfl fin.range Tryd.underlying76 rfl (by rw [HP.out]; exact infoHb)) rfl ⟨rfl, below_setCells w.heap.size (Nat.le_refl _) _ 0 _ B5.out⟩
end Go.Proofs.YtoacdeddkfcllaaDoor
/- A sum with a key under way: made, written to, told: contracts of the program's Mac. Own work. -/
namespace Go.Proofs.YtoacdeddkfcllaaDoor
open Go.ChangeShapes Go.WideShapes Go.ChangeAt Go.RowKit
open SM
/-- In block m lies a Mac with the key l, behind the bytes b: its Hashes lie in h and o. -/
structure Mc (w : World) (m h o : Nat) (l b : List Nat) : Prop where
  blk : Blk w m 80 [.pointer (some ⟨h, 0, none⟩), .pointer (some ⟨o, 0, none⟩)]
  inn : Hs w h (kx l 0x36 ++ b)
  out : Hs w o (kx l 0x5c)
  ho : h ≠ o
  hm : h ≠ m
  om : o ≠ m
theorem Mc.below {w w' : World} {m h o : Nat} {l b : List Nat} (k : Mc w m h o l b) (hb : Below w.heap.size w w') : Mc w' m h o l b :=
  ⟨k.blk.below hb k.blk.lt, k.inn.below hb k.inn.lt, k.out.below hb k.out.lt, k.ho, k.hm, k.om⟩
theorem Mc.alloc {w : World} {m h o : Nat} {l b : List Nat} (k : Mc w m h o l b) (x : Obj) : Mc (w.alloc x) m h o l b := ⟨k.blk.alloc x, k.inn.alloc x, k.out.alloc x, k.ho, k.hm, k.om⟩
theorem kx_len (l : List Nat) (x : Nat) : (kx l x).length = 64 := by simp [kx]
theorem kx_bytes {l : List Nat} (h : ∀ k, gb l k < 256) {x : Nat} (hx : x < 256) (k : Nat) : gb (kx l x) k < 256 := by
  rw [← pad_kx]; exact xk_byte (pad_bytes (kof_byte h)).2 hx 64 k
set_option maxRecDepth 100000 in
set_option maxHeartbeats 1000000 in
theorem mac_new (l : List Nat) (v : Value) (w : World) (hv : Rd w v l) (ht : TabP w) :
    Calls Tryd.prog 34 #[v] w fun e w' => ∃ m h o, w.heap.size ≤ m ∧ w.heap.size ≤ h ∧ w.heap.size ≤ o ∧ e = .returned (.pointer (some ⟨m, 0, none⟩)) ∧ Mc w' m h o l [] ∧ Below w.heap.size w w' := by
  have hbb := pad_bytes (kof_byte hv.byte)
  obtain ⟨K, hK⟩ : ∃ K, K = pad (kof l) := ⟨_, rfl⟩
  rw [← hK] at hbb
  have HBB := Lib.hid hbb
  have HP := Lib.hid (show (row8 K).length = 64 by rw [row8_len]; exact hbb.1)
  have HT := Lib.hid ht
  have hbo := blockOf_any l v w hv ht
  rw [← hK] at hbo
  have HBO := Lib.hid hbo
  have hx6 : xk K 0x36 64 = kx l 0x36 := by rw [hK]; exact pad_kx l _
  have hx5 : xk K 0x5c 64 = kx l 0x5c := by rw [hK]; exact pad_kx l _
  have H6 := Lib.hid (fun W (hW : TabP W) => by have := behind_any K HBB.out 0x36 (by omega) W hW; rw [hx6] at this; exact this)
  have H5 := Lib.hid (fun W (hW : TabP W) => by have := behind_any K HBB.out 0x5c (by omega) W hW; rw [hx5] at this; exact this)
  obtain ⟨C0, hC0⟩ : ∃ C0, C0 = row8 (List.replicate 64 0) := ⟨_, rfl⟩
  have hz : ∀ w, (zeroValue 76).run Tryd.prog w = .ok (.agg C0.toArray) w := by rw [hC0]; exact zeroHb
  have hc0 : C0.length = 64 := by rw [hC0, row8_len, List.length_replicate]
  clear hC0 hbb hbo hx6 hx5 hK hv ht
  go_enter Tryd.func34, Tryd.ntmps34
  go_upto_region 2 with (first
    | (go_at_call 46; (with_reducible refine HBO.out.mono ?_); rintro e w2 ⟨rfl, b2⟩; have B2 := Lib.hid b2; clear b2)
    | (refine wpList_store_blk rfl 76 (.tmp 3) (.tmp 5) rfl w2.heap.size 0 (row8 K) rfl rfl 76 C0 (Blk.new w2 76 C0 _ rfl) (by rw [HP.out, hc0]; exact Nat.le_refl _) (by rw [HP.out]; exact infoHb) (row8_one _) ?_; intro w3 b3 g3; rw [splice_all _ _ (by rw [HP.out, hc0])] at b3; have K3 := Lib.hid b3; have B3 := Lib.hid (own_turn B2.out g3); clear b3 g3))
  simp only [put_none]
  obtain ⟨kb, hkb⟩ : ∃ kb, kb = w2.heap.size := ⟨_, rfl⟩
  rw [← hkb] at K3 ⊢
  clear hkb hz hc0
  refine wp_region_g (by kernel_rfl) 4 (by decide) (by kernel_rfl) (by kernel_rfl) (by kernel_rfl) w3.heap.size (Nat.le_refl _) [.val (.agg (row8 K).toArray), .hash (kx l 0x36), .val (.agg (row8 K).toArray), .hash (kx l 0x5c)] (fun _ => 7) ?_ ?_
  · refine ⟨?_, ?_, ?_, ?_, trivial⟩
    · intro a w' hF hB hd
      have e3 : a.eval (.tmp 3) = .pointer (some ⟨kb, 0, none⟩) := hF 3 (by decide +kernel)
      exact doesG_wp rfl rfl fun K' hK' => wp_load_mid 76 (.tmp 3) rfl kb 0 e3 (row8 K) _ (K3.out.below hB K3.out.lt).range Tryd.underlying76 rfl (by rw [HP.out]; exact infoHb) (hK' _ _ rfl (Below.refl _ _))
    · intro a w' hF hB hd
      have e6 : a.eval (.tmp 6) = .agg (row8 K).toArray := hd 0 (by decide +kernel) (.inr (by decide))
      exact doesG_made rfl (ex_call (vs := #[.agg (row8 K).toArray, .int .u8 0x36]) rfl (by simp only [List.map_toArray, List.map_cons, List.map_nil, e6]; rfl) (by go_simp)) ((H6.out w' (HT.out.below (B3.out.on hB))).mono fun e w4 hh => by
        obtain ⟨h, q1, rfl, q3, q4⟩ := hh
        exact ⟨_, rfl, ⟨h, rfl, by have := hB.size; omega, q3⟩, q4, fun g hg => by have : h = g := Option.some.inj hg; have := q3.lt; omega⟩)
    · intro a w' hF hB hd
      have e3 : a.eval (.tmp 3) = .pointer (some ⟨kb, 0, none⟩) := hF 3 (by decide +kernel)
      exact doesG_wp rfl rfl fun K' hK' => wp_load_mid 76 (.tmp 3) rfl kb 0 e3 (row8 K) _ (K3.out.below hB K3.out.lt).range Tryd.underlying76 rfl (by rw [HP.out]; exact infoHb) (hK' _ _ rfl (Below.refl _ _))
    · intro a w' hF hB hd
      have e8 : a.eval (.tmp 8) = .agg (row8 K).toArray := hd 2 (by decide +kernel) (.inr (by decide))
      exact doesG_made rfl (ex_call (vs := #[.agg (row8 K).toArray, .int .u8 0x5c]) rfl (by simp only [List.map_toArray, List.map_cons, List.map_nil, e8]; rfl) (by go_simp)) ((H5.out w' (HT.out.below (B3.out.on hB))).mono fun e w4 hh => by
        obtain ⟨h, q1, rfl, q3, q4⟩ := hh
        exact ⟨_, rfl, ⟨h, rfl, by have := hB.size; omega, q3⟩, q4, fun g hg => by have : h = g := Option.some.inj hg; have := q3.lt; omega⟩)
  · intro vs w4 hB hv hap
    obtain ⟨h, e1, hb1, hs1⟩ : ∃ h, vs 1 = .pointer (some ⟨h, 0, none⟩) ∧ w3.heap.size ≤ h ∧ Hs w4 h (kx l 0x36) := hv 1 (by omega) (by omega)
    obtain ⟨o, e3, hb3, hs3⟩ : ∃ h, vs 3 = .pointer (some ⟨h, 0, none⟩) ∧ w3.heap.size ≤ h ∧ Hs w4 h (kx l 0x5c) := hv 3 (by omega) (by omega)
    have hne : h ≠ o := fun e => hap 1 3 (by omega) (by omega) (by omega) (by omega) (by omega) rfl rfl h (by rw [e1]; rfl) (by rw [e3, e]; rfl)
    simp only [List.take_succ_cons, List.take_zero, List.drop_succ_cons, List.drop_zero, putOps, Act.put, List.setIfInBounds_toArray, List.set_cons_zero, List.set_cons_succ, e1, e3]
    have hsz := B3.out.size
    have h1 := hs1.lt
    have h3 := hs3.lt
    have HS1 := Lib.hid hs1
    have HS3 := Lib.hid hs3
    have B4 := Lib.hid (B3.out.on hB)
    clear hv hap hs1 hs3 hB e1 e3
    go_wp2_with fail
    go_ret
    refine ⟨w4.heap.size, h, o, by have := B4.out.size; omega, by omega, by omega, rfl, ⟨Blk.new w4 80 [.pointer (some ⟨h, 0, none⟩), .pointer (some ⟨o, 0, none⟩)] _ rfl, by rw [List.append_nil]; exact HS1.out.alloc _, HS3.out.alloc _, hne, by omega, by omega⟩, B4.out.alloc B4.out.size _⟩
end Go.Proofs.YtoacdeddkfcllaaDoor
/- A Mac written to and its sum told; the sum of parts with a key: contracts. Own work. -/
namespace Go.Proofs.YtoacdeddkfcllaaDoor
open Go.ChangeShapes Go.WideShapes Go.ChangeAt Go.RowKit
open SM
theorem mac_write_nil (v : Value) (w : World) : Calls Tryd.prog 35 #[.pointer none, v] w fun e w' => e = .returned (.int .i64 1) ∧ w' = w := by
  go_enter Tryd.func35, Tryd.ntmps35
  go_wp2_with fail
  go_ret
  exact ⟨rfl, rfl⟩
theorem Mc.wrote {w w' : World} {m h o : Nat} {l b c : List Nat} (k : Mc w m h o l b) (hs : Hs w' h (kx l 0x36 ++ b ++ c)) (hg : w.grownBy w' (some h)) : Mc w' m h o l (b ++ c) :=
  ⟨k.blk.grown hg (fun q => k.hm (Option.some.inj q).symm), by rw [← List.append_assoc]; exact hs, k.out.grown hg (fun q => k.ho (Option.some.inj q).symm), k.ho, k.hm, k.om⟩
theorem mac_write (m h o : Nat) (l b c : List Nat) (v : Value) (w : World) (hv : Rd w v c) (hne : 0 < c.length → v.ownBlock ≠ some h) (hm : Mc w m h o l b) (ht : TabP w) (hgk : h ≠ 1) (hn : b.length + c.length ≤ 2305843009213693952) :
    Calls Tryd.prog 35 #[.pointer (some ⟨m, 0, none⟩), v] w fun e w' => e = .returned (.int .i64 0) ∧ Mc w' m h o l (b ++ c) ∧ w.grownBy w' (some h) := by
  have c0 := hm.blk.cell 0 _ rfl
  have HW := Lib.hid (write_any h (kx l 0x36 ++ b) c v w hv hne hm.inn ht hgk (by rw [List.length_append, kx_len]; omega))
  have HM := Lib.hid hm
  clear hm hv hne ht
  go_enter Tryd.func35, Tryd.ntmps35
  go_wp2_with (go_at_call 32; (with_reducible refine HW.out.mono ?_); rintro e w2 ⟨rfl, h2, g2⟩; have H2 := Lib.hid h2; have G2 := Lib.hid g2; clear h2 g2)
  go_ret
  exact ⟨rfl, HM.out.wrote H2.out G2.out, G2.out⟩
set_option maxRecDepth 100000 in
theorem mac_sum_nil (w : World) : Calls Tryd.prog 36 #[.pointer none] w fun e w' => e = .returned (.agg (row8 (List.replicate 32 0)).toArray) ∧ Below w.heap.size w w' := by
  go_enter Tryd.func36, Tryd.ntmps36
  go_wp2_with (refine wpList_store_mid rfl 24 (.tmp 2) (.tmp 7) rfl w.heap.size 0 (row8 (List.replicate 32 0)).toArray rfl rfl ((Blk.new w 24 (row8 (List.replicate 32 0)) _ rfl).there _ rfl) infoS (row8_one _) ?_)
  simp only [put_none]
  have fin := (Blk.new w 24 (row8 (List.replicate 32 0)) _ rfl).whole (row8 (List.replicate 32 0)) rfl
  exact bodyPost_ret (v := .agg (row8 (List.replicate 32 0)).toArray) (results_mid rfl _ _ w.heap.size (row8 (List.replicate 32 0)) _ rfl fin.range Tryd.underlying24 rfl infoS) rfl ⟨rfl, below_setCells w.heap.size (Nat.le_refl _) _ 0 _ ((Below.refl _ _).alloc (Nat.le_refl _) _)⟩
set_option maxRecDepth 100000 in
set_option maxHeartbeats 1000000 in
theorem mac_sum (m h o : Nat) (l b : List Nat) (w : World) (hm : Mc w m h o l b) (ht : TabP w) (hn : b.length ≤ 1152921504606846900) :
    Calls Tryd.prog 36 #[.pointer (some ⟨m, 0, none⟩)] w fun e w' => e = .returned (.agg (row8 (mac l b)).toArray) ∧ Below w.heap.size w w' := by
  obtain ⟨S, hS⟩ : ∃ S, S = sha (kx l 0x36 ++ b) := ⟨_, rfl⟩
  have bS : Bytes 32 S := by rw [hS]; exact sha_bytes _
  obtain ⟨M, hM⟩ : ∃ M, M = mac l b := ⟨_, rfl⟩
  have hM2 : M = sha (kx l 0x5c ++ S) := by rw [hM, hS]; rfl
  have bM : Bytes 32 M := by rw [hM2]; exact sha_bytes _
  rw [← hM]
  obtain ⟨C0, hC0⟩ : ∃ C0, C0 = row8 (List.replicate 32 0) := ⟨_, rfl⟩
  have hz : ∀ w, (zeroValue 24).run Tryd.prog w = .ok (.agg C0.toArray) w := by rw [hC0]; exact zeroSum
  have hc0 : C0.length = 32 := by rw [hC0, row8_len, List.length_replicate]
  clear hC0
  have HS := Lib.hid hS
  have HM2 := Lib.hid hM2
  have HBS := Lib.hid bS
  have S32 := Lib.hid (show (row8 S).length = 32 by rw [row8_len]; exact bS.1)
  have M32 := Lib.hid (show (row8 M).length = 32 by rw [row8_len]; exact bM.1)
  have HT := Lib.hid ht
  have HTL := Lib.hid ht.lt
  have m1 := hm.alloc (.cells C0.toArray 24)
  have c0 := m1.blk.cell 0 _ rfl
  have M1 := Lib.hid m1
  have bb1 := (Below.refl w.heap.size w).alloc (Nat.le_refl _) (.cells C0.toArray 24)
  have R1 := Lib.hid (Blk.new w 24 C0 _ rfl)
  have S1 := Lib.hid (sum_of m1.inn (ht.below bb1) (by rw [List.length_append, kx_len]; omega) hS)
  have BB1 := Lib.hid bb1
  clear hS hM hM2 bS bM ht hm m1 bb1
  go_enter Tryd.func36, Tryd.ntmps36
  go_wp2_with (first
    | (go_at_call 33; (with_reducible refine S1.out.mono ?_); rintro e w2 ⟨rfl, b2⟩; have B2 := Lib.hid (BB1.out.on b2); have R2 := Lib.hid (R1.out.below b2 R1.out.lt); have M2 := Lib.hid (M1.out.below b2); clear b2)
    | (refine wpList_store_blk rfl 24 (.tmp 3) (.tmp 12) rfl w2.heap.size 0 (row8 S) rfl rfl 24 C0 (Blk.new w2 24 C0 _ rfl) (by rw [S32.out, hc0]; exact Nat.le_refl _) (by rw [S32.out]; exact infoS) (row8_one _) ?_; intro w3 b3 g3; rw [splice_all _ _ (by rw [S32.out, hc0])] at b3; have K3 := Lib.hid b3; have B3 := Lib.hid (own_turn B2.out g3); have R3 := Lib.hid ((R2.out.alloc (.cells C0.toArray 24)).grown g3 (fun q => by have e : w.heap.size = w2.heap.size := Option.some.inj q; have := R2.out.lt; omega)); have m3 := (M2.out.alloc (.cells C0.toArray 24)); have c1 := (m3.blk.grown g3 (fun q => by have e : m = w2.heap.size := Option.some.inj q; have := M2.out.blk.lt; omega)).cell 1 _ rfl; have F3 := Lib.hid (fork_ex o (kx l 0x5c) w3 (m3.out.grown g3 (fun q => by have e : o = w2.heap.size := Option.some.inj q; have := M2.out.out.lt; omega))); clear b3 g3 m3)
    | (go_at_call 44; (with_reducible refine F3.out.mono ?_); rintro e w4 ⟨f, hf, rfl, h4, b4⟩; have HF := Lib.hid hf; have B4 := Lib.hid (B3.out.on b4); have R4 := Lib.hid (R3.out.below b4 R3.out.lt); have W4 := Lib.hid (write_any f (kx l 0x5c) S (.slice (some ⟨w2.heap.size, 0, none⟩) 32 32) w4 (by have := blk_rd (K3.out.below b4 K3.out.lt) HBS.out.2 (n := 32) (cap := 32) (by rw [HBS.out.1]; omega) (by omega) (by rw [HBS.out.1]; omega); rwa [List.take_of_length_le (by rw [HBS.out.1]; omega)] at this) (fun _ q => by have e : w2.heap.size = f := Option.some.inj q; have := K3.out.lt; omega) h4 (HT.out.below B4.out) (by have := HTL.out; have := B3.out.size; omega) (by rw [kx_len, HBS.out.1]; omega)); clear h4 b4 hf)
    | (go_at_call 32; (with_reducible refine W4.out.mono ?_); rintro e w5 ⟨rfl, h5, g5⟩; have B5 := Lib.hid (B4.out.grown g5 B4.out.size (fun k hk => by have e : f = k := Option.some.inj hk; have := HF.out; have := B3.out.size; omega)); have R5 := Lib.hid (R4.out.grown g5 (fun q => by have e : w.heap.size = f := Option.some.inj q; have := HF.out; have := R3.out.lt; omega)); have S5 := Lib.hid (sum_of h5 (HT.out.below B5.out) (by rw [List.length_append, kx_len, HBS.out.1]; omega) HM2.out); clear h5 g5)
    | (go_at_call 33; (with_reducible refine S5.out.mono ?_); rintro e w6 ⟨rfl, b6⟩; have B6 := Lib.hid (B5.out.on b6); have R6 := Lib.hid (R5.out.below b6 R5.out.lt); clear b6)
    | (refine wpList_store_mid rfl 24 (.tmp 2) (.tmp 22) rfl w.heap.size 0 (row8 M).toArray rfl rfl (R6.out.there _ (by rw [List.size_toArray, M32.out, hc0])) (by rw [List.size_toArray, M32.out]; exact infoS) (row8_one _) ?_))
  have fin := R6.out.whole (row8 M) (by rw [M32.out, hc0])
  exact bodyPost_ret (v := .agg (row8 M).toArray) (results_mid rfl _ _ w.heap.size (row8 M) _ rfl fin.range Tryd.underlying24 rfl (by rw [M32.out]; exact infoS)) rfl ⟨rfl, below_setCells w.heap.size (Nat.le_refl _) _ 0 _ B6.out⟩
end Go.Proofs.YtoacdeddkfcllaaDoor
/- The sum of parts with a key: contract of the program's Of. Own work. -/
namespace Go.Proofs.YtoacdeddkfcllaaDoor
open Go.ChangeShapes Go.WideShapes Go.ChangeAt Go.RowKit
open SM
set_option maxRecDepth 100000 in
set_option maxHeartbeats 1000000 in
theorem hof_any (l : List Nat) (ls : List (List Nat)) (hn : ls.flatten.length ≤ 1152921504606846900) (u v : Value) (w : World) (hu : Rd w u l) (hv : Rds w v ls) (ht : TabP w) :
    Calls Tryd.prog 22 #[u, v] w fun e w' => e = .returned (.agg (row8 (mac l ls.flatten)).toArray) ∧ Below w.heap.size w w' := by
  obtain ⟨au, cu, rfl, hcu⟩ := hu.shape
  obtain ⟨ao, cap, rfl, hcap⟩ := hv.shape
  have HV := Lib.hid hv
  have HFI := hv.fits
  have HT := Lib.hid ht
  have HTL := Lib.hid ht.lt
  obtain ⟨C0, hC0⟩ : ∃ C0, C0 = row8 (List.replicate 32 0) := ⟨_, rfl⟩
  have hz : ∀ w, (zeroValue 24).run Tryd.prog w = .ok (.agg C0.toArray) w := by rw [hC0]; exact zeroSum
  have hc0 : C0.length = 32 := by rw [hC0, row8_len, List.length_replicate]
  have bb1 := (Below.refl w.heap.size w).alloc (Nat.le_refl _) (.cells C0.toArray 24)
  have R1 := Lib.hid (Blk.new w 24 C0 _ rfl)
  have N1 := Lib.hid (mac_new l (.slice au l.length cu) (w.alloc (.cells C0.toArray 24)) (hu.alloc _) (ht.below bb1))
  have BB1 := Lib.hid bb1
  obtain ⟨S, hS⟩ : ∃ S, S = mac l ls.flatten := ⟨_, rfl⟩
  rw [← hS]
  have HSS := Lib.hid hS
  have H32 := Lib.hid (show (row8 S).length = 32 by rw [hS, row8_len]; exact SM.sha_length _)
  clear hu hv ht bb1 hS hC0
  go_enter Tryd.func22, Tryd.ntmps22
  go_wp2_with (go_at_call 34; (with_reducible refine N1.out.mono ?_); rintro e w2 ⟨m, h, o, hm, hh, ho, rfl, m2, b2⟩; have HM := Lib.hid hm; have HH := Lib.hid hh; have HO := Lib.hid ho; clear hm hh ho; have M2 := Lib.hid m2; have BB2 := Lib.hid (BB1.out.on b2); have R2 := Lib.hid (R1.out.below b2 R1.out.lt); clear m2 b2)
  go_loopw [12] (fun i wr => ∃ k : Nat, k ≤ ls.length ∧ i = .int .i64 (k : Int) ∧ Mc wr m h o l (ls.take k).flatten ∧ Blk wr w.heap.size 24 C0 ∧ Below w.heap.size w wr) (fun i _ => ls.length - (intOf i).toNat)
  case atStart => exact ⟨0, Nat.zero_le _, rfl, M2.out, R2.out, BB2.out⟩
  case round =>
    clear M2 R2 BB2 R1 BB1 N1
    obtain ⟨k, hk, rfl, hs, r0, b0⟩ := hrel
    have hh1 : w.heap.size + 1 ≤ h := by have := HH.out; simpa using this
    have hgk : h ≠ 1 := by have := HTL.out; omega
    by_cases hlt : k < ls.length
    · obtain ⟨ad, x, rfl, hc, hr⟩ := (HV.out.below b0).at_ k hlt
      obtain ⟨_, x', e1, hc', hr'⟩ := HV.out.at_ k hlt
      cases e1
      have hxx : x' = x := Option.some.inj ((cell_below hc' b0).symm.trans hc)
      subst hxx
      have hne : 0 < ls[k].length → x'.ownBlock ≠ some h := fun hl => hr'.old hl h (by omega)
      have hle : (ls.take k).flatten.length + ls[k].length ≤ 1152921504606846900 := by
        have h1 := congrArg List.length (flat_take ls k hlt)
        rw [List.length_append] at h1
        have := flat_le ls (k + 1)
        omega
      have HW := Lib.hid (mac_write m h o l _ _ x' wr hr hne hs (HT.out.below b0) hgk (by omega))
      have HFT := Lib.hid (flat_take ls k hlt)
      have R0 := Lib.hid r0
      have B0 := Lib.hid b0
      have HH1 := Lib.hid hh1
      clear hr hr' hne hs r0 b0 hc' hle hh1
      go_wp2_with (go_at_call 35; (with_reducible refine HW.out.mono ?_); rintro e w3 ⟨rfl, h3, g3⟩; rw [HFT.out] at h3; have H3 := Lib.hid h3; have R3 := Lib.hid (R0.out.grown g3 (fun q => by have e : w.heap.size = h := Option.some.inj q; have := HH1.out; omega)); have B3 := Lib.hid (B0.out.grown g3 B0.out.size (fun j hj => by have e : h = j := Option.some.inj hj; have := HH1.out; omega)); clear h3 g3)
      exact ⟨⟨k + 1, by omega, by go_num, H3.out, R3.out, B3.out⟩, by simp [intOf]; omega⟩
    · obtain rfl : k = ls.length := by omega
      rw [List.take_length] at hs
      have HS := Lib.hid (mac_sum m h o l _ wr hs (HT.out.below b0) hn)
      rw [← HSS.out] at HS
      have R0 := Lib.hid r0
      have B0 := Lib.hid b0
      clear r0 b0 hs hh1
      go_wp2_with (first
        | (go_at_call 36; (with_reducible refine HS.out.mono ?_); rintro e w4 ⟨rfl, b4⟩; have R4 := Lib.hid (R0.out.below b4 R0.out.lt); have B4 := Lib.hid (B0.out.on b4); clear b4)
        | (refine wpList_store_mid rfl 24 (.tmp 4) (.tmp 21) rfl w.heap.size 0 (row8 S).toArray rfl rfl (R4.out.there _ (by rw [List.size_toArray, H32.out, hc0])) (by rw [List.size_toArray, H32.out]; exact infoS) (row8_one _) ?_))
      have fin := R4.out.whole (row8 S) (by rw [H32.out, hc0])
      exact bodyPost_ret (v := .agg (row8 S).toArray) (results_mid rfl _ _ w.heap.size (row8 S) _ rfl fin.range Tryd.underlying24 rfl (by rw [H32.out]; exact infoS)) rfl ⟨rfl, below_setCells w.heap.size (Nat.le_refl _) _ 0 _ B4.out⟩
/-- One part, and two, as the laws call it. -/
theorem hof_one_at {w : World} {u x : Value} {l m S : List Nat} {b : Nat} (hb : b = w.heap.size) (hu : Rd w u l) (hx : Rd w x m) (ht : TabP w) (hn : m.length ≤ 1152921504606846900) (hS : S = mac l m) :
    Calls Tryd.prog 22 #[u, .slice (some ⟨b, 0, none⟩) 1 1] (w.alloc (.cells #[x] 29)) fun e w' => e = .returned (.agg (row8 S).toArray) ∧ Below w.heap.size w w' := by
  have e : [m].flatten = m := by simp
  have bb := (Below.refl w.heap.size w).alloc (Nat.le_refl _) (.cells #[x] 29)
  have h1 := hof_any l [m] (by rw [e]; exact hn) u _ _ (hu.alloc _) (rds_one hx hb) (ht.below bb)
  rw [e, ← hS] at h1
  exact h1.mono fun _ _ q => ⟨q.1, bb.on q.2⟩
theorem hof_two_at {w : World} {u x y : Value} {l m n S : List Nat} {b : Nat} (hb : b = w.heap.size) (hu : Rd w u l) (hx : Rd w x m) (hy : Rd w y n) (ht : TabP w) (hn : m.length + n.length ≤ 1152921504606846900) (hS : S = mac l (m ++ n)) :
    Calls Tryd.prog 22 #[u, .slice (some ⟨b, 0, none⟩) 2 2] (w.alloc (.cells #[x, y] 29)) fun e w' => e = .returned (.agg (row8 S).toArray) ∧ Below w.heap.size w w' := by
  have e : [m, n].flatten = m ++ n := by simp
  have bb := (Below.refl w.heap.size w).alloc (Nat.le_refl _) (.cells #[x, y] 29)
  have h1 := hof_any l [m, n] (by rw [e, List.length_append]; exact hn) u _ _ (hu.alloc _) (rds_two hx hy hb) (ht.below bb)
  rw [e, ← hS] at h1
  exact h1.mono fun _ _ q => ⟨q.1, bb.on q.2⟩
theorem mac_bytes (l b : List Nat) : Bytes 32 (mac l b) := sha_bytes _
end Go.Proofs.YtoacdeddkfcllaaDoor

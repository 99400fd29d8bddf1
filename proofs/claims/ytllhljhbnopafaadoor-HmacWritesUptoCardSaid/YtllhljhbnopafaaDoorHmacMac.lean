/- A sum with a key under way: made, written to, told: contracts of the program's Mac. Own work. -/
import Derived.Test.YtllhljhbnopafaaDoorHmacBlock
import Derived.Test.YtllhljhbnopafaaDoorFactsH
namespace Go.Proofs.YtllhljhbnopafaaDoor
open Go.ChangeShapes Go.WideShapes Go.ChangeAt Go.RowKit
open SM
/-- In block m lies a Mac with the key l, behind the bytes b: its Hashes lie in h and o. -/
structure Mc (w : World) (m h o : Nat) (l b : List Nat) : Prop where
  blk : Blk w m 49 [.pointer (some ⟨h, 0, none⟩), .pointer (some ⟨o, 0, none⟩)]
  inn : Hs w h (kx l 0x36 ++ b)
  out : Hs w o (kx l 0x5c)
  ho : h ≠ o
  hm : h ≠ m
  om : o ≠ m
theorem Mc.below {w w' : World} {m h o : Nat} {l b : List Nat} (k : Mc w m h o l b) (hb : Below w.heap.size w w') : Mc w' m h o l b :=
  ⟨k.blk.below hb k.blk.lt, k.inn.below hb k.inn.lt, k.out.below hb k.out.lt, k.ho, k.hm, k.om⟩
theorem Mc.alloc {w : World} {m h o : Nat} {l b : List Nat} (k : Mc w m h o l b) (x : Obj) : Mc (w.alloc x) m h o l b := ⟨k.blk.alloc x, k.inn.alloc x, k.out.alloc x, k.ho, k.hm, k.om⟩
theorem kx_len (l : List Nat) (x : Nat) : (kx l x).length = 64 := by simp [kx]
theorem kx_bytes {l : List Nat} (h : ∀ k, gb l k < 256) {x : Nat} (hx : x < 256) (k : Nat) : gb (kx l x) k < 256 := by
  rw [← pad_kx]; exact xk_byte (pad_bytes (kof_byte h)).2 hx 64 k
/-- What is known of a Hash that was made. -/
def Pred.hash {B : Nat} (L : List Nat) : Pred B := ⟨fun v w => ∃ h, v = .pointer (some ⟨h, 0, none⟩) ∧ B ≤ h ∧ Hs w h L, false,
  fun ⟨h, e, hb, hs⟩ hw => ⟨h, e, hb, hs.below hw hs.lt⟩,
  fun ⟨h, e, hb, hs⟩ hg _ hne => ⟨h, e, hb, hs.grown hg (by subst e; exact hne.resolve_left (by simp))⟩⟩
set_option maxRecDepth 100000 in
set_option maxHeartbeats 1000000 in
theorem mac_new (l : List Nat) (v : Value) (w : World) (hv : Rd w v l) (ht : TabP w) :
    Calls Tryd.prog 13 #[v] w fun e w' => ∃ m h o, w.heap.size ≤ m ∧ w.heap.size ≤ h ∧ w.heap.size ≤ o ∧ e = .returned (.pointer (some ⟨m, 0, none⟩)) ∧ Mc w' m h o l [] ∧ Below w.heap.size w w' := by
  have hbb := pad_bytes (kof_byte hv.byte)
  obtain ⟨K, hK⟩ : ∃ K, K = pad (kof l) := ⟨_, rfl⟩
  rw [← hK] at hbb
  have HBB := Lib.hid hbb
  have HP := Lib.hid (show (row8 K).length = 64 by rw [row8_len]; exact hbb.1)
  have HT := Lib.hid ht
  have hbo := blockOf_any l v w hv ht
  rw [← hK] at hbo
  have HBO := Lib.hid hbo
  have hx6 : xk K 0x36 64 = kx l 0x36 := by rw [hK]; exact pad_kx l _
  have hx5 : xk K 0x5c 64 = kx l 0x5c := by rw [hK]; exact pad_kx l _
  have H6 := Lib.hid (fun W (hW : TabP W) => by have := behind_any K HBB.out 0x36 (by omega) W hW; rw [hx6] at this; exact this)
  have H5 := Lib.hid (fun W (hW : TabP W) => by have := behind_any K HBB.out 0x5c (by omega) W hW; rw [hx5] at this; exact this)
  obtain ⟨C0, hC0⟩ : ∃ C0, C0 = row8 (List.replicate 64 0) := ⟨_, rfl⟩
  have hz : ∀ w, (zeroValue 44).run Tryd.prog w = .ok (.agg C0.toArray) w := by rw [hC0]; exact zeroHb
  have hc0 : C0.length = 64 := by rw [hC0, row8_len, List.length_replicate]
  clear hC0 hbb hbo hx6 hx5 hK hv ht
  go_enter Tryd.func13, Tryd.ntmps13
  go_upto_region 2 with (first
    | (go_at_call 20; (with_reducible refine HBO.out.mono ?_); rintro e w2 ⟨rfl, b2⟩; have B2 := Lib.hid b2; clear b2)
    | (refine wpList_store_blk rfl 44 (.tmp 3) (.tmp 5) rfl w2.heap.size 0 (row8 K) rfl rfl 44 C0 (Blk.new w2 44 C0 _ rfl) (by rw [HP.out, hc0]; exact Nat.le_refl _) (by rw [HP.out]; exact infoHb) (row8_one _) ?_; intro w3 b3 g3; rw [splice_all _ _ (by rw [HP.out, hc0])] at b3; have K3 := Lib.hid b3; have B3 := Lib.hid (own_turn B2.out g3); clear b3 g3))
  simp only [put_none]
  obtain ⟨kb, hkb⟩ : ∃ kb, kb = w2.heap.size := ⟨_, rfl⟩
  rw [← hkb] at K3 ⊢
  clear hkb hz hc0
  refine wp_region_g (by kernel_rfl) 4 (by decide) (by kernel_rfl) (by kernel_rfl) (by kernel_rfl) w3.heap.size (Nat.le_refl _) [.val (.agg (row8 K).toArray), .hash (kx l 0x36), .val (.agg (row8 K).toArray), .hash (kx l 0x5c)] (fun _ => 7) ?_ ?_
  · refine ⟨?_, ?_, ?_, ?_, trivial⟩
    · intro a w' hF hB hd
      have e3 : a.eval (.tmp 3) = .pointer (some ⟨kb, 0, none⟩) := hF 3 (by decide +kernel)
      exact doesG_wp rfl rfl fun K' hK' => wp_load_mid 44 (.tmp 3) rfl kb 0 e3 (row8 K) _ (K3.out.below hB K3.out.lt).range Tryd.underlying44 rfl (by rw [HP.out]; exact infoHb) (hK' _ _ rfl (Below.refl _ _))
    · intro a w' hF hB hd
      have e6 : a.eval (.tmp 6) = .agg (row8 K).toArray := hd 0 (by decide +kernel) (.inr (by decide))
      exact doesG_made rfl (ex_call (vs := #[.agg (row8 K).toArray, .int .u8 0x36]) rfl (by simp only [List.map_toArray, List.map_cons, List.map_nil, e6]; rfl) (by go_simp)) ((H6.out w' (HT.out.below (B3.out.on hB))).mono fun e w4 hh => by
        obtain ⟨h, q1, rfl, q3, q4⟩ := hh
        exact ⟨_, rfl, ⟨h, rfl, by have := hB.size; omega, q3⟩, q4, fun g hg => by have : h = g := Option.some.inj hg; have := q3.lt; omega⟩)
    · intro a w' hF hB hd
      have e3 : a.eval (.tmp 3) = .pointer (some ⟨kb, 0, none⟩) := hF 3 (by decide +kernel)
      exact doesG_wp rfl rfl fun K' hK' => wp_load_mid 44 (.tmp 3) rfl kb 0 e3 (row8 K) _ (K3.out.below hB K3.out.lt).range Tryd.underlying44 rfl (by rw [HP.out]; exact infoHb) (hK' _ _ rfl (Below.refl _ _))
    · intro a w' hF hB hd
      have e8 : a.eval (.tmp 8) = .agg (row8 K).toArray := hd 2 (by decide +kernel) (.inr (by decide))
      exact doesG_made rfl (ex_call (vs := #[.agg (row8 K).toArray, .int .u8 0x5c]) rfl (by simp only [List.map_toArray, List.map_cons, List.map_nil, e8]; rfl) (by go_simp)) ((H5.out w' (HT.out.below (B3.out.on hB))).mono fun e w4 hh => by
        obtain ⟨h, q1, rfl, q3, q4⟩ := hh
        exact ⟨_, rfl, ⟨h, rfl, by have := hB.size; omega, q3⟩, q4, fun g hg => by have : h = g := Option.some.inj hg; have := q3.lt; omega⟩)
  · intro vs w4 hB hv hap
    obtain ⟨h, e1, hb1, hs1⟩ : ∃ h, vs 1 = .pointer (some ⟨h, 0, none⟩) ∧ w3.heap.size ≤ h ∧ Hs w4 h (kx l 0x36) := hv 1 (by omega) (by omega)
    obtain ⟨o, e3, hb3, hs3⟩ : ∃ h, vs 3 = .pointer (some ⟨h, 0, none⟩) ∧ w3.heap.size ≤ h ∧ Hs w4 h (kx l 0x5c) := hv 3 (by omega) (by omega)
    have hne : h ≠ o := fun e => hap 1 3 (by omega) (by omega) (by omega) (by omega) (by omega) rfl rfl h (by rw [e1]; rfl) (by rw [e3, e]; rfl)
    simp only [List.take_succ_cons, List.take_zero, List.drop_succ_cons, List.drop_zero, putOps, Act.put, List.setIfInBounds_toArray, List.set_cons_zero, List.set_cons_succ, e1, e3]
    have hsz := B3.out.size
    have h1 := hs1.lt
    have h3 := hs3.lt
    have HS1 := Lib.hid hs1
    have HS3 := Lib.hid hs3
    have B4 := Lib.hid (B3.out.on hB)
    clear hv hap hs1 hs3 hB e1 e3
    go_wp2_with fail
    go_ret
    refine ⟨w4.heap.size, h, o, by have := B4.out.size; omega, by omega, by omega, rfl, ⟨Blk.new w4 49 [.pointer (some ⟨h, 0, none⟩), .pointer (some ⟨o, 0, none⟩)] _ rfl, by rw [List.append_nil]; exact HS1.out.alloc _, HS3.out.alloc _, hne, by omega, by omega⟩, B4.out.alloc B4.out.size _⟩
end Go.Proofs.YtllhljhbnopafaaDoor

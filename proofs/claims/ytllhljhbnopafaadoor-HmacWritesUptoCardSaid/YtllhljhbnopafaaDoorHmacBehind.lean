/- A key's block, exclusive-ored and written to a Hash; and the block itself: contracts of the program's two helpers. Own work. -/
import Derived.Test.YtllhljhbnopafaaDoorHmacMath
import Derived.Test.YtllhljhbnopafaaDoorShaTwo
namespace Go.Proofs.YtllhljhbnopafaaDoor
open Go.ChangeShapes Go.WideShapes Go.ChangeAt Go.RowKit
open SM
/-- Of 64 bytes the first n exclusive-ored with x. -/
def xk (K : List Nat) (x n : Nat) : List Nat := (List.range 64).map fun i => if i < n then gb K i ^^^ x else gb K i
theorem xk_len (K : List Nat) (x n : Nat) : (xk K x n).length = 64 := by simp [xk]
theorem xk_get (K : List Nat) (x n k : Nat) (hk : k < 64) : gb (xk K x n) k = if k < n then gb K k ^^^ x else gb K k := by
  unfold xk; rw [gb_map, if_pos hk]
theorem xk_byte {K : List Nat} (hK : ∀ k, gb K k < 256) {x : Nat} (hx : x < 256) (n k : Nat) : gb (xk K x n) k < 256 := by
  unfold xk; rw [gb_map]
  split
  · split
    · exact Nat.xor_lt_two_pow (n := 8) (hK k) hx
    · exact hK k
  · omega
theorem xk_zero {K : List Nat} (hK : K.length = 64) (x : Nat) : xk K x 0 = K :=
  bytes_ext (n := 64) (xk_len _ _ _) hK fun k hk => by rw [xk_get _ _ _ _ hk, if_neg (by omega)]
theorem xk_step (K : List Nat) (x k : Nat) (hk : k < 64) : (xk K x k).set k (gb K k ^^^ x) = xk K x (k + 1) :=
  bytes_ext (n := 64) (by rw [List.length_set, xk_len]) (xk_len _ _ _) fun j hj => by
    rw [gb_set _ _ _ _ (by rw [xk_len]; exact hk), xk_get _ _ _ _ hj, xk_get _ _ _ _ hj]
    by_cases e : k = j
    · subst e; rw [if_pos rfl, if_pos (by omega)]
    · rw [if_neg e]
      by_cases h : j < k
      · rw [if_pos h, if_pos (by omega)]
      · rw [if_neg h, if_neg (by omega)]
theorem xk_all (K : List Nat) (x : Nat) : xk K x 64 = (List.range 64).map fun i => gb K i ^^^ x := by
  unfold xk
  apply List.map_congr_left
  intro i hi
  rw [if_pos (by simpa using hi)]
set_option maxRecDepth 100000 in
set_option maxHeartbeats 1000000 in
theorem behind_any (K : List Nat) (hK : Bytes 64 K) (x : Nat) (hx : x < 256) (w : World) (ht : TabP w) :
    Calls Tryd.prog 21 #[.agg (row8 K).toArray, .int .u8 (x : Int)] w fun e w' => ∃ h, w.heap.size < h ∧ e = .returned (.pointer (some ⟨h, 0, none⟩)) ∧ Hs w' h (xk K x 64) ∧ Below w.heap.size w w' := by
  have HT := Lib.hid ht
  have HK := Lib.hid hK
  have b0 := Blk.new w 44 (row8 K) _ rfl
  have B0 := Lib.hid b0
  have BB := Lib.hid ((Below.refl w.heap.size w).alloc (Nat.le_refl _) (.cells (row8 K).toArray 44))
  clear ht hK b0
  go_enter Tryd.func21, Tryd.ntmps21
  go_wp2_with fail
  go_loopw [7] (fun i wr => ∃ k : Nat, k ≤ 64 ∧ i = .int .i64 (k : Int) ∧ Blk wr w.heap.size 44 (row8 (xk K x k)) ∧ Below w.heap.size w wr) (fun i _ => 64 - (intOf i).toNat)
  case atStart => exact ⟨0, Nat.zero_le _, rfl, by rw [xk_zero HK.out.1]; exact B0.out, BB.out⟩
  case round =>
    clear B0 BB
    obtain ⟨k, hk, rfl, hb, bb⟩ := hrel
    by_cases hlt : k < 64
    · have hg : gb (xk K x k) k = gb K k := by rw [xk_get _ _ _ _ hlt, if_neg (by omega)]
      have hc := hb.cell k _ (row8_val _ k (by rw [xk_len]; exact hlt))
      rw [hg] at hc
      have hf := hb.free k
      have hxr := u8_xor_nat (gb K k) x (HK.out.2 k) hx
      have BK := Lib.hid hb
      have BB := Lib.hid bb
      clear hb bb hg
      go_wp2_with fail
      exact ⟨⟨k + 1, by omega, by go_num, by rw [← xk_step _ _ _ hlt, ← row8_set]; exact BK.out.set k _, BB.out.setCell (Nat.le_refl _) _⟩, by simp [intOf]; omega⟩
    · obtain rfl : k = 64 := by omega
      have BK := Lib.hid hb
      have BB := Lib.hid bb
      clear hb bb
      go_wp2_with (first
        | (go_at_call 25; refine (new_ex _).mono ?_; rintro e w2 ⟨h, hh, rfl, h2, b2⟩; have HH := Lib.hid (show w.heap.size < h by have := BK.out.lt; omega); have B2 := Lib.hid (BB.out.on b2); have K2 := Lib.hid (BK.out.below b2 BK.out.lt); have W2 := Lib.hid (write_any h [] (xk K x 64) (.slice (some ⟨w.heap.size, 0, none⟩) 64 64) w2 (by have := blk_rd K2.out (xk_byte HK.out.2 hx 64) (n := 64) (cap := 64) (by rw [xk_len]; omega) (by omega) (by rw [xk_len]; omega); rwa [List.take_of_length_le (by rw [xk_len]; omega)] at this) (fun _ q => by have e : w.heap.size = h := Option.some.inj q; have := HH.out; omega) h2 (HT.out.below B2.out) (by have := HT.out.lt; have := HH.out; omega) (by rw [xk_len]; simp)); clear h2 b2 hh)
        | (go_at_call 22; (with_reducible refine W2.out.mono ?_); rintro e w3 ⟨rfl, h3, g3⟩; rw [List.nil_append] at h3; have H3 := Lib.hid h3; have B3 := Lib.hid (B2.out.grown g3 B2.out.size (fun j hj => by have := Option.some.inj hj; have := HH.out; omega)); clear h3 g3))
      go_ret
      exact ⟨_, HH.out, rfl, H3.out, B3.out⟩
end Go.Proofs.YtllhljhbnopafaaDoor

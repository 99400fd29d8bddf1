/- What stands behind the bytes of a text is written: contract. Own work. -/
import Derived.Test.YtllhljhbnopafaaDoorShaMake
import Derived.Test.YtllhljhbnopafaaDoorPut64
import Derived.Test.YtllhljhbnopafaaDoorFactsTurn
namespace Go.Proofs.YtllhljhbnopafaaDoor
open Go.ChangeShapes Go.WideShapes Go.ChangeAt Go.RowKit
open SM
theorem blk_rd {w : World} {g n cap : Nat} {t : TypeId} {l : List Nat} (h : Blk w g t (row8 l)) (hb : ∀ k, gb l k < 256) (hn : n ≤ l.length) (hc : n ≤ cap) (hf : l.length ≤ 140737488351232) : Rd w (.slice (some ⟨g, 0, none⟩) n cap) (l.take n) := by
  have e1 : (l.take n).length = n := by rw [List.length_take]; omega
  refine ⟨gb_take_byte l n hb, by rw [e1]; omega, .inr ⟨_, cap, by rw [e1], by rw [e1]; exact hc, fun j hj => ?_⟩⟩
  rw [gb_take l n j (by omega), Addr.add_mid, Nat.zero_add]
  exact h.cell j _ (row8_val l j (by omega))
/-- The tail of a text with z noughts ahead of its length is laid. -/
def tail0 : List Nat := (List.replicate 72 0).set 0 128
def tail1 (z n : Nat) : List Nat := splice tail0 (1 + z) (be (8 * n) 8)
theorem tail0_b : Bytes 72 tail0 := bytes_set (bytes_zero 72) 0 128 (by omega) (by omega)
theorem tail1_b (z n : Nat) (hz : z ≤ 63) : Bytes 72 (tail1 z n) := by
  refine ⟨by unfold tail1; rw [splice_len _ _ _ (by rw [tail0_b.1, be_len]; omega)]; exact tail0_b.1, ?_⟩
  unfold tail1 splice
  exact gb_app _ _ (gb_take_byte _ _ tail0_b.2) (gb_app _ _ (be_byte _ _) (fun k => by rw [gb_drop]; exact tail0_b.2 _))
theorem tail0_take (z : Nat) (hz : z ≤ 63) : tail0.take (1 + z) = 128 :: List.replicate z 0 := by
  unfold tail0
  rw [show (List.replicate 72 0).set 0 128 = 128 :: List.replicate 71 (0 : Nat) from rfl, Nat.add_comm, List.take_succ_cons, List.take_replicate, Nat.min_eq_left (by omega)]
theorem tail1_take (z n : Nat) (hz : z ≤ 63) : (tail1 z n).take (1 + z + 8) = 128 :: List.replicate z 0 ++ be (8 * n) 8 := by
  have := splice_take tail0 (be (8 * n) 8) (1 + z) (by rw [tail0_b.1, be_len]; omega)
  rw [be_len] at this
  unfold tail1
  rw [this, tail0_take z hz]
theorem text_eq (L : List Nat) : L ++ (128 :: List.replicate (zeros L.length) 0 ++ be (8 * L.length) 8) = text L := by
  unfold text
  rw [List.append_assoc]; rfl
theorem zero72 (w : World) : (zeroValue 68).run Tryd.prog w = .ok (.agg (row8 (List.replicate 72 0)).toArray) w := by kernel_rfl
set_option maxRecDepth 100000 in
set_option maxHeartbeats 1000000 in
theorem end_any (g : Nat) (L : List Nat) (w : World) (hs : Hs w g L) (ht : TabP w) (hgk : g ≠ 1) (hn : L.length ≤ 1152921504606846976) :
    Calls Tryd.prog 29 #[.pointer (some ⟨g, 0, none⟩)] w fun e w' => (∃ v, e = .returned v) ∧ Hs w' g (text L) ∧ w.grownBy w' (some g) := by
  have hlt := hs.lt
  obtain ⟨st, o, hv, hb⟩ := hs
  obtain ⟨N, hN⟩ : ∃ N, N = L.length := ⟨_, rfl⟩
  rw [← hN] at hb hn
  have HB := Lib.hid hb
  have HH := Lib.hid hv
  have HT := Lib.hid ht
  have HN := Lib.hid hN
  have HLT := Lib.hid hlt
  clear hb hv ht hN
  obtain ⟨Z0, hZ0⟩ : ∃ Z0, Z0 = List.replicate 72 0 := ⟨_, rfl⟩
  have hz : ∀ w, (zeroValue 68).run Tryd.prog w = .ok (.agg (row8 Z0).toArray) w := by rw [hZ0]; exact zero72
  have hc0 := (Blk.new w 68 (row8 Z0) _ rfl).cell 0 (.int .u8 0) (by rw [hZ0]; rfl)
  have hf0 := (Blk.new w 68 (row8 Z0) _ rfl).free 0
  have b0 := Blk.new w 68 ((row8 Z0).set 0 (.int .u8 128)) _ rfl
  have b0' : Blk (w.alloc (.cells ((row8 Z0).set 0 (.int .u8 128)).toArray 68)) w.heap.size 68 (row8 tail0) := by
    have e : (row8 Z0).set 0 (.int .u8 128) = row8 tail0 := by rw [hZ0]; rfl
    rw [e] at b0 ⊢; exact b0
  have g0 := HB.out.alloc (.cells ((row8 Z0).set 0 (.int .u8 128)).toArray 68)
  have bb := (Below.refl w.heap.size w).alloc (Nat.le_refl _) (.cells ((row8 Z0).set 0 (.int .u8 128)).toArray 68)
  have hcs := g0.cell 72 _ (hc_size HH.out.words.1 HH.out.open_.1 _)
  have B0 := Lib.hid b0'
  have G0 := Lib.hid g0
  have BB := Lib.hid bb
  clear b0 b0' g0 bb hZ0
  go_enter Tryd.func29, Tryd.ntmps29
  go_upto_region 4 with (fail)
  generalize w.alloc (.cells ((row8 Z0).set 0 (.int .u8 128)).toArray 68) = w1 at *
  clear hz hc0 hf0 hcs
  obtain ⟨z, hz⟩ : ∃ z, z = zeros N := ⟨_, rfl⟩
  have hz1 : ((120 - ((N : Int) + 1) % 64) % 64) = (z : Int) := by rw [hz]; unfold zeros; omega
  have hz2 : z ≤ 63 := by rw [hz]; have := zeros_le N; omega
  rw [hz1]
  have HZ := Lib.hid hz
  clear hz hz1
  obtain ⟨tb, htb⟩ : ∃ tb, tb = w.heap.size := ⟨_, rfl⟩
  rw [← htb] at hlt B0 ⊢
  have HTB := Lib.hid htb
  clear htb
  have L73 := Lib.hid (hc_len HH.out.words.1 HH.out.open_.1 N)
  have HC := Lib.hid (show splice (row8 tail0) (1 + z) (row8 ((be (8 * N) 8).take 8)) = row8 (tail1 z N) by
    rw [List.take_of_length_le (by rw [be_len]; exact Nat.le_refl _)]; unfold tail1; rw [row8_splice])
  have hI : ∀ (W W' : World) (cs : List Value), (Blk W tb 68 cs ∧ Blk W g 60 (hc st o N) ∧ Below w.heap.size w W) → Below W.heap.size W W' → (Blk W' tb 68 cs ∧ Blk W' g 60 (hc st o N) ∧ Below w.heap.size w W') :=
    fun W W' cs h hB => ⟨h.1.below hB h.1.lt, h.2.1.below hB h.2.1.lt, h.2.2.on hB⟩
  have HI := Lib.hid hI
  clear hI
  refine wp_region_turn (by kernel_rfl) (by kernel_rfl) [.val (.int .i64 (z : Int)), .val (.int .i64 (1 + (z : Int))), .val (.int .i64 (z : Int)), .val (.int .i64 (1 + (z : Int))), .val (.slice (some ⟨tb, 1 + z, none⟩) (72 - (1 + z)) (72 - (1 + z))), .val (.pointer (some ⟨g, 0, none⟩)), .val (.pointer (some ⟨g, 0, none⟩)), .val (.pointer (some ⟨g, 72, none⟩)), .val (.int .i64 (N : Int)), .val (.int .u64 (N : Int)), .val (.int .u64 ((8 * N : Nat) : Int)), .rd (be (8 * N) 8), .val (.int .i64 8), .val (.int .i64 (1 + (z : Int) + 8)), .val (.int .i64 (1 + (z : Int) + 8))] tb 12 (by decide) (fun b W => Blk W tb 68 (row8 (if b then tail1 z N else tail0)) ∧ Blk W g 60 (hc st o N) ∧ Below w.heap.size w W) ⟨B0.out.drew, G0.out.drew, BB.out.drew⟩ ?_ ?_
  · refine ⟨?_, ?_, ?_, ?_, ?_, ?_, ?_, ?_, ?_, ?_, ?_, ?_, ?_, ?_, ?_, trivial⟩
    · intro a W b hF hG hW hm hd
      exact turns_val rfl (ex_move rfl (hF 4 (by decide +kernel))) (by simpa using hW) rfl
    · intro a W b hF hG hW hm hd
      have e16 : a.eval (.tmp 16) = .int .i64 (z : Int) := hd 0 (by decide +kernel)
      exact turns_val rfl (ex_binOp rfl rfl e16 (by go_simp) (by go_simp; exact wraps_i64' _ (by omega) (by omega))) (by simpa using hW) rfl
    · intro a W b hF hG hW hm hd
      exact turns_val rfl (ex_move rfl (hF 4 (by decide +kernel))) (by simpa using hW) rfl
    · intro a W b hF hG hW hm hd
      have e18 : a.eval (.tmp 18) = .int .i64 (z : Int) := hd 2 (by decide +kernel)
      exact turns_val rfl (ex_binOp rfl rfl e18 (by go_simp) (by go_simp; exact wraps_i64' _ (by omega) (by omega))) (by simpa using hW) rfl
    · intro a W b hF hG hW hm hd
      have e19 : a.eval (.tmp 19) = .int .i64 (1 + (z : Int)) := hd 3 (by decide +kernel)
      have e2 : a.eval (.tmp 2) = .pointer (some ⟨tb, 0, none⟩) := hF 2 (by decide +kernel)
      have q0 : (0 : Int) ≤ 1 + (z : Int) := by omega
      have q1 : 1 + (z : Int) ≤ 72 := by omega
      have q2 : (1 + (z : Int)).toNat = 1 + z := by omega
      have q3 : ¬ (72 = 1 + z) := by omega
      have f19 : a.tmps[19]?.getD undef = .int .i64 (1 + (z : Int)) := by rw [← Array.getD_eq_getD_getElem?]; exact e19
      exact turns_val rfl (v := .slice (some ⟨tb, 1 + z, none⟩) (72 - (1 + z)) (72 - (1 + z))) (by unfold execOp; simp only [e2]; go_simp) (by simpa using hW) rfl
    · intro a W b hF hG hW hm hd
      exact turns_val rfl (ex_move rfl (hF 0 (by decide +kernel))) (by simpa using hW) rfl
    · intro a W b hF hG hW hm hd
      have e21 : a.eval (.tmp 21) = .pointer (some ⟨g, 0, none⟩) := hd 5 (by decide +kernel)
      exact turns_val rfl (by unfold execOp; simp only [e21]; go_simp) (by simpa using hW) rfl
    · intro a W b hF hG hW hm hd
      have e22 : a.eval (.tmp 22) = .pointer (some ⟨g, 0, none⟩) := hd 6 (by decide +kernel)
      exact turns_val rfl (by unfold execOp; simp only [e22]; go_simp) (by simpa using hW) rfl
    · intro a W b hF hG hW hm hd
      have e23 : a.eval (.tmp 23) = .pointer (some ⟨g, 72, none⟩) := hd 7 (by decide +kernel)
      have hcs := hW.2.1.cell 72 _ (hc_size HH.out.words.1 HH.out.open_.1 _)
      exact turns_val rfl (by unfold execOp; simp only [e23]; go_simp) (by simpa using hW) rfl
    · intro a W b hF hG hW hm hd
      have e24 : a.eval (.tmp 24) = .int .i64 (N : Int) := hd 8 (by decide +kernel)
      exact turns_val rfl (ex_convert rfl e24 (by go_simp; rw [IntKind.wrap_u64]; omega)) (by simpa using hW) rfl
    · intro a W b hF hG hW hm hd
      have e25 : a.eval (.tmp 25) = .int .u64 (N : Int) := hd 9 (by decide +kernel)
      exact turns_val rfl (ex_binOp rfl rfl e25 (by go_simp) (by go_simp; rw [IntKind.wrap_u64]; omega)) (by simpa using hW) rfl
    · intro a W b hF hG hW hm hd
      have e26 : a.eval (.tmp 26) = .int .u64 ((8 * N : Nat) : Int) := hd 10 (by decide +kernel)
      exact turns_call rfl (ex_call (vs := #[.int .u64 ((8 * N : Nat) : Int)]) rfl (by simp only [List.map_toArray, List.map_cons, List.map_nil, e26]) (by go_simp)) ((put64_any (8 * N) (by omega) W).mono fun e w' h => by
        obtain ⟨v, rfl, ho, hB⟩ := h
        refine ⟨v, rfl, ⟨ho.rd, fun q => ?_⟩, hB, by simpa using HI.out W w' _ hW hB⟩
        have := (ho.from _ q).1
        have := hW.1.lt
        omega)
    · intro a W b hF hG hW hm hd
      obtain rfl := hm rfl
      have e20 : a.eval (.tmp 20) = .slice (some ⟨tb, 1 + z, none⟩) (72 - (1 + z)) (72 - (1 + z)) := hd 4 (by decide +kernel)
      have e27 : Rd W (a.eval (.tmp 27)) (be (8 * N) 8) ∧ _ := hd 11 (by decide +kernel)
      refine ⟨rfl, fun K hK => wp_copy_blk (.tmp 20) (.tmp 27) 22 22 rfl Tryd.underlying22 tb (1 + z) (72 - (1 + z)) (72 - (1 + z)) 68 (row8 tail0) hW.1 (some ⟨tb, 1 + z, none⟩) e20 _ rfl (be (8 * N) 8) e27.1 8 (by rw [be_len]; omega) (fun _ => rfl) (by rw [row8_len, tail0_b.1]; omega) fun w' hb hg => hK _ w' hg ⟨?_, ?_, ?_⟩ rfl⟩
      · rw [HC.out] at hb; exact hb
      · exact hW.2.1.grown hg (fun q => by have := HLT.out; have := HTB.out; have := Option.some.inj q; omega)
      · exact hW.2.2.grown hg hW.2.2.size (fun k hk => by have := HTB.out; have := Option.some.inj hk; omega)
    · intro a W b hF hG hW hm hd
      have e17 : a.eval (.tmp 17) = .int .i64 (1 + (z : Int)) := hd 1 (by decide +kernel)
      have e28 : a.eval (.tmp 28) = .int .i64 8 := hd 12 (by decide +kernel)
      exact turns_val rfl (ex_binOp rfl e17 e28 (by go_simp) (by go_simp; exact wraps_i64' _ (by omega) (by omega))) (by simpa using hW) rfl
    · intro a W b hF hG hW hm hd
      have e29 : a.eval (.tmp 29) = .int .i64 (1 + (z : Int) + 8) := hd 13 (by decide +kernel)
      exact turns_val rfl (ex_assign rfl e29) (by simpa using hW) rfl
  · intro vs W hG hW hv
    replace hW : Blk W tb 68 (row8 (tail1 z N)) ∧ Blk W g 60 (hc st o N) ∧ Below w.heap.size w W := hW
    have e5 : vs 14 = .int .i64 (1 + (z : Int) + 8) := hv 14 (by decide)
    simp only [putOps, Act.put, List.setIfInBounds_toArray, List.set_cons_zero, List.set_cons_succ, e5]
    have ht1 := tail1_b z N hz2
    have hr := blk_rd hW.1 ht1.2 (n := 1 + z + 8) (cap := 72) (by rw [ht1.1]; omega) (by omega) (by rw [ht1.1]; omega)
    rw [tail1_take z N hz2] at hr
    have hsW : Hs W g L := ⟨st, o, HH.out, by rw [← HN.out]; exact hW.2.1⟩
    have htW : TabP W := HT.out.below (hW.2.2)
    have hne : (Value.slice (some ⟨tb, 0, none⟩) (1 + z + 8) 72).ownBlock ≠ some g := fun q => by
      have := HLT.out; have := HTB.out; have : tb = g := Option.some.inj q; omega
    have hlen : (128 :: List.replicate z 0 ++ be (8 * N) 8).length ≤ 72 := by rw [List.length_append, be_len]; simp; omega
    have hw := write_any g L _ _ W hr (fun _ => hne) hsW htW hgk (by rw [← HN.out]; omega)
    have HWR := Lib.hid hw
    have HBW := Lib.hid hW.2.2
    have q1 : 1 + (z : Int) + 8 ≤ 72 := by omega
    have q0 : (0 : Int) ≤ 1 + (z : Int) + 8 := by omega
    have q2 : (1 + (z : Int) + 8).toNat = 1 + z + 8 := by omega
    clear hv hW hr hsW htW hne hw hlen ht1 hG e5
    go_wp2_with (go_at_call 22; refine HWR.out.mono ?_; rintro e w' ⟨rfl, h1, h2⟩; have H1 := Lib.hid h1; have H2 := Lib.hid h2; clear h1 h2)
    have h1 := H1.out
    rw [HN.out, HZ.out, HN.out, text_eq] at h1
    have h2 : w.grownBy w' (some g) := only_trans (grown_of_below HBW.out _) H2.out
    go_end0
    exact ⟨⟨_, rfl⟩, h1, h2⟩
end Go.Proofs.YtllhljhbnopafaaDoor

/- Bytes written to a Hash: contract. Own work. -/
import Derived.Test.YtllhljhbnopafaaDoorShaHash
import Derived.Test.YtllhljhbnopafaaDoorFactsTail
namespace Go.Proofs.YtllhljhbnopafaaDoor
open Go.ChangeShapes Go.WideShapes Go.ChangeAt Go.RowKit
open SM
theorem put_none (a : Act) (v : Value) : a.put none v = a := rfl
theorem write_nil (v : Value) (w : World) : Calls Tryd.prog 22 #[.pointer none, v] w fun e w' => e = .returned (.int .i64 1) ∧ w' = w := by
  go_enter Tryd.func22, Tryd.ntmps22
  go_wp2_with fail
  go_ret
  exact ⟨rfl, rfl⟩
theorem Rd.take3 {w : World} {ao : Option Addr} {n cap : Nat} {l : List Nat} (h : Rd w (.slice ao n cap) l) (k : Nat) (h0 : 0 < k) (hk : k ≤ l.length) : Rd w (.slice ao k k) (l.take k) := by
  obtain ⟨ad, rfl, _⟩ := h.at_ 0 (by omega)
  have e1 : (l.take k).length = k := by rw [List.length_take]; omega
  refine ⟨gb_take_byte l k h.byte, by rw [e1]; have := h.fits; omega, .inr ⟨ad, k, by rw [e1], by rw [e1]; exact Nat.le_refl _, fun j hj => ?_⟩⟩
  rw [gb_take l k j (by omega)]
  obtain ⟨ad', e, hc⟩ := h.at_ j (by omega)
  cases e
  exact hc
theorem take_app_drop (m : List Nat) (k n : Nat) : m.take k ++ (m.drop k).take n = m.take (k + n) := by
  rw [List.take_add]
set_option maxRecDepth 100000 in
set_option maxHeartbeats 1000000 in
theorem write_any (g : Nat) (L m : List Nat) (v : Value) (w : World) (hv : Rd w v m) (hne : 0 < m.length → v.ownBlock ≠ some g) (hs : Hs w g L) (ht : TabP w) (hgk : g ≠ 1) (hn : L.length + m.length ≤ 4611686018427387904) :
    Calls Tryd.prog 22 #[.pointer (some ⟨g, 0, none⟩), v] w fun e w' => e = .returned (.int .i64 0) ∧ Hs w' g (L ++ m) ∧ w.grownBy w' (some g) := by
  have HT := Lib.hid ht
  have HV := Lib.hid hv
  have HS := Lib.hid hs
  have HNE := Lib.hid hne
  clear ht hv hs hne
  go_enter Tryd.func22, Tryd.ntmps22
  go_wp2_with fail
  go_loopw [1] (fun x wr => ∃ k : Nat, k ≤ m.length ∧ Rd wr x (m.drop k) ∧ (k < m.length → x.ownBlock ≠ some g) ∧ Hs wr g (L ++ m.take k) ∧ w.grownBy wr (some g)) (fun x _ => vlen x)
  case atStart => exact ⟨0, Nat.zero_le _, by simpa using HV.out, HNE.out, by simpa using HS.out, World.grownBy.refl w _⟩
  case round =>
    clear HV HNE HS
    obtain ⟨k, hk, hr, hne, hs, hg⟩ := hrel
    have hvl : (m.drop k).length = m.length - k := List.length_drop
    obtain ⟨ao, cap, rfl, hcap⟩ := hr.shape
    rw [hvl] at hr hcap ⊢
    by_cases hlt : k < m.length
    · replace hne := hne hlt
      obtain ⟨st, o, hv, hb⟩ := hs
      obtain ⟨P, hP⟩ : ∃ P, P = L ++ m.take k := ⟨_, rfl⟩
      rw [← hP] at hv hb
      have hPl : P.length = L.length + k := by rw [hP, List.length_append, List.length_take]; omega
      have hcs := hb.cell 72 _ (hc_size hv.words.1 hv.open_.1 _)
      have hfree := hb.free 72
      obtain ⟨N, hN⟩ : ∃ N, N = P.length := ⟨_, rfl⟩
      have hN1 : N ≤ 4611686018427387904 := by omega
      rw [← hN] at hcs
      obtain ⟨r, hr0⟩ : ∃ r, r = m.length - k := ⟨_, rfl⟩
      rw [← hr0] at hr hcap ⊢
      have hr1 : 0 < r := by omega
      have hr2 : r ≤ 4611686018427387904 := by omega
      have HR := Lib.hid hr
      have HNE := Lib.hid (show (Value.slice ao r cap).ownBlock ≠ some g from fun q => hne ((owner_len (m := r) (d := cap)).trans q))
      have HB := Lib.hid hb
      have HP := Lib.hid hP
      have HH := Lib.hid hv
      have HG := Lib.hid hg
      have HPL := Lib.hid hPl
      have HR0 := Lib.hid hr0
      have HNN := Lib.hid hN
      have HK := Lib.hid hk
      have HLT := Lib.hid hlt
      clear hr hne hb hP hv hg hPl hvl hr0 hN hk hlt
      go_upto_region 7 with (fail)
      obtain ⟨f, hf⟩ : ∃ f, f = N % 64 := ⟨_, rfl⟩
      obtain ⟨n, hnn⟩ : ∃ n, n = min r (64 - N % 64) := ⟨_, rfl⟩
      have e1 : (N : Int) % 64 = (f : Int) := by omega
      have e2 : (if 64 - (N : Int) % 64 < (r : Int) then 64 - (N : Int) % 64 else (r : Int)) = (n : Int) := by split <;> omega
      rw [e2, e1]
      have hf1 : f < 64 := by omega
      have hf2 : (f : Int) ≤ 64 := by omega
      have hf3 : ¬ ((64 : Nat) = f) := by omega
      have hn1 : 0 < n := by omega
      have hn2 : f + n ≤ 64 := by omega
      have hn3 : n ≤ r := by omega
      have hn4 : (n : Int) ≤ (r : Int) := by omega
      have hn5 : (n : Int) ≤ (cap : Int) := by omega
      have hpl : ((m.drop k).take n).length = n := by rw [List.length_take, List.length_drop, ← HR0.out]; omega
      have hpp : ((m.drop k).take n).take n = (m.drop k).take n := by rw [List.take_take, Nat.min_self]
      have hrd : Rd wr (.slice ao n n) ((m.drop k).take n) := HR.out.take3 n hn1 (by rw [List.length_drop, ← HR0.out]; exact hn3)
      have hmin : n = min ((m.drop k).take n).length (64 - f) := by rw [hpl]; omega
      have hcell : ∀ W, Blk W g 60 (splice (hc st o P.length) (8 + f) (row8 (((m.drop k).take n).take n))) → Blk W g 60 (hc st (splice o f ((m.drop k).take n)) P.length) := fun W hW => by
        rw [hpp, hc_copy HH.out.words.1 _ _ _ (by rw [hpl, HH.out.open_.1]; exact hn2)] at hW; exact hW
      have hso : Bytes 64 (splice o f ((m.drop k).take n)) := splice_bytes HH.out.open_ f hrd.byte (by rw [hpl]; exact hn2)
      have HCELL := Lib.hid hcell
      have HRD := Lib.hid hrd
      have HMIN := Lib.hid hmin
      have HSO := Lib.hid hso
      have HFIT := Lib.hid (show (8 + f) + n ≤ (hc st o P.length).length by rw [hc_len HH.out.words.1 HH.out.open_.1]; omega)
      have HF := Lib.hid hf
      have HN0 := Lib.hid hnn
      have HPL2 := Lib.hid hpl
      clear hcell hrd hmin hpl hpp hso hf hnn e1 e2
      have hnx : (n : Int).toNat = n := Int.toNat_natCast n
      simp only [hnx]
      by_cases hfull : f + n = 64
      · have hq : ((f : Int) + (n : Int) == 64) = true := by simp; omega
        have hq2 : (f : Int) + (n : Int) = 64 := by omega
        go_upto_region 11 with ((with_reducible show wpList _ _ _ _ _ _); refine wpList_copy_blk rfl (.tmp 31) (.tmp 32) 22 22 rfl Tryd.underlying22 g (8 + f) (64 - f) (64 - f) 60 (hc st o P.length) HB.out (some ⟨g, 8 + f, none⟩) rfl (.slice ao n n) rfl _ HRD.out n HMIN.out (fun _ => rfl) HFIT.out ?_; intro w2 hb2 hg2; have b2 := HCELL.out _ hb2; have c2 := b2.cell 72 _ (hc_size HH.out.words.1 HSO.out.1 _); have f2 := b2.free 72; rw [← HNN.out] at c2; have B2 := Lib.hid b2; have G2 := Lib.hid (only_trans HG.out hg2); have R2 := Lib.hid (HR.out.grown hg2 (.inr HNE.out)); clear hb2 hg2 b2)
        have b3 := B2.out.set 72 (.int .i64 ((N : Int) + (n : Int)))
        rw [show ((N : Int) + (n : Int)) = ((N + n : Nat) : Int) by omega, hc_setSize HH.out.words.1 HSO.out.1] at b3
        have g3 := only_set G2.out (p := ⟨g, 72, none⟩) (.inl rfl) (.int .i64 ((N : Int) + (n : Int)))
        have r3 : Rd (w2.setCell ⟨g, 72, none⟩ (.int .i64 ((N : Int) + (n : Int)))) (.slice ao r cap) (m.drop k) := R2.out.setCell _ _ HNE.out
        have r4 := r3.drop n (by rw [List.length_drop, ← HR0.out]; exact hn3)
        rw [List.length_drop, ← HR0.out, List.drop_drop] at r4
        obtain ⟨w3, hw3⟩ : ∃ w3, w3 = w2.setCell ⟨g, 72, none⟩ (.int .i64 ((N + n : Nat) : Int)) := ⟨_, rfl⟩
        rw [show ((N : Int) + (n : Int)) = ((N + n : Nat) : Int) by omega] at g3 r3 r4 ⊢
        rw [← hw3] at b3 g3 r3 r4 ⊢
        obtain ⟨o', ho'⟩ : ∃ o', o' = splice o f ((m.drop k).take n) := ⟨_, rfl⟩
        have HSO' := HSO.out
        rw [← ho'] at b3 HSO'
        have hvF := HH.out.full (p := (m.drop k).take n) (by rw [HPL2.out, ← HNN.out, ← HF.out]; exact hfull)
        rw [← HNN.out, ← HF.out, ← ho', HP.out, List.append_assoc, take_app_drop m k n] at hvF
        have hbw := blk_w (b := o') HH.out.words
        obtain ⟨st', hst'⟩ : ∃ st', st' = blk st o' := ⟨_, rfl⟩
        rw [← hst'] at hvF hbw
        have HST := Lib.hid hst'
        have HO' := Lib.hid ho'
        have B3 := Lib.hid b3
        have G3 := Lib.hid g3
        have R4 := Lib.hid r4
        have HS3 := Lib.hid HSO'
        have HVF := Lib.hid hvF
        have HBW := Lib.hid hbw
        have HT3 := Lib.hid (HT.out.grown g3 hgk)
        have HNE4 := Lib.hid (owner_cut (cap := cap) (k := n) (n' := r - n) (c' := cap - n) HNE.out)
        clear b3 g3 r3 r4 hw3 ho' HSO' hvF hbw hq hq2 hst'
        have hvx : vlen (.slice (if cap = n then ao else ao.map (·.add n)) (r - n) (cap - n)) = r - n := rfl
        generalize Value.slice (if cap = n then ao else ao.map (·.add n)) (r - n) (cap - n) = x1 at *
        have HVX := Lib.hid hvx
        clear hvx
        have L8 := Lib.hid (show (row32 st).length = 8 by rw [row32_len]; exact HH.out.words.1)
        have L8' := Lib.hid (show (row32 st').length = 8 by rw [row32_len]; exact HBW.out.1)
        have L64 := Lib.hid (show (row8 o').length = 64 by rw [row8_len]; exact HS3.out.1)
        refine wp_region_tail (by kernel_rfl) 10 (by decide) (by kernel_rfl) (by kernel_rfl) (by kernel_rfl) [.val (.pointer (some ⟨g, 0, none⟩)), .val (.pointer (some ⟨g, 0, none⟩)), .val (.pointer (some ⟨g, 0, none⟩)), .val (.pointer (some ⟨g, 0, none⟩)), .val (.agg (row32 st).toArray), .val (.pointer (some ⟨g, 0, none⟩)), .val (.pointer (some ⟨g, 0, none⟩)), .val (.pointer (some ⟨g, 8, none⟩)), .val (.agg (row8 o').toArray), .val (.agg (row32 st').toArray)] ?_ ?_
        · refine ⟨?_, ?_, ?_, ?_, ?_, ?_, ?_, ?_, ?_, ?_, trivial⟩
          · intro a W hF hB hd
            exact does_val rfl (ex_move rfl (hF 0 (by decide +kernel))) rfl
          · intro a W hF hB hd
            exact does_val rfl (ex_move rfl (hF 0 (by decide +kernel))) rfl
          · intro a W hF hB hd
            have e50 : a.eval (.tmp 50) = .pointer (some ⟨g, 0, none⟩) := hd 1 (by decide +kernel)
            exact does_val rfl (by unfold execOp; simp only [e50]; go_simp) rfl
          · intro a W hF hB hd
            have e51 : a.eval (.tmp 51) = .pointer (some ⟨g, 0, none⟩) := hd 2 (by decide +kernel)
            exact does_val rfl (by unfold execOp; simp only [e51]; go_simp) rfl
          · intro a W hF hB hd
            have e52 : a.eval (.tmp 52) = .pointer (some ⟨g, 0, none⟩) := hd 3 (by decide +kernel)
            exact ⟨rfl, fun K hK => wp_load_mid 57 (.tmp 52) rfl g 0 e52 (row32 st) _ (range_part (B3.out.below hB B3.out.lt) 0 _ (fun j v => hc_state HH.out.words.1 _ j v)) Tryd.underlying57 rfl (by rw [L8.out]; exact infoSt) (hK _ _ (Below.refl _ _) rfl)⟩
          · intro a W hF hB hd
            exact does_val rfl (ex_move rfl (hF 0 (by decide +kernel))) rfl
          · intro a W hF hB hd
            have e54 : a.eval (.tmp 54) = .pointer (some ⟨g, 0, none⟩) := hd 5 (by decide +kernel)
            exact does_val rfl (by unfold execOp; simp only [e54]; go_simp) rfl
          · intro a W hF hB hd
            have e55 : a.eval (.tmp 55) = .pointer (some ⟨g, 0, none⟩) := hd 6 (by decide +kernel)
            exact does_val rfl (by unfold execOp; simp only [e55]; go_simp) rfl
          · intro a W hF hB hd
            have e56 : a.eval (.tmp 56) = .pointer (some ⟨g, 8, none⟩) := hd 7 (by decide +kernel)
            exact ⟨rfl, fun K hK => wp_load_mid 58 (.tmp 56) rfl g 8 e56 (row8 o') _ (range_part (B3.out.below hB B3.out.lt) 8 _ (fun j v => hc_open HH.out.words.1 _ j v)) Tryd.underlying58 rfl (by rw [L64.out]; exact infoBlk) (hK _ _ (Below.refl _ _) rfl)⟩
          · intro a W hF hB hd
            have e53 : a.eval (.tmp 53) = .agg (row32 st).toArray := hd 4 (by decide +kernel)
            have e57 : a.eval (.tmp 57) = .agg (row8 o').toArray := hd 8 (by decide +kernel)
            exact does_call rfl (ex_call (vs := #[.agg (row32 st).toArray, .agg (row8 o').toArray]) rfl (by simp only [List.map_toArray, List.map_cons, List.map_nil, e53, e57]) (by go_simp)) ((after_any st o' HH.out.words HS3.out W (HT3.out.below hB)).mono fun e w' h => ⟨_, h.1, by rw [HST.out]; rfl, h.2⟩)
        · intro vs W hB hv
          have e0 : vs 0 = .pointer (some ⟨g, 0, none⟩) := hv 0 (by omega)
          have e9 : vs 9 = .agg (row32 st').toArray := hv 9 (by omega)
          simp only [List.take_succ_cons, List.take_zero, List.drop_succ_cons, List.drop_zero, putOps, Act.put, List.setIfInBounds_toArray, List.set_cons_zero, List.set_cons_succ, e0, e9]
          have b4 := B3.out.below hB B3.out.lt
          have g4 := only_trans G3.out (grown_of_below hB (some g))
          have r4 := R4.out.below hB
          clear hv e0 e9 hB
          have hZ := Lib.hid (hc_newState (o := o') HH.out.words.1 HBW.out.1 (N + n))
          have hZ2 := Lib.hid (hc_newOpen (o := o') (o' := List.replicate 64 0) HBW.out.1 HS3.out.1 (by simp) (N + n))
          have B4 := Lib.hid b4
          have G4 := Lib.hid g4
          have R5 := Lib.hid r4
          have LH := Lib.hid (hc_len HH.out.words.1 HS3.out.1 (N + n))
          have LH2 := Lib.hid (hc_len HBW.out.1 HS3.out.1 (N + n))
          clear b4 g4 r4
          go_upto_region 12 with (refine wpList_store_mid rfl 57 (.tmp 60) (.tmp 58) rfl g 0 (row32 st').toArray rfl rfl (there_part B4.out 0 _ (by rw [List.size_toArray, L8'.out, LH.out]; omega)) (by rw [List.size_toArray, L8'.out]; exact infoSt) (row32_one _) ?_; have b5 := setCells_mid g _ (row32 st') 0 _ _ B4.out (by rw [L8'.out, LH.out]; omega); rw [hZ.out] at b5; have B5 := Lib.hid b5; have G5 := Lib.hid (only_setCells g (row32 st') 0 _ G4.out); have R6 := Lib.hid (R5.out.grown (only_setCells g (row32 st') 0 _ (World.grownBy.refl _ _)) (.inr HNE4.out)); clear b5)
          go_wp2_with (refine wpList_store_mid rfl 58 (.tmp 64) (.tmp 62) rfl g 8 (row8 (List.replicate 64 0)).toArray rfl rfl (there_part B5.out 8 _ (by rw [List.size_toArray, row8_len, List.length_replicate, LH2.out]; omega)) (by rw [List.size_toArray, row8_len, List.length_replicate]; exact infoBlk) (row8_one _) ?_; have b6 := setCells_mid g _ (row8 (List.replicate 64 0)) 8 _ _ B5.out (by rw [row8_len, List.length_replicate, LH2.out]; omega); rw [hZ2.out] at b6; have B6 := Lib.hid b6; have G6 := Lib.hid (only_setCells g (row8 (List.replicate 64 0)) 8 _ G5.out); have R7 := Lib.hid (R6.out.grown (only_setCells g (row8 (List.replicate 64 0)) 8 _ (World.grownBy.refl _ _)) (.inr HNE4.out)); clear b6)
          simp only [put_none]
          go_roundw
          case rel =>
            refine ⟨k + n, ?_, R7.out, fun _ => HNE4.out, ⟨st', _, HVF.out, ?_⟩, G6.out⟩
            · have := HR0.out; have := HK.out; omega
            · have h1 : (L ++ m.take (k + n)).length = N + n := by
                rw [List.length_append, List.length_take]; have := HR0.out; have := HK.out; have := HPL.out; have := HNN.out; omega
              rw [h1]; exact B6.out
          case measure =>
            show vlen x1 < r
            rw [HVX.out]; omega
      · have hq : ((f : Int) + (n : Int) == 64) = false := by simp; omega
        have hq2 : ¬ ((f : Int) + (n : Int) = 64) := by omega
        go_wp2_with ((with_reducible show wpList _ _ _ _ _ _); refine wpList_copy_blk rfl (.tmp 31) (.tmp 32) 22 22 rfl Tryd.underlying22 g (8 + f) (64 - f) (64 - f) 60 (hc st o P.length) HB.out (some ⟨g, 8 + f, none⟩) rfl (.slice ao n n) rfl _ HRD.out n HMIN.out (fun _ => rfl) HFIT.out ?_; intro w2 hb2 hg2; have b2 := HCELL.out _ hb2; have c2 := b2.cell 72 _ (hc_size HH.out.words.1 HSO.out.1 _); have f2 := b2.free 72; rw [← HNN.out] at c2; have B2 := Lib.hid b2; have G2 := Lib.hid (only_trans HG.out hg2); have R2 := Lib.hid (HR.out.grown hg2 (.inr HNE.out)); clear hb2 hg2 b2)
        have hvF := HH.out.part (p := (m.drop k).take n) HRD.out.byte (by rw [HPL2.out, ← HNN.out, ← HF.out]; omega)
        rw [← HNN.out, ← HF.out, HP.out, List.append_assoc, take_app_drop m k n] at hvF
        have b3 := B2.out.set 72 (.int .i64 ((N : Int) + (n : Int)))
        rw [show ((N : Int) + (n : Int)) = ((N + n : Nat) : Int) by omega, hc_setSize HH.out.words.1 HSO.out.1] at b3
        have g3 := only_set G2.out (p := ⟨g, 72, none⟩) (.inl rfl) (.int .i64 ((N : Int) + (n : Int)))
        have r4 := (R2.out.setCell ⟨g, 72, none⟩ (.int .i64 ((N : Int) + (n : Int))) HNE.out).drop n (by rw [List.length_drop, ← HR0.out]; exact hn3)
        rw [List.length_drop, ← HR0.out, List.drop_drop] at r4
        refine ⟨⟨k + n, ?_, r4, fun _ => owner_cut HNE.out, ⟨st, _, hvF, ?_⟩, g3⟩, ?_⟩
        · have := HR0.out; have := HK.out; omega
        · have h1 : (L ++ m.take (k + n)).length = N + n := by
            rw [List.length_append, List.length_take]; have := HR0.out; have := HK.out; have := HPL.out; have := HNN.out; omega
          rw [h1]; exact b3
        · show r - n < r
          omega
    · obtain rfl : k = m.length := by omega
      go_wp2_with fail
      go_ret
      rw [List.take_length] at hs
      exact ⟨rfl, hs, hg⟩
end Go.Proofs.YtllhljhbnopafaaDoor

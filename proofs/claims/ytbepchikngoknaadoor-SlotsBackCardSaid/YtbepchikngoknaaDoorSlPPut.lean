/- What the program lays of a table of key slots, and its sum: contracts. Written by gen_slpput.py. Own work. -/
import Derived.Test.YtbepchikngoknaaDoorSlPX
import Derived.Test.YtbepchikngoknaaDoorApp0
import Derived.Test.YtbepchikngoknaaDoorMake0
import Derived.Test.YtbepchikngoknaaDoorPutCalls
import Derived.Test.YtbepchikngoknaaDoorShaD
import Derived.Test.YtbepchikngoknaaDoorRdConst
namespace Go.Proofs.YtbepchikngoknaaDoor
open Go.ChangeShapes Go.WideShapes Go.ChangeAt Go.RowKit
open SM SL
/-- A slice of the call's own that grows, beside a slot in a variable. -/
structure Lays (w0 : World) (B sb : Nat) (C : List Value) (w : World) (v : Value) (l : List Nat) : Prop where
  own : Own w B v l
  blk : Blk w sb 28 C
  bel : Below w0.heap.size w0 w
  ne : v.ownBlock ≠ some sb
  hB : w0.heap.size ≤ B
  hS : B ≤ sb
section
variable {w0 w w' : World} {B sb : Nat} {C : List Value} {v v' : Value} {l l' : List Nat}
theorem Lays.mid (h : Lays w0 B sb C w v l) (k : Below w.heap.size w w') : Lays w0 B sb C w' v l := ⟨h.own.below k, h.blk.below k h.blk.lt, h.bel.on k, h.ne, h.hB, h.hS⟩
theorem Lays.le (h : Lays w0 B sb C w v l) : B ≤ w.heap.size := Nat.le_trans h.hS (Nat.le_of_lt h.blk.lt)
theorem Lays.next (h : Lays w0 B sb C w v l) (o : Own w' B v' l') (g : w.grownBy w' v.ownBlock) (k : v'.ownBlock = v.ownBlock ∨ v'.ownBlock = some w.heap.size) : Lays w0 B sb C w' v' l' :=
  ⟨o, h.blk.grown g (fun e => h.ne e.symm), h.bel.grown g h.bel.size (fun g hg => by have := (h.own.from g hg).1; have := h.hB; omega), (by
    rcases k with q | q
    · rw [q]; exact h.ne
    · rw [q]; intro e; have := Option.some.inj e; have := h.blk.lt; omega), h.hB, h.hS⟩
end
set_option maxRecDepth 100000 in
set_option maxHeartbeats 4000000 in
theorem sput_any (T : List Slot) (hT : Tok T) (w : World) : Calls Tryd.prog 9 #[.agg (tbc T).toArray] w fun e w' => ∃ v, e = .returned v ∧ Own w' w.heap.size v (put T) ∧ Below w.heap.size w w' := by
  obtain ⟨L, hL⟩ : ∃ L, L = tbc T := ⟨_, rfl⟩
  obtain ⟨D1, hD1⟩ : ∃ D, D = slc none_ := ⟨_, rfl⟩
  have hz1 : ∀ w, (zeroValue 28).run Tryd.prog w = .ok (.agg D1.toArray) w := by rw [hD1]; exact zeroSl
  have hd1 : D1.length = 82 := by rw [hD1]; exact slc_len none_ok
  have L656 := Lib.hid (show L.length = 656 by rw [hL]; exact tbc_len hT)
  have HIX := Lib.hid (fun k (hk : k < 8) w => run_index_tab hT hk w)
  rw [← hL] at HIX
  rw [← hL]
  have HT := Lib.hid hT
  have HLEN := Lib.hid (fun (a b : Nat) (h : a + b ≤ 4096) => (show a + b ≤ 140737488355328 by omega))
  have T1 := Lib.hid (Blk.new w 30 L _ rfl)
  have W1 := Lib.hid ((Below.refl w.heap.size w).alloc (Nat.le_refl _) (.cells L.toArray 30))
  clear hT hL hD1
  go_enter Tryd.func9, Tryd.ntmps9
  go_wp2_with (first
    | (refine wpList_make0 rfl (.const (.int .i64 0)) (.const (.int .i64 1024)) rfl (w.heap.size + 1) 1024 (by decide) rfl rfl (by simp) ?_; intro w2 o2 b2 s2; have O2 := Lib.hid o2; have T2 := Lib.hid (T1.out.below b2 T1.out.lt); have W2 := Lib.hid (W1.out.on b2); clear o2 b2 s2)
    | (refine wpList_load_mid rfl 30 (.tmp 1) rfl w.heap.size 0 rfl L _ T2.out.range Tryd.underlying30 rfl (by rw [L656.out]; exact infoTb) ?_))
  go_loopw [3, 9] (fun o i wr => ∃ k : Nat, k ≤ 8 ∧ i = .int .i64 (k : Int) ∧ Own wr (w.heap.size + 1) o (put (T.take k)) ∧ w.heap.size + 1 ≤ wr.heap.size ∧ Below w.heap.size w wr) (fun _ i _ => 8 - (intOf i).toNat)
  case atStart => exact ⟨0, by decide, rfl, by have h := O2.out; rw [show (w.alloc (.cells L.toArray 30)).heap.size = w.heap.size + 1 by simp] at h; exact h, T2.out.lt, W2.out⟩
  case round =>
    clear T1 W1 T2 W2 O2
    obtain ⟨k, hk8, rfl, ho, hsz, hbw⟩ := hrel
    have HSZ := Lib.hid hsz
    have HSUB : ∀ s ∈ T.take k, Sok s := fun s hs => HT.out.ok s (List.mem_of_mem_take hs)
    have HPLEN := put_len HSUB
    rw [List.length_take, HT.out.len, Nat.min_eq_left hk8] at HPLEN
    obtain ⟨l, hl⟩ : ∃ l, l = put (T.take k) := ⟨_, rfl⟩
    rw [← hl] at ho HPLEN
    obtain ⟨n, hn⟩ : ∃ n, n = l.length := ⟨_, rfl⟩
    rw [← hn] at HPLEN
    have HLN := Lib.hid hn
    have HLL := Lib.hid hl
    have O := Lib.hid ho
    have WR := Lib.hid hbw
    have hn4 : n ≤ 1024 := by omega
    clear ho hbw hsz hn hl HSUB HPLEN
    by_cases hlt : k < 8
    · have HSTEP := Lib.hid (put_take HT.out hlt)
      have HS := Lib.hid (HT.out.at_ hlt)
      have hix := HIX.out k hlt
      have S82 := Lib.hid (slc_len HS.out)
      have SONE := Lib.hid (slc_all (at_ T k))
      obtain ⟨s, hs⟩ : ∃ s, s = at_ T k := ⟨_, rfl⟩
      rw [← hs] at HSTEP HS hix S82 SONE
      obtain ⟨salt, hsalt⟩ : ∃ n, n = s.salt := ⟨_, rfl⟩
      obtain ⟨sld, hsld⟩ : ∃ n, n = s.sld := ⟨_, rfl⟩
      obtain ⟨chk, hchk⟩ : ∃ n, n = s.chk := ⟨_, rfl⟩
      obtain ⟨tn, htn⟩ : ∃ n, n = s.turns := ⟨_, rfl⟩
      obtain ⟨u, hu⟩ : ∃ u, u = s.used := ⟨_, rfl⟩
      obtain ⟨SC, hSC⟩ : ∃ C, C = slc s := ⟨_, rfl⟩
      have HSL := Lib.hid (show Bytes 16 salt by rw [hsalt]; exact HS.out.salt)
      have HSD := Lib.hid (show Bytes 32 sld by rw [hsld]; exact HS.out.sld)
      have HSC := Lib.hid (show Bytes 32 chk by rw [hchk]; exact HS.out.chk)
      have htb : tn < 65536 := by rw [htn]; exact HS.out.turns
      have HRS := Lib.hid (fun W (h : Blk W wr.heap.size 28 SC) => (show Rd W (.slice (some ⟨wr.heap.size, 2, none⟩) 16 16) salt ∧ Rd W (.slice (some ⟨wr.heap.size, 18, none⟩) 32 32) sld ∧ Rd W (.slice (some ⟨wr.heap.size, 50, none⟩) 32 32) chk by
        rw [hSC] at h; rw [hsalt, hsld, hchk]; exact ⟨h.rdSalt HS.out, h.rdSld HS.out, h.rdChk HS.out⟩))
      have HTN := Lib.hid (fun W (h : Blk W wr.heap.size 28 SC) => (show W.cell? ⟨wr.heap.size, 1, none⟩ = some (.int .u16 (tn : Int)) from h.cell 1 _ (by rw [hSC, htn]; rfl)))
      have HC0 := Lib.hid (fun W (h : Blk W wr.heap.size 28 SC) => (show W.cell? ⟨wr.heap.size, 0, none⟩ = some (.bool u) from h.cell 0 _ (by rw [hSC, hu]; rfl)))
      have HNUM := Lib.hid (fun W => put16_any tn htb W)
      have HLY := Lib.hid (show lay s = bit s :: (be tn 2 ++ (salt ++ (sld ++ (chk ++ List.replicate 45 0)))) by rw [hsalt, hsld, hchk, htn]; rfl)
      rw [← hSC] at hix S82 SONE
      have HL3 := Lib.hid (fun W (h : Blk W wr.heap.size 28 SC) (hb : Below wr.heap.size wr W) => (show Lays w (w.heap.size + 1) wr.heap.size SC W u3 l from ⟨O.out.below hb, h, WR.out.on hb, fun e => by have := (O.out.from _ e).2; omega, Nat.le_succ _, HSZ.out⟩))
      have hklt : (k : Int) < 8 := by omega
      obtain ⟨bt, hbt⟩ : ∃ n, n = bit s := ⟨_, rfl⟩
      rw [HLY.out, ← hbt] at HSTEP
      have HBV := Lib.hid (show bt = if u then 1 else 0 by rw [hbt, hu]; rfl)
      clear hs hSC hsalt hsld hchk htn hu hbt HLY
      cases u with
      | false =>
        have HBIT := Lib.hid (show bt = 0 from HBV.out)
        go_wp2_with (first
          | (refine wpList_store_blk rfl 28 (.tmp 5) (.tmp 11) rfl wr.heap.size 0 SC rfl rfl 28 D1 (Blk.new wr 28 D1 _ rfl) (by rw [S82.out, hd1]; exact Nat.le_refl _) (by rw [S82.out]; exact infoSl) SONE.out ?_; intro w3 b3 g3; rw [splice_all _ _ (by rw [S82.out, hd1])] at b3; have c0 := HC0.out _ b3; have L3 := Lib.hid (HL3.out w3 b3 (alloc_turn (Below.refl _ _) g3)); have M3 := Lib.hid (L3.out.mid ((Below.refl w3.heap.size w3).alloc (Nat.le_refl _) (.cells #[.int .u8 0] 5))); have V3 := Lib.hid (rd_byte w3 0 (by decide) _ rfl); clear b3 g3)
          | (refine wpList_app rfl (.tmp 14) (.tmp 16) rfl (w.heap.size + 1) _ _ (l) ([0]) rfl rfl M3.out.own (V3.out) (HLEN.out _ _ (by have e1 := HLN.out; have e2 := HSL.out.1; have e3 := HSD.out.1; have e4 := HSC.out.1; have e5 := be_len tn 2; simp; omega)) M3.out.le ?_; intro v4 w4 o4 g4 k4; have L4 := Lib.hid (M3.out.next o4 g4 k4); have c1 := HTN.out _ L4.out.blk; clear o4 g4 k4)
          | (go_at_call 27; (with_reducible refine (HNUM.out _).mono ?_); rintro e w5 ⟨v5, rfl, o5, b5⟩; have L5 := Lib.hid (L4.out.mid b5); have V5 := Lib.hid o5.rd; clear o5 b5)
          | (refine wpList_app rfl (.tmp 18) (.tmp 21) rfl (w.heap.size + 1) _ _ (l ++ [0]) (be tn 2) rfl rfl L5.out.own (V5.out) (HLEN.out _ _ (by have e1 := HLN.out; have e2 := HSL.out.1; have e3 := HSD.out.1; have e4 := HSC.out.1; have e5 := be_len tn 2; simp; omega)) L5.out.le ?_; intro v6 w6 o6 g6 k6; have L6 := Lib.hid (L5.out.next o6 g6 k6); clear o6 g6 k6)
          | (refine wpList_app rfl (.tmp 23) (.tmp 25) rfl (w.heap.size + 1) _ _ (l ++ [0] ++ be tn 2) (salt) rfl rfl L6.out.own ((HRS.out _ L6.out.blk).1) (HLEN.out _ _ (by have e1 := HLN.out; have e2 := HSL.out.1; have e3 := HSD.out.1; have e4 := HSC.out.1; have e5 := be_len tn 2; simp; omega)) L6.out.le ?_; intro v7 w7 o7 g7 k7; have L7 := Lib.hid (L6.out.next o7 g7 k7); clear o7 g7 k7)
          | (refine wpList_app rfl (.tmp 27) (.tmp 29) rfl (w.heap.size + 1) _ _ (l ++ [0] ++ be tn 2 ++ salt) (sld) rfl rfl L7.out.own ((HRS.out _ L7.out.blk).2.1) (HLEN.out _ _ (by have e1 := HLN.out; have e2 := HSL.out.1; have e3 := HSD.out.1; have e4 := HSC.out.1; have e5 := be_len tn 2; simp; omega)) L7.out.le ?_; intro v8 w8 o8 g8 k8; have L8 := Lib.hid (L7.out.next o8 g8 k8); clear o8 g8 k8)
          | (refine wpList_app rfl (.tmp 31) (.tmp 33) rfl (w.heap.size + 1) _ _ (l ++ [0] ++ be tn 2 ++ salt ++ sld) (chk) rfl rfl L8.out.own ((HRS.out _ L8.out.blk).2.2) (HLEN.out _ _ (by have e1 := HLN.out; have e2 := HSL.out.1; have e3 := HSD.out.1; have e4 := HSC.out.1; have e5 := be_len tn 2; simp; omega)) L8.out.le ?_; intro v9 w9 o9 g9 k9; have L9 := Lib.hid (L8.out.next o9 g9 k9); clear o9 g9 k9)
          | (refine wpList_app0 rfl (.tmp 35) (.const (.int .i64 45)) rfl (w.heap.size + 1) _ (l ++ [0] ++ be tn 2 ++ salt ++ sld ++ chk) 45 rfl rfl L9.out.own (HLEN.out _ _ (by have e1 := HLN.out; have e2 := HSL.out.1; have e3 := HSD.out.1; have e4 := HSC.out.1; have e5 := be_len tn 2; simp; omega)) L9.out.le ?_; intro v10 w10 o10 g10 k10; have L10 := Lib.hid (L9.out.next o10 g10 k10); clear o10 g10 k10))
        refine ⟨⟨k + 1, by omega, by go_num, ?_, L10.out.le, L10.out.bel⟩, by simp [intOf]; omega⟩
        have h := L10.out.own
        rw [HLL.out] at h
        rw [HSTEP.out]
        simpa [HBIT.out, List.append_assoc] using h
      | true =>
        have HBIT := Lib.hid (show bt = 1 from HBV.out)
        go_wp2_with (first
          | (refine wpList_store_blk rfl 28 (.tmp 5) (.tmp 11) rfl wr.heap.size 0 SC rfl rfl 28 D1 (Blk.new wr 28 D1 _ rfl) (by rw [S82.out, hd1]; exact Nat.le_refl _) (by rw [S82.out]; exact infoSl) SONE.out ?_; intro w3 b3 g3; rw [splice_all _ _ (by rw [S82.out, hd1])] at b3; have c0 := HC0.out _ b3; have L3 := Lib.hid (HL3.out w3 b3 (alloc_turn (Below.refl _ _) g3)); have M3 := Lib.hid (L3.out.mid ((Below.refl w3.heap.size w3).alloc (Nat.le_refl _) (.cells #[.int .u8 1] 5))); have V3 := Lib.hid (rd_byte w3 1 (by decide) _ rfl); clear b3 g3)
          | (refine wpList_app rfl (.tmp 14) (.tmp 16) rfl (w.heap.size + 1) _ _ (l) ([1]) rfl rfl M3.out.own (V3.out) (HLEN.out _ _ (by have e1 := HLN.out; have e2 := HSL.out.1; have e3 := HSD.out.1; have e4 := HSC.out.1; have e5 := be_len tn 2; simp; omega)) M3.out.le ?_; intro v4 w4 o4 g4 k4; have L4 := Lib.hid (M3.out.next o4 g4 k4); have c1 := HTN.out _ L4.out.blk; clear o4 g4 k4)
          | (go_at_call 27; (with_reducible refine (HNUM.out _).mono ?_); rintro e w5 ⟨v5, rfl, o5, b5⟩; have L5 := Lib.hid (L4.out.mid b5); have V5 := Lib.hid o5.rd; clear o5 b5)
          | (refine wpList_app rfl (.tmp 18) (.tmp 21) rfl (w.heap.size + 1) _ _ (l ++ [1]) (be tn 2) rfl rfl L5.out.own (V5.out) (HLEN.out _ _ (by have e1 := HLN.out; have e2 := HSL.out.1; have e3 := HSD.out.1; have e4 := HSC.out.1; have e5 := be_len tn 2; simp; omega)) L5.out.le ?_; intro v6 w6 o6 g6 k6; have L6 := Lib.hid (L5.out.next o6 g6 k6); clear o6 g6 k6)
          | (refine wpList_app rfl (.tmp 23) (.tmp 25) rfl (w.heap.size + 1) _ _ (l ++ [1] ++ be tn 2) (salt) rfl rfl L6.out.own ((HRS.out _ L6.out.blk).1) (HLEN.out _ _ (by have e1 := HLN.out; have e2 := HSL.out.1; have e3 := HSD.out.1; have e4 := HSC.out.1; have e5 := be_len tn 2; simp; omega)) L6.out.le ?_; intro v7 w7 o7 g7 k7; have L7 := Lib.hid (L6.out.next o7 g7 k7); clear o7 g7 k7)
          | (refine wpList_app rfl (.tmp 27) (.tmp 29) rfl (w.heap.size + 1) _ _ (l ++ [1] ++ be tn 2 ++ salt) (sld) rfl rfl L7.out.own ((HRS.out _ L7.out.blk).2.1) (HLEN.out _ _ (by have e1 := HLN.out; have e2 := HSL.out.1; have e3 := HSD.out.1; have e4 := HSC.out.1; have e5 := be_len tn 2; simp; omega)) L7.out.le ?_; intro v8 w8 o8 g8 k8; have L8 := Lib.hid (L7.out.next o8 g8 k8); clear o8 g8 k8)
          | (refine wpList_app rfl (.tmp 31) (.tmp 33) rfl (w.heap.size + 1) _ _ (l ++ [1] ++ be tn 2 ++ salt ++ sld) (chk) rfl rfl L8.out.own ((HRS.out _ L8.out.blk).2.2) (HLEN.out _ _ (by have e1 := HLN.out; have e2 := HSL.out.1; have e3 := HSD.out.1; have e4 := HSC.out.1; have e5 := be_len tn 2; simp; omega)) L8.out.le ?_; intro v9 w9 o9 g9 k9; have L9 := Lib.hid (L8.out.next o9 g9 k9); clear o9 g9 k9)
          | (refine wpList_app0 rfl (.tmp 35) (.const (.int .i64 45)) rfl (w.heap.size + 1) _ (l ++ [1] ++ be tn 2 ++ salt ++ sld ++ chk) 45 rfl rfl L9.out.own (HLEN.out _ _ (by have e1 := HLN.out; have e2 := HSL.out.1; have e3 := HSD.out.1; have e4 := HSC.out.1; have e5 := be_len tn 2; simp; omega)) L9.out.le ?_; intro v10 w10 o10 g10 k10; have L10 := Lib.hid (L9.out.next o10 g10 k10); clear o10 g10 k10))
        refine ⟨⟨k + 1, by omega, by go_num, ?_, L10.out.le, L10.out.bel⟩, by simp [intOf]; omega⟩
        have h := L10.out.own
        rw [HLL.out] at h
        rw [HSTEP.out]
        simpa [HBIT.out, List.append_assoc] using h
    · obtain rfl : k = 8 := by omega
      have HALL := Lib.hid (show l = put T by rw [HLL.out, List.take_of_length_le (by rw [HT.out.len]; exact Nat.le_refl _)])
      go_wp2_with fail
      go_ret
      exact ⟨_, rfl, by rw [← HALL.out]; exact O.out.lower (Nat.le_succ _), WR.out⟩
theorem zeroSm3 (w : World) : (zeroValue 26).run Tryd.prog w = .ok (.agg (row8 (List.replicate 32 0)).toArray) w := by kernel_rfl
set_option maxRecDepth 100000 in
set_option maxHeartbeats 1000000 in
theorem ssum_any (T : List Slot) (hT : Tok T) (w : World) (ht : TabP w) : Calls Tryd.prog 11 #[.agg (tbc T).toArray] w fun e w' => e = .returned (.agg (row8 (sha (put T))).toArray) ∧ Below w.heap.size w w' := by
  obtain ⟨L, hL⟩ : ∃ L, L = tbc T := ⟨_, rfl⟩
  obtain ⟨M, hM⟩ : ∃ M, M = sha (put T) := ⟨_, rfl⟩
  obtain ⟨D0, hD0⟩ : ∃ D, D = row8 (List.replicate 32 0) := ⟨_, rfl⟩
  have hz : ∀ w, (zeroValue 26).run Tryd.prog w = .ok (.agg D0.toArray) w := by rw [hD0]; exact zeroSm3
  have hd0 : D0.length = 32 := by rw [hD0, row8_len, List.length_replicate]
  have M32 := Lib.hid (show (row8 M).length = 32 by rw [row8_len, hM]; exact (sha_bytes _).1)
  have L656 := Lib.hid (show L.length = 656 by rw [hL]; exact tbc_len hT)
  have W1 := Lib.hid ((Below.refl w.heap.size w).alloc (Nat.le_refl _) (.cells L.toArray 30))
  have W2 := Lib.hid (W1.out.alloc W1.out.size (.cells D0.toArray 26))
  have T2 := Lib.hid ((Blk.new w 30 L _ rfl).alloc (.cells D0.toArray 26))
  have R2 := Lib.hid (Blk.new (w.alloc (.cells L.toArray 30)) 26 D0 (w.heap.size + 1) (by simp))
  have HP := Lib.hid (fun W => sput_any T hT W)
  rw [← hL] at HP
  have HPL := Lib.hid (show (put T).length ≤ 1152921504606846976 by rw [put_len hT.ok, hT.len]; decide)
  have HTP := Lib.hid ht
  have HM := Lib.hid hM
  rw [← hL, ← hM]
  clear hL hM hD0 ht hT
  go_enter Tryd.func11, Tryd.ntmps11
  go_wp2_with (first
    | (refine wpList_load_mid rfl 30 (.tmp 1) rfl w.heap.size 0 rfl L _ T2.out.range Tryd.underlying30 rfl (by rw [L656.out]; exact infoTb) ?_)
    | (go_at_call 9; (with_reducible refine (HP.out _).mono ?_); rintro e w3 ⟨v, rfl, o3, b3⟩; obtain ⟨pa, pc, rfl, _⟩ := o3.rd.shape; have W3 := Lib.hid (W2.out.on b3); have R3 := Lib.hid (R2.out.below b3 R2.out.lt); have HO := Lib.hid (of_one_at rfl o3.rd (HTP.out.below W3.out) HPL.out HM.out); clear o3 b3)
    | (go_at_call 29; (with_reducible refine HO.out.mono ?_); rintro e w4 ⟨rfl, b4⟩; have W4 := Lib.hid (W3.out.on b4); have R4 := Lib.hid (R3.out.below b4 R3.out.lt); clear b4)
    | (refine wpList_store_blk rfl 26 (.tmp 2) (.tmp 6) rfl (w.heap.size + 1) 0 (row8 M) rfl rfl 26 D0 R4.out (by rw [M32.out, hd0]; exact Nat.le_refl _) (by rw [M32.out]; exact infoS) (row8_one _) ?_; intro w5 b5 g5; rw [splice_all _ _ (by rw [M32.out, hd0])] at b5; have U5 := Lib.hid b5; have W5 := Lib.hid (W4.out.grown g5 W4.out.size (fun g hg => by have := Option.some.inj hg; omega)); clear b5 g5))
  exact bodyPost_ret (results_mid rfl _ _ (w.heap.size + 1) (row8 M) _ rfl U5.out.range Tryd.underlying26 rfl (by rw [M32.out]; exact infoS)) rfl ⟨rfl, W5.out⟩
end Go.Proofs.YtbepchikngoknaaDoor

/- Texts of one subject in one file: ShaOf, Door. Own work. -/
import Derived.Test.YtoacdeddkfcllaaDoorShaA
import Derived.Test.YtoacdeddkfcllaaDoorOct
import Derived.Test.YtoacdeddkfcllaaDoorMem
import Derived.Test.YtoacdeddkfcllaaDoorReg
import Derived.Outline
import Derived.ProofKit
import Derived.LaidMore
import Derived.OpenShut
import Derived.Stop.Joined
import Derived.Lib.LaidTab
/- The sum of bytes, as the document says: contract. Own work. -/
namespace Go.Proofs.YtoacdeddkfcllaaDoor
open Go.ChangeShapes Go.WideShapes Go.ChangeAt Go.RowKit
open SM
theorem zero_app1 (l : List Nat) (k : Nat) : l ++ List.replicate k 0 ++ [0] = l ++ List.replicate (k + 1) 0 := by
  rw [List.append_assoc, List.replicate_succ']
theorem one_own (w : World) (x : Nat) (hx : x < 256) : Own (w.alloc (.cells #[.int .u8 (x : Int)] 5)) w.heap.size (.slice (some ⟨w.heap.size, 0, none⟩) 1 1) [x] :=
  own_new w [x] (fun k => by cases k with | zero => exact hx | succ k => exact Nat.zero_lt_succ _) (by show 1 ≤ _; omega) rfl (Nat.le_refl _)
theorem zeros_lt (n k : Nat) (hk : k < zeros n) : (n + 1 + k) % 64 ≠ 56 := by unfold zeros at hk; omega
theorem zeros_at (n : Nat) : (n + 1 + zeros n) % 64 = 56 := by unfold zeros; omega
theorem zeros_le (n : Nat) : zeros n < 64 := by unfold zeros; omega
theorem stTo_w {T : List Nat} : ∀ k, Words 8 (stTo T k)
  | 0 => h0_w
  | k + 1 => blk_w (stTo_w k)
theorem wraps_i64' (n : Int) (h₀ : 0 ≤ n) (h₁ : n < 2 ^ 62) : IntKind.i64.wrap n = n := by rw [IntKind.wrap_i64]; omega
theorem grown_setCells {a : World} (b : Nat) : ∀ (vs : List Value) (o : Nat) (w : World), a.grownBy w (some b) → a.grownBy (w.setCells b o vs) (some b)
  | [], _, _, h => h
  | v :: r, o, _, h => grown_setCells b r (o + 1) _ (only_set h (.inl rfl) v)
/-- The first j bytes of eight words. -/
def outK (st : List Nat) (j : Nat) : List Nat := (List.range 32).map fun i => if i < j then gb st (i / 4) / 2 ^ (24 - 8 * (i % 4)) % 256 else 0
theorem outK_len (st : List Nat) (j : Nat) : (outK st j).length = 32 := by simp [outK]
theorem outK_zero (st : List Nat) : outK st 0 = List.replicate 32 0 := rfl
theorem outK_all (st : List Nat) : outK st 32 = out st := by
  unfold outK out
  apply List.map_congr_left
  intro i hi
  rw [if_pos (by simpa using hi)]
theorem outK_step (st : List Nat) (j : Nat) (hj : j < 32) : (outK st j).set j (gb st (j / 4) / 2 ^ (24 - 8 * (j % 4)) % 256) = outK st (j + 1) := by
  apply bytes_ext (n := 32) (by rw [List.length_set, outK_len]) (outK_len _ _)
  intro k hk
  rw [gb_set _ _ _ _ (by rw [outK_len]; exact hj)]
  unfold outK
  rw [gb_map, gb_map, if_pos hk, if_pos hk]
  by_cases e : j = k
  · subst e; rw [if_pos rfl, if_pos (by omega)]
  · rw [if_neg e]
    by_cases h : k < j
    · rw [if_pos h, if_pos (by omega)]
    · rw [if_neg h, if_neg (by omega)]
theorem rput8 (n : Nat) (hn : n ≤ 140737488355328) (w : World) : Calls Tryd.prog 24 #[.int .u64 (8 * (n : Int)), .int .i64 8] w fun e w' => ∃ v, e = .returned v ∧ Own w' w.heap.size v (be (8 * n) 8) ∧ Below w.heap.size w w' := by
  have h := rput_any (8 * n) 8 (by omega) (by omega) w
  rw [show ((8 * n : Nat) : Int) = 8 * (n : Int) by omega] at h
  exact h
theorem infoS : (Tryd.prog.info? 24).map (·.size) = some 32 := by kernel_rfl
set_option maxRecDepth 100000 in
set_option maxHeartbeats 1000000 in
theorem rof_any (l : List Nat) (hn : l.length + 72 ≤ 140737488355328) (v : Value) (w : World) (hv : Rd w v l) (ht : Tab w) :
    Calls Tryd.prog 29 #[v] w fun e w' => e = .returned (.agg (row8 (sha l)).toArray) ∧ Below w.heap.size w w' := by
  obtain ⟨ao, cap, rfl, hcap⟩ := hv.shape
  have HV := Lib.hid hv
  have HT := Lib.hid ht
  clear hv ht
  have HL := Lib.hid (show ([] : List Nat).length + l.length ≤ 140737488355328 by simp; omega)
  have HL1 := Lib.hid (show ([] ++ l).length + [128].length ≤ 140737488355328 by simp; omega)
  have E0 := Lib.hid (show Own ((w.alloc (.cells (row8 (List.replicate 32 0)).toArray 24)).alloc (.cells #[] 5)) (w.heap.size + 1) (.slice (some ⟨w.heap.size + 1, 0, none⟩) 0 0) [] from own_empty _ (by simp) (by simp))
  have R0 := Lib.hid (show Blk ((w.alloc (.cells (row8 (List.replicate 32 0)).toArray 24)).alloc (.cells #[] 5)) w.heap.size 24 (row8 (List.replicate 32 0)) from (Blk.new w _ _ _ rfl).alloc _)
  have B0 := Lib.hid (show Below w.heap.size w ((w.alloc (.cells (row8 (List.replicate 32 0)).toArray 24)).alloc (.cells #[] 5)) from ((Below.refl w.heap.size w).alloc (Nat.le_refl _) _).alloc (by simp) _)
  have V0 := Lib.hid (show Rd ((w.alloc (.cells (row8 (List.replicate 32 0)).toArray 24)).alloc (.cells #[] 5)) (.slice ao l.length cap) l from (HV.out.alloc _).alloc _)
  go_enter Tryd.func29, Tryd.ntmps29
  go_wp2_with (first
    | (at_builtin; refine wpList_app rfl (.tmp 8) (.tmp 9) rfl (w.heap.size + 1) (.slice (some ⟨w.heap.size + 1, 0, none⟩) 0 0) _ [] l rfl rfl E0.out V0.out HL.out (by simp) ?_; intro v1 w1 ho1 hg1 hk1; have HR1 := Lib.hid (R0.out.grown hg1 (fun e => by have : w.heap.size = w.heap.size + 1 := Option.some.inj e; omega)); have BB1 := Lib.hid (B0.out.grown hg1 (by simp; omega) (fun k hk => by have : w.heap.size + 1 = k := Option.some.inj hk; omega)); have HO1 := Lib.hid ho1; clear ho1 hg1 hk1)
    | (at_builtin; refine wpList_app rfl (.tmp 10) (.tmp 11) rfl (w.heap.size + 1) _ (.slice (some ⟨w1.heap.size, 0, none⟩) 1 1) _ [128] rfl rfl (HO1.out.alloc _) (one_own w1 128 (by omega)).rd HL1.out (by have := HR1.out.lt; simp; omega) ?_; intro v2 w2 ho2 hg2 hk2; have HR2 := Lib.hid ((HR1.out.alloc (.cells #[.int .u8 128] 5)).grown hg2 (fun e => by have := (HO1.out.from _ e.symm).1; omega)); have BB2 := Lib.hid ((BB1.out.alloc BB1.out.size (.cells #[.int .u8 128] 5)).grown hg2 (by have := BB1.out.size; simp; omega) (fun k hk => by have := (HO1.out.from k hk).1; omega)); have HO2 := Lib.hid ho2; clear ho2 hg2 hk2))
  go_loopw [3] (fun x wr => ∃ k : Nat, k ≤ zeros l.length ∧ Own wr (w.heap.size + 1) x ((l ++ [128]) ++ List.replicate k 0) ∧ Blk wr w.heap.size 24 (row8 (List.replicate 32 0)) ∧ Below w.heap.size w wr) (fun x _ => l.length + 72 - vlen x)
  case atStart => exact ⟨0, Nat.zero_le _, by simpa using HO2.out, HR2.out, BB2.out⟩
  case round =>
    clear HO1 HR1 BB1 HO2 HR2 BB2 E0 R0 B0 V0
    obtain ⟨k, hk, ho, hr, bb⟩ := hrel
    have hz := zeros_le l.length
    have hvl := ho.vlen
    have hlen : ((l ++ [128]) ++ List.replicate k 0).length = l.length + 1 + k := by rw [List.length_append, List.length_append, List.length_replicate]; rfl
    rw [hlen] at hvl
    obtain ⟨a1, c1, rfl, hc1⟩ := ho.rd.shape
    rw [hlen] at ho hc1 ⊢
    have HO := Lib.hid ho
    have HR := Lib.hid hr
    have BB := Lib.hid bb
    have HLEN := Lib.hid hlen
    clear ho hr bb hlen hvl
    by_cases hlt : k < zeros l.length
    · have hne := zeros_lt l.length k hlt
      have hne' : (((l.length + 1 + k : Nat) : Int) % 64 != 56) = true := by simp; omega
      have hne2 : ¬ (((l.length + 1 + k : Nat) : Int) % 64 = 56) := by omega
      have HL2 := Lib.hid (show (((l ++ [128]) ++ List.replicate k 0)).length + [0].length ≤ 140737488355328 by rw [HLEN.out]; simp; omega)
      have HB := Lib.hid (show w.heap.size + 1 ≤ (wr.alloc (.cells #[.int .u8 0] 5)).heap.size by have := HR.out.lt; simp; omega)
      go_wp2_with (at_builtin; refine wpList_app rfl (.tmp 17) (.tmp 18) rfl (w.heap.size + 1) _ (.slice (some ⟨wr.heap.size, 0, none⟩) 1 1) _ [0] rfl rfl (HO.out.alloc _) (one_own wr 0 (by omega)).rd HL2.out HB.out ?_; intro v3 w3 ho3 hg3 hk3; have R3 := Lib.hid ((HR.out.alloc (.cells #[.int .u8 0] 5)).grown hg3 (fun e => by have := (HO.out.from _ e.symm).1; omega)); have C3 := Lib.hid ((BB.out.alloc BB.out.size (.cells #[.int .u8 0] 5)).grown hg3 (by have := HB.out; omega) (fun k hk => by have := (HO.out.from k hk).1; omega)); have O3 := Lib.hid ho3; clear ho3 hg3 hk3)
      refine ⟨⟨k + 1, by omega, ?_, R3.out, C3.out⟩, ?_⟩
      · rw [← zero_app1]; exact O3.out
      · rw [O3.out.vlen, List.length_append, HLEN.out]
        show l.length + 72 - (l.length + 1 + k + 1) < l.length + 72 - (l.length + 1 + k)
        omega
    · obtain rfl : k = zeros l.length := by omega
      have hat := zeros_at l.length
      have hat' : ((l.length + 1 + zeros l.length : Nat) : Int) % 64 = 56 := by omega
      have HP := Lib.hid (rput8 l.length (by omega))
      have HTX := Lib.hid (show ((l ++ [128]) ++ List.replicate (zeros l.length) 0) ++ be (8 * l.length) 8 = text l by unfold text; simp only [List.append_assoc, List.cons_append]; rfl)
      have HL4 := Lib.hid (show ((l ++ [128]) ++ List.replicate (zeros l.length) 0).length + (be (8 * l.length) 8).length ≤ 140737488355328 by rw [HLEN.out, be_len]; omega)
      have HTL := Lib.hid (show (text l).length = l.length + 1 + zeros l.length + 8 by rw [← HTX.out, List.length_append, HLEN.out, be_len])
      obtain ⟨nb, hnb⟩ : ∃ nb, l.length + 1 + zeros l.length + 8 = 64 * nb := ⟨(l.length + 1 + zeros l.length + 8) / 64, by omega⟩
      have HNB := Lib.hid (HTL.out.trans hnb)
      have hnbz : nb ≤ 4398046511104 := by omega
      have HF := Lib.hid (show (((l.length + 1 + zeros l.length : Nat) : Int) % 64 != 56) = false by rw [hat']; rfl)
      go_wp2_with (first
        | (go_at_call 24; refine Calls.mono (HP.out _) ?_; rintro e w4 ⟨v4, rfl, h4, hb4⟩; have H4 := Lib.hid h4; have O4 := Lib.hid (HO.out.below hb4); have R4 := Lib.hid (HR.out.below hb4 HR.out.lt); have C4 := Lib.hid (BB.out.on hb4); clear h4 hb4)
        | (at_builtin; refine wpList_app rfl (.tmp 20) (.tmp 25) rfl (w.heap.size + 1) _ v4 _ (be (8 * l.length) 8) rfl rfl O4.out H4.out.rd HL4.out (by have := R4.out.lt; omega) ?_; intro v5 w5 ho5 hg5 hk5; have R5 := Lib.hid (R4.out.grown hg5 (fun e => by have := (O4.out.from _ e.symm).1; omega)); have C5 := Lib.hid (C4.out.grown hg5 C4.out.size (fun k hk => by have := (O4.out.from k hk).1; omega)); rw [HTX.out] at ho5; have hs5 := ho5.rd.shape; rw [HNB.out] at hs5; obtain ⟨a5, c5, rfl, hc5⟩ := hs5; have O5 := Lib.hid ho5; clear ho5 hg5 hk5)
        | (refine wpList_store_mid rfl 67 (.tmp 4) (.tmp 27) rfl w5.heap.size 0 (row32 h0).toArray rfl rfl ((Blk.new w5 67 (row32 (List.replicate 8 0)) _ rfl).there _ rfl) infoW8 (row32_one _) ?_))
      have hxl := R5.out.lt
      have b5 : Below w5.heap.size w5 ((w5.alloc (.cells (row32 (List.replicate 8 0)).toArray 67)).setCells w5.heap.size 0 (row32 h0)) := below_setCells w5.heap.size (Nat.le_refl _) _ 0 _ ((Below.refl _ _).alloc (Nat.le_refl _) _)
      have n5 : Blk ((w5.alloc (.cells (row32 (List.replicate 8 0)).toArray 67)).setCells w5.heap.size 0 (row32 h0)) w5.heap.size 67 (row32 h0) := (Blk.new w5 _ _ _ rfl).whole (row32 h0) rfl
      have r5 := R5.out.below b5 hxl
      have o5 := O5.out.below b5
      have c5' := C5.out.on b5
      have hown5 := fun g hg => (O5.out.from g hg).2
      clear b5
      obtain ⟨hb, hhb⟩ : ∃ hb, hb = w5.heap.size := ⟨_, rfl⟩
      rw [← hhb] at n5 r5 o5 c5' hxl hown5 ⊢
      clear hhb
      have HOWN := Lib.hid hown5
      clear hown5
      obtain ⟨T, hT⟩ : ∃ T, T = text l := ⟨_, rfl⟩
      rw [← hT] at o5 HNB
      have HTT := Lib.hid hT
      have hbk : w.heap.size < hb := hxl
      clear R4 C4 O4 H4 R5 C5 O5 HTX HTL HL4 hT HF HO HR BB HP hxl
      go_loopw [5] (fun i wr => ∃ k : Nat, k ≤ nb ∧ i = .int .i64 (64 * (k : Int)) ∧ Own wr (w.heap.size + 1) (.slice a5 (64 * nb) c5) T ∧ Blk wr hb 67 (row32 (stTo T k)) ∧ Blk wr w.heap.size 24 (row8 (List.replicate 32 0)) ∧ Below w.heap.size w wr) (fun i _ => 64 * nb - (intOf i).toNat)
      case atStart => exact ⟨0, Nat.zero_le _, by simp, o5, n5, r5, c5'⟩
      case round =>
        clear n5 r5 o5 c5'
        obtain ⟨k, hk, rfl, ho, hst, hr, bb⟩ := hrel
        by_cases hlt : k < nb
        · have hR := ho.rd
          obtain ⟨ad, rfl, _⟩ := hR.at_ (64 * k) (by rw [HNB.out]; omega)
          have HO := Lib.hid ho
          have HS := Lib.hid hst
          have HR := Lib.hid hr
          have BB := Lib.hid bb
          clear ho hst hr bb hR
          go_upto_region 9 with (fail)
          have hcap5 : 64 * nb ≤ c5 := hc5
          have HST := Lib.hid (stTo_w (T := T) k)
          have HRD := Lib.hid (show ∀ W, Below wr.heap.size wr W → Rd W (.slice (if c5 = 64 * k then some ad else some (ad.add (64 * k))) 64 (c5 - 64 * k)) ((T.drop (64 * k)).take 64) from fun W hW => by
            have h := (HO.out.below hW).rd.drop (64 * k) (by rw [HNB.out]; omega)
            exact h.take 64 (by rw [List.length_drop, HNB.out]; omega))
          have HTB := Lib.hid (show Tab wr from HT.out.below BB.out)
          have HL64 := Lib.hid (show ((T.drop (64 * k)).take 64).length = 64 by rw [List.length_take, List.length_drop, HNB.out]; omega)
          refine wp_region_last (by kernel_rfl) 7 _ rfl rfl (by kernel_rfl) (by kernel_rfl) (by kernel_rfl) [.val (.agg (row32 (stTo T k)).toArray), .val (.slice (some ad) (64 * nb) c5), .val (.int .i64 (64 * (k : Int))), .val (.int .i64 (64 * (k : Int))), .val (.int .i64 (64 * (k : Int) + 64)), .rd ((T.drop (64 * k)).take 64), .val (.agg (row32 (stTo T (k + 1))).toArray)] ?_ ?_
          · refine ⟨?_, ?_, ?_, ?_, ?_, ?_, ?_, trivial⟩
            · intro a W hF hB hd
              have e4 : a.eval (.tmp 4) = .pointer (some ⟨hb, 0, none⟩) := hF 4 (by decide +kernel)
              exact ⟨rfl, fun K hK => wp_load_mid 67 (.tmp 4) rfl hb 0 e4 (row32 (stTo T k)) _ (HS.out.below hB HS.out.lt).range Tryd.underlying67 rfl (by rw [row32_len, HST.out.1]; exact infoW8) (hK _ _ (Below.refl _ _) rfl)⟩
            · intro a W hF hB hd
              have e3 : a.eval (.tmp 3) = .slice (some ad) (64 * nb) c5 := hF 3 (by decide +kernel)
              exact does_val rfl (ex_move rfl e3) rfl
            · intro a W hF hB hd
              have e5 : a.eval (.tmp 5) = .int .i64 (64 * (k : Int)) := hF 5 (by decide +kernel)
              exact does_val rfl (ex_move rfl e5) rfl
            · intro a W hF hB hd
              have e5 : a.eval (.tmp 5) = .int .i64 (64 * (k : Int)) := hF 5 (by decide +kernel)
              exact does_val rfl (ex_move rfl e5) rfl
            · intro a W hF hB hd
              have e37 : a.eval (.tmp 37) = .int .i64 (64 * (k : Int)) := hd 3 (by decide +kernel)
              have hwr : IntKind.i64.wrap (64 * (k : Int) + 64) = 64 * (k : Int) + 64 := wraps_i64' _ (by omega) (by omega)
              exact does_val rfl (ex_binOp rfl e37 rfl (by go_simp) (by go_simp)) rfl
            · intro a W hF hB hd
              have e35 : a.eval (.tmp 35) = .slice (some ad) (64 * nb) c5 := hd 1 (by decide +kernel)
              have e36 : a.eval (.tmp 36) = .int .i64 (64 * (k : Int)) := hd 2 (by decide +kernel)
              have e38 : a.eval (.tmp 38) = .int .i64 (64 * (k : Int) + 64) := hd 4 (by decide +kernel)
              refine ⟨rfl, fun K hK => ?_⟩
              have hr := HRD.out W hB
              have f36 : a.tmps[36]?.getD undef = .int .i64 (64 * (k : Int)) := by rw [← Array.getD_eq_getD_getElem?]; exact e36
              have f38 : a.tmps[38]?.getD undef = .int .i64 (64 * (k : Int) + 64) := by rw [← Array.getD_eq_getD_getElem?]; exact e38
              have q1 : (0 : Int) ≤ 64 * (k : Int) + 64 := by omega
              have q2 : 64 * (k : Int) + 64 ≤ (c5 : Int) := by omega
              have q3 : (0 : Int) ≤ 64 * (k : Int) := by omega
              have q4 : (64 * (k : Int) + 64).toNat = 64 * k + 64 := by omega
              have q5 : (64 * (k : Int)).toNat = 64 * k := by omega
              unfold Oper.wp execOp
              simp only [e35]
              go_simp
              rw [if_pos (show 64 * (k : Int) ≤ 64 * (k : Int) + 64 by omega), Oper.upon_value]
              exact hK _ _ (Below.refl _ _) hr
            · intro a W hF hB hd
              have e34 : a.eval (.tmp 34) = .agg (row32 (stTo T k)).toArray := hd 0 (by decide +kernel)
              have e39 : Rd W (a.eval (.tmp 39)) ((T.drop (64 * k)).take 64) := hd 5 (by decide +kernel)
              exact does_call rfl (ex_call (vs := #[.agg (row32 (stTo T k)).toArray, a.eval (.tmp 39)]) rfl (by simp only [List.map_toArray, List.map_cons, List.map_nil, e34]) (by go_simp)) ((rblock_any (stTo T k) _ HST.out HL64.out _ W e39 (HTB.out.below hB)).mono fun e w' h => ⟨_, h.1, rfl, h.2⟩)
          · intro vs W hB hv
            refine ⟨rfl, ?_⟩
            have e40 : vs 6 = .agg (row32 (stTo T (k + 1))).toArray := hv 6 (by omega)
            have hl8 : (row32 (stTo T (k + 1))).length = 8 := by rw [row32_len]; exact (stTo_w (k + 1)).1
            have hl8' : (row32 (stTo T k)).length = 8 := by rw [row32_len]; exact HST.out.1
            have n0 := HS.out.below hB HS.out.lt
            have n1 := n0.whole (row32 (stTo T (k + 1))) (by rw [hl8, hl8'])
            have hbW : Below hb W (W.setCells hb 0 (row32 (stTo T (k + 1)))) := below_setCells hb (Nat.le_refl _) _ 0 _ (Below.refl _ _)
            have o1 : Own (W.setCells hb 0 (row32 (stTo T (k + 1)))) (w.heap.size + 1) (.slice (some ad) (64 * nb) c5) T := by
              exact (HO.out.below hB).keep (grown_setCells hb _ 0 _ (World.grownBy.refl W (some hb))) (.inr fun e => by have := HOWN.out hb e; omega)
            have r1 := Blk.others hb (by omega) (row32 (stTo T (k + 1))) 0 _ (HR.out.below hB HR.out.lt)
            have c1' := below_setCells hb (by omega) (row32 (stTo T (k + 1))) 0 _ (BB.out.on hB)
            simp only [List.take_succ_cons, List.take_zero, putOps, Act.put, List.setIfInBounds_toArray, List.set_cons_zero, List.set_cons_succ, e40]
            refine wp_store_mid 67 (.tmp 4) (.tmp 40) rfl hb 0 (row32 (stTo T (k + 1))).toArray rfl rfl (n0.there _ (by rw [hl8', List.size_toArray, hl8])) (by rw [List.size_toArray, hl8]; exact infoW8) (row32_one _) ?_
            generalize vs 5 = x5 at *
            clear hv e40 n0 hB
            go_wp2_with fail
            exact ⟨⟨k + 1, by omega, by congr 1 <;> omega, o1, n1, r1, c1'⟩, by simp [intOf]; omega⟩
        · obtain rfl : k = nb := by omega
          have hsha : sha l = out (stTo T k) := by
            unfold sha; rw [← HTT.out, HNB.out, Nat.mul_div_cancel_left _ (by omega)]
          obtain ⟨st, hst'⟩ : ∃ st, st = stTo T k := ⟨_, rfl⟩
          have hsw := stTo_w (T := T) k
          rw [← hst'] at hst hsha hsw
          have hsb : hb < wr.heap.size := hst.lt
          have s0 := hst.alloc (.cells (row8 (List.replicate 32 0)).toArray 24)
          have r0 := hr.alloc (.cells (row8 (List.replicate 32 0)).toArray 24)
          have n0 := Blk.new wr 24 (row8 (List.replicate 32 0)) _ rfl
          have b0 := bb.alloc bb.size (.cells (row8 (List.replicate 32 0)).toArray 24)
          have HSW := Lib.hid hsw
          have HSHA := Lib.hid hsha
          have hbs := bb.size
          clear hst hr bb ho hst' hsw hsha
          go_wp2_with fail
          obtain ⟨sb, hsbe⟩ : ∃ sb, sb = wr.heap.size := ⟨_, rfl⟩
          rw [← hsbe] at n0 hsb hbs ⊢
          clear hsbe
          go_loopw [7] (fun i wq => ∃ j : Nat, j ≤ 32 ∧ i = .int .i64 (j : Int) ∧ Blk wq hb 67 (row32 st) ∧ Blk wq w.heap.size 24 (row8 (List.replicate 32 0)) ∧ Blk wq sb 24 (row8 (outK st j)) ∧ Below w.heap.size w wq) (fun i _ => 32 - (intOf i).toNat)
          case atStart => exact ⟨0, Nat.zero_le _, rfl, s0, r0, by rw [outK_zero]; exact n0, b0⟩
          case round =>
            clear s0 r0 n0 b0
            obtain ⟨j, hj, rfl, s0, r0, n0, b0⟩ := hrel
            by_cases hjt : j < 32
            · have cs := s0.cell (j / 4) _ (row32_val _ _ (by rw [HSW.out.1]; omega))
              have cn := n0.cell j _ (row8_val _ _ (by rw [outK_len]; omega))
              have fn := n0.free j
              have S0 := Lib.hid s0
              have R0 := Lib.hid r0
              have N0 := Lib.hid n0
              have B0 := Lib.hid b0
              clear s0 r0 n0 b0
              go_wp2_with fail
              have hval : ((gb st (j / 4) : Nat) : Int) / 2 ^ (24 - 8 * (j % 4)) % 256 = ((gb st (j / 4) / 2 ^ (24 - 8 * (j % 4)) % 256 : Nat) : Int) := by simp
              rw [hval]
              refine ⟨⟨j + 1, by omega, by go_num, S0.out.other _ _ (by simp <;> omega), R0.out.other _ _ (by simp <;> omega), ?_, B0.out.setCell (by omega) _⟩, by simp [intOf]; omega⟩
              rw [← outK_step st j hjt, ← row8_set]
              exact N0.out.set j _
            · obtain rfl : j = 32 := by omega
              rw [outK_all, ← HSHA.out] at n0
              obtain ⟨S, hS⟩ : ∃ S, S = sha l := ⟨_, rfl⟩
              rw [← hS] at n0
              have hS32 : (row8 S).length = 32 := by rw [hS, HSHA.out, row8_len, ← outK_all, outK_len]
              have HSS := Lib.hid hS
              have H32 := Lib.hid hS32
              have R0 := Lib.hid r0
              have N0 := Lib.hid n0
              have B0 := Lib.hid b0
              clear s0 r0 n0 b0 hS hS32
              go_wp2_with (first | (refine wpList_load_mid rfl 24 (.tmp 6) rfl sb 0 rfl (row8 S) _ N0.out.range Tryd.underlying24 rfl (by rw [H32.out]; exact infoS) ?_) | (refine wpList_store_mid rfl 24 (.tmp 2) (.tmp 58) rfl w.heap.size 0 (row8 S).toArray rfl rfl (R0.out.there _ (by rw [List.size_toArray, H32.out]; rfl)) (by rw [List.size_toArray, H32.out]; exact infoS) (row8_one _) ?_))
              have fin := R0.out.whole (row8 S) (by rw [H32.out]; rfl)
              exact bodyPost_ret (v := .agg (row8 S).toArray) (results_mid rfl _ _ w.heap.size (row8 S) _ rfl fin.range Tryd.underlying24 rfl (by rw [H32.out]; exact infoS)) rfl ⟨by rw [HSS.out], below_setCells w.heap.size (Nat.le_refl _) _ 0 _ B0.out⟩
end Go.Proofs.YtoacdeddkfcllaaDoor
/- The document's table of words, as the row lists it: what the condition gives, and that the door's own heap meets it. Own work. -/
namespace Go.Proofs.YtoacdeddkfcllaaDoor
open Go.ChangeShapes Go.WideShapes Go.ChangeAt Go.RowKit
def laidK : List (String × DataW Unit) := [("reliquary/reliquaryref03.k", Rows.laid_reliquary_reliquaryref03_k)]
theorem gK : Tryd.prog.globalNamed "reliquary/reliquaryref03.k" = some 0 := by kernel_rfl
theorem tK : (Tryd.prog.globals[0]?).map (·.type) = some 83 := by kernel_rfl
theorem cellsW : Tryd.prog.cellsOf 22 = 1 := by kernel_rfl
theorem cellsW64 : Tryd.prog.cellsOf 83 = 64 := by kernel_rfl
theorem laid_tab : (Rows.laid_reliquary_reliquaryref03_k : DataW Unit) = Lib.tabData .u32 (SM.kk.map fun n : Nat => (n : Int)) := rfl
theorem tab_of_laid {W : World} (h : laidMetH Tryd.prog laidK W) : Tab W := by
  rw [MakeChecks.laidMetH_plain _ _ _ (by kernel_rfl)] at h
  unfold laidK at h
  rw [laid_tab] at h
  have ht := Lib.tabIs_of_head gK tK Tryd.underlying83 Tryd.underlying22 cellsW cellsW64 h
  intro t htt
  have hc := ht.cell gK t (by rw [List.length_map]; exact htt)
  rw [hc]
  unfold gb
  rw [List.getD_eq_getElem?_getD, List.getD_eq_getElem?_getD, List.getElem?_map, List.getElem?_eq_getElem (by exact htt)]
  rfl
theorem door_met (os : Os) (args : Array Value) : laidMetH Tryd.prog laidK ((World.doorLaid Tryd.prog 400 os).forCall (fun _ _ => 0) ⟨#[], args, []⟩).memory :=
  laidMetH_of_parts3 (fuel := 8) (laidMet_of_run' 8 (by kernel_rfl) (by kernel_rfl)) (by kernel_rfl) (by kernel_rfl)
end Go.Proofs.YtoacdeddkfcllaaDoor

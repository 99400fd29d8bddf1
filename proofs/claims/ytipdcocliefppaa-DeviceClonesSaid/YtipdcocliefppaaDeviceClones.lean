/- DeviceClones: a clone is as the device is, and what becomes of one changes nothing of the other. No condition. -/
import Derived.Test.YtipdcocliefppaaRows
import Derived.Test.YtipdcocliefppaaDevPair
import Derived.Test.YtipdcocliefppaaDevAwake
import Derived.Test.YtipdcocliefppaaDevFew
import Derived.Test.YtipdcocliefppaaFactsK
import Derived.Test.YtipdcocliefppaaLoadWanted
import Derived.Test.YtipdcocliefppaaActsD
import Derived.WalkKit
import Derived.ProofKit
import Derived.OpenShut
import Derived.SizedLaws
import Derived.Carry
import Derived.Deep.DeepHandedRow
import Derived.Deep.DeepWitnessRowRef
namespace Go.Proofs.Ytipdcocliefppaa.deviceClones
open Go.ChangeShapes Go.WideShapes Go.ChangeAt Go.RowKit

theorem own : ownKnob Try.prog.godebug = none := by kernel_rfl
set_option linter.unusedVariables false in
set_option maxHeartbeats 8000000 in
set_option maxRecDepth 100000 in
theorem walk (w : World) (v0 : Value) (l0 : List AD) (h0 : ActsD w v0 l0) (v1 : Value) (l1 : List AD) (h1 : ActsD w v1 l1) :
    Calls Try.prog 3 #[v0, v1] w fun e w' => e = .returned (.bool true) ∧ Below w.heap.size w w' := by
  obtain ⟨a0, k0, rfl⟩ := h0.shape
  obtain ⟨a1, k1, rfl⟩ := h1.shape
  have hzz := zeroRd
  have H0 := Lib.hid h0
  have H1 := Lib.hid h1
  have HF0 := Lib.hid (few_any _ l0 w h0)
  have HF1 := Lib.hid (few_any _ l1 w h1)
  have AW := Lib.hid (dawake_any w)
  clear h0 h1
  cases hf0 : DM.few l0
  · rw [hf0] at HF0
    clear hf0
    go_enter Try.func3, Try.ntmps3
    go_wp2_with (first
      | (go_at_call 8; (with_reducible refine HF0.out.mono ?_); rintro e wz ⟨rfl, hq⟩; rw [hq]; clear hq wz)
      | (go_at_call 9; (with_reducible refine AW.out.mono ?_); rintro e w2 ⟨rfl, b2⟩; have B2 := Lib.hid b2; clear b2))
    go_ret
    exact ⟨rfl, B2.out⟩
  · cases hf1 : DM.few l1
    · rw [hf0] at HF0
      rw [hf1] at HF1
      clear hf0 hf1
      go_enter Try.func3, Try.ntmps3
      go_wp2_with (first
        | (go_at_call 8; (with_reducible refine HF0.out.mono ?_); rintro e wz ⟨rfl, hq⟩; rw [hq]; clear hq wz)
        | (go_at_call 8; (with_reducible refine HF1.out.mono ?_); rintro e wz ⟨rfl, hq⟩; rw [hq]; clear hq wz)
        | (go_at_call 9; (with_reducible refine AW.out.mono ?_); rintro e w2 ⟨rfl, b2⟩; have B2 := Lib.hid b2; clear b2))
      go_ret
      exact ⟨rfl, B2.out⟩
    · have HW0 := Lib.hid hf0
      have HW1 := Lib.hid hf1
      have HL0 := Lib.hid (DM.few_len hf0)
      have HL1 := Lib.hid (DM.few_len hf1)
      rw [hf0] at HF0
      rw [hf1] at HF1
      clear hf0 hf1
      have HN := Lib.hid (dnew_any 8192 (by omega) w)
      go_enter Try.func3, Try.ntmps3
      go_upto_region 4 with (first
        | (go_at_call 8; (with_reducible refine HF0.out.mono ?_); rintro e wz ⟨rfl, hq⟩; rw [hq]; clear hq wz)
        | (go_at_call 8; (with_reducible refine HF1.out.mono ?_); rintro e wz ⟨rfl, hq⟩; rw [hq]; clear hq wz)
        | (go_at_call 10; (with_reducible refine HN.out.mono ?_); rintro e w2 ⟨d, F, R, rfl, hd, hr, b2⟩; have D2 := Lib.hid hd; have HR2 := Lib.hid hr; have B2 := Lib.hid b2; have HRN := Lib.hid (rdnew_any 8192 w2); clear hd hr b2 HN)
        | (go_at_call 11; (with_reducible refine HRN.out.mono ?_); rintro e w3 ⟨la, n, c, rfl, l3, b3, g3⟩; have L3 := Lib.hid l3; have G3 := Lib.hid g3; have D3 := Lib.hid (D2.out.keep b3.size (fun k hk => b3.block k (D2.out.sub.2 k hk))); have B3 := Lib.hid (B2.out.on b3); have Z23 := Lib.hid b3.size; have KZ := Lib.hid (Blk.new w3 29 [.int .i64 0, .string { data := #[] }, .string { data := #[] }, .slice none 0 0, .int .i64 0, .bool false, .bool false, .int .i64 0, .bool false] _ rfl); clear l3 b3 g3 HRN)
        | (refine wpList_store_blk rfl 29 (.tmp 6) (.tmp 22) rfl (w3.heap.size) 0 (rcells (DM.new 8192) (.slice la n c)) rfl rfl 29 _ KZ.out (by simp) infoRd (by simp [Value.oneCell']) ?_; intro w5 k5 g5; have K5 := Lib.hid (k5.dev rfl); have G5 := Lib.hid g5; clear k5 g5))
      obtain ⟨rb, hrb⟩ : ∃ rb, rb = w3.heap.size := ⟨_, rfl⟩
      have ga : Below w3.heap.size w3 (w3.alloc (.cells #[.int .i64 0, .string { data := #[] }, .string { data := #[] }, .slice none 0 0, .int .i64 0, .bool false, .bool false, .int .i64 0, .bool false] 29)) := (Below.refl _ _).alloc (Nat.le_refl _) _
      have b35 : Below w3.heap.size w3 w5 := ga.grown G5.out ga.size (fun k hk => by have := Option.some.inj hk; omega)
      have hla : ∀ g, (.slice la n c : Value).ownBlock = some g → w2.heap.size ≤ g ∧ g < w3.heap.size := fun g hg => by
        rcases G3.out g hg with q | q
        · cases q
        · exact ⟨q, L3.out.lt g hg⟩
      have pr0 : Pair w5 d F R (DM.new 8192) rb la n c := by
        refine ⟨D3.out.keep b35.size (fun k hk => b35.block k (D3.out.sub.2 k hk)), by rw [hrb]; exact K5.out, L3.out.below b35, fun g hg => ⟨fun q => ?_, ?_⟩, fun q => ?_⟩
        · have h1 := D2.out.sub.2 g (D2.out.sub.1 g q)
          have h2 := hla g hg
          omega
        · have h2 := hla g hg
          omega
        · have h1 := D3.out.sub.2 rb q
          omega
      have P5 := Lib.hid pr0
      have HFW := Lib.hid (show ∀ k, F k → w.heap.size ≤ k from fun k hk => HR2.out k (D2.out.sub.1 k hk))
      have B5 := Lib.hid (B3.out.on b35)
      have HRB := Lib.hid (show w.heap.size ≤ rb by have h1 := B3.out.size; omega)
      rw [← hrb]
      clear hrb ga b35 hla pr0 D2 HR2 B2 D3 B3 L3 G3 KZ K5 G5 Z23
      go_wp2_with fail
      go_loopw [7] (fun i wr => ∃ (j : Nat) (S : DM.DS) (F R : Nat → Prop) (la : Option Addr) (n c : Nat), j ≤ l0.length ∧ i = .int .i64 (j : Int) ∧ DM.Calm S j ∧ Pair wr d F R S rb la n c ∧ (∀ k, F k → w.heap.size ≤ k) ∧ Below w.heap.size w wr) (fun i _ => l0.length - (intOf i).toNat)
      case atStart => exact ⟨0, DM.new 8192, F, R, la, n, c, Nat.zero_le _, rfl, DM.Calm.new 8192, P5.out, HFW.out, B5.out⟩
      case round =>
        clear P5 HFW B5
        obtain ⟨j, S, F, R, la, n, c, hj, rfl, clm, pr, hfw, bb⟩ := hrel
        by_cases hlt : j < l0.length
        · have hjw := H0.out.fits
          obtain ⟨x, hx⟩ : ∃ x, l0[j]? = some x := ⟨l0[j], List.getElem?_eq_getElem hlt⟩
          obtain ⟨ab, off, u, rfl, hk8, hat, q0, q1, q2, q3, hr⟩ := H0.out.at_ j x hx
          have hdl := DM.few_data HW0.out hx
          have hq := World.block_lt_of_cell? w _ q0
          have bd := bb.drew
          have AR := Lib.hid (act_range ((bd.cell (p := ⟨ab, off + j * 4, none⟩) hq).trans q0) ((bd.cell (p := ⟨ab, off + j * 4 + 1, none⟩) hq).trans q1) ((bd.cell (p := ⟨ab, off + j * 4 + 2, none⟩) hq).trans q2) ((bd.cell (p := ⟨ab, off + j * 4 + 3, none⟩) hq).trans q3))
          have hru := hr.below bd
          have PRD := Lib.hid (pr.below (Below.refl _ _).drew)
          have HDO := Lib.hid (PRD.out.calls (clm.tame (by have := HL0.out; omega)) x u hru (fun h0 g hg hf => by have h1 := rd_old hr h0 g hg; have h2 := hfw g hf; omega) hdl hat hk8)
          have HJZ := Lib.hid (show (j : Int) < (l0.length : Int) by omega)
          have HCL := Lib.hid (clm.act x hdl hat.2 hr.byte)
          have BD := Lib.hid bd
          clear hx q0 q1 q2 q3 hr hq bd hru hdl hat hk8
          clear clm pr
          have HFW := Lib.hid hfw
          clear hfw bb
          go_upto_region 7 with (fail)
          refine wp_region_k (by kernel_rfl) 6 10 (by decide) (by decide) (by kernel_rfl) (by kernel_rfl) (by kernel_rfl) (CallI wr.drew d F R S (DM.act S x) rb la n c) [.pre (.pointer (some ⟨d, 0, none⟩)), .pre (.agg (rcells S (.slice la n c)).toArray), .pre (.slice (some ⟨ab, off, none⟩) l0.length k0), .pre (.int .i64 (j : Int)), .pre (.pointer (some ⟨ab, off + j * 4, none⟩)), .pre (.agg #[.int .u8 (x.kind : Int), .int .i64 x.at_, u, .bool x.done]), .post (fun u v => v = u), .post (fun u v => v = u), .post (fun u v => ∃ z, u = .tuple #[v, z]), .post (fun _ v => v = .bool true), .any] rfl rfl ?_ ?_
          · refine ⟨?_, ?_, ?_, ?_, ?_, ?_, ?_, ?_, ?_, ?_, ?_, trivial⟩
            · intro a w5 y b hF hI h1 h2 h3 hd
              have e5 : a.eval (.tmp 5) = .pointer (some ⟨d, 0, none⟩) := hF 5 (by decide +kernel)
              exact doesK_read (by decide) (by decide) rfl (ex_move rfl e5) hI rfl
            · intro a w5 y b hF hI h1 h2 h3 hd
              have e6 : a.eval (.tmp 6) = .pointer (some ⟨rb, 0, none⟩) := hF 6 (by decide +kernel)
              obtain rfl : y = none := h2 (by decide +kernel)
              have hw : w5 = wr.drew := hI
              subst hw
              exact doesK_row (by decide) (by decide) rfl 29 (.tmp 6) rfl rb 0 e6 (rcells S (.slice la n c)) PRD.out.blk.range _ Try.underlying29 rfl infoRd rfl rfl
            · intro a w5 y b hF hI h1 h2 h3 hd
              have e0 : a.eval (.tmp 0) = .slice (some ⟨ab, off, none⟩) l0.length k0 := hF 0 (by decide +kernel)
              exact doesK_read (by decide) (by decide) rfl (ex_move rfl e0) hI rfl
            · intro a w5 y b hF hI h1 h2 h3 hd
              have e7 : a.eval (.tmp 7) = .int .i64 (j : Int) := hF 7 (by decide +kernel)
              exact doesK_read (by decide) (by decide) rfl (ex_move rfl e7) hI rfl
            · intro a w5 y b hF hI h1 h2 h3 hd
              have e32 : a.eval (.tmp 32) = .slice (some ⟨ab, off, none⟩) l0.length k0 := hd 2 (by decide +kernel)
              have e33 : a.eval (.tmp 33) = .int .i64 (j : Int) := hd 3 (by decide +kernel)
              have f32 : a.tmps[32]?.getD undef = .slice (some ⟨ab, off, none⟩) l0.length k0 := by rw [← Array.getD_eq_getD_getElem?]; exact e32
              have f33 : a.tmps[33]?.getD undef = .int .i64 (j : Int) := by rw [← Array.getD_eq_getD_getElem?]; exact e33
              have hjz := HJZ.out
              exact doesK_read (v := .pointer (some ⟨ab, off + j * 4, none⟩)) (by decide) (by decide) rfl (by unfold execOp; go_simp) hI rfl
            · intro a w5 y b hF hI h1 h2 h3 hd
              have e34 : a.eval (.tmp 34) = .pointer (some ⟨ab, off + j * 4, none⟩) := hd 4 (by decide +kernel)
              obtain rfl : y = none := h2 (by decide +kernel)
              have hw : w5 = wr.drew := hI
              subst hw
              exact doesK_row (by decide) (by decide) rfl 35 (.tmp 34) rfl ab (off + j * 4) e34 [.int .u8 (x.kind : Int), .int .i64 x.at_, u, .bool x.done] AR.out _ Try.underlying35 rfl infoAct rfl rfl
            · intro a w5 y b hF hI h1 h2 h3 hd
              have e30 : a.eval (.tmp 30) = .pointer (some ⟨d, 0, none⟩) := hd 0 (by decide +kernel)
              have e31 : a.eval (.tmp 31) = .agg (rcells S (.slice la n c)).toArray := hd 1 (by decide +kernel)
              have e35 : a.eval (.tmp 35) = .agg #[.int .u8 (x.kind : Int), .int .i64 x.at_, u, .bool x.done] := hd 5 (by decide +kernel)
              obtain ⟨rfl, rfl⟩ := h1 rfl
              have hw : w5 = wr.drew := hI
              subst hw
              exact doesK_do rfl (by decide) rfl (ex_call (vs := #[.pointer (some ⟨d, 0, none⟩), .agg (rcells S (.slice la n c)).toArray, .agg #[.int .u8 (x.kind : Int), .int .i64 x.at_, u, .bool x.done]]) rfl (by simp only [List.map_toArray, List.map_cons, List.map_nil, e30, e31, e35]) (by go_simp)) (HDO.out.mono fun e w6 hh => by obtain ⟨v, he, hl⟩ := hh; exact ⟨v, he, hl, v, rfl, rfl⟩)
            · intro a w5 y b hF hI h1 h2 h3 hd
              obtain ⟨v, rfl, e36⟩ : ∃ v, y = some v ∧ a.eval (.tmp 36) = v := hd 6 (by decide +kernel)
              exact doesK_read (by decide) (by decide) rfl (ex_move rfl e36) hI ⟨v, rfl, rfl⟩
            · intro a w5 y b hF hI h1 h2 h3 hd
              obtain ⟨v, rfl, e29⟩ : ∃ v, y = some v ∧ a.eval (.tmp 29) = v := hd 7 (by decide +kernel)
              obtain ⟨z, hz⟩ := CallI.form hI
              rewrite [hz] at e29
              exact doesK_read (v := z) (by decide) (by decide) rfl (by unfold execOp; simp only [e29]; go_simp) hI ⟨v, rfl, _, hz⟩
            · intro a w5 y b hF hI h1 h2 h3 hd
              obtain ⟨v, rfl, e29⟩ : ∃ v, y = some v ∧ a.eval (.tmp 29) = v := hd 7 (by decide +kernel)
              obtain ⟨z, hz⟩ := CallI.form hI
              rewrite [hz] at e29
              exact doesK_read (v := .bool true) (by decide) (by decide) rfl (by unfold execOp; simp only [e29]; go_simp) hI ⟨v, rfl, rfl⟩
            · intro a w5 y b hF hI h1 h2 h3 hd
              have e6 : a.eval (.tmp 6) = .pointer (some ⟨rb, 0, none⟩) := hF 6 (by decide +kernel)
              obtain rfl : b = false := h3 rfl
              obtain ⟨v, rfl, z, hz⟩ : ∃ v, y = some v ∧ ∃ z, v = .tuple #[a.eval (.tmp 37), z] := hd 8 (by decide +kernel)
              obtain ⟨cs, e37, hl, ho, hb, hD⟩ := Left.done hI hz
              exact doesK_put (by decide) rfl rfl 29 29 (.tmp 6) (.tmp 37) rfl rfl rb (rcells S (.slice la n c)) cs e6 hb e37 hl (by rw [hl]; exact infoRd) ho rfl hD
          · intro vs y w5 hI hv
            obtain ⟨v, rfl, _⟩ : ∃ v, y = some v ∧ vs 7 = v := hv 7 (by decide)
            obtain ⟨la2, n2, c2, F2, R2, _, pr2, t2, hF2, hR2, ho2⟩ := (show Done wr.drew d F R (DM.act S x) rb la n c v w5 from hI)
            clear hI hv
            simp only [putOps, Act.put, List.setIfInBounds_toArray, List.set_cons_zero, List.set_cons_succ]
            have b6 : Below w.heap.size w w5 := BD.out.trans (t2.below BD.out.size (fun k hk => hk.elim (HFW.out k) (fun q => by rw [q]; exact HRB.out)))
            have hf6 : ∀ k, F2 k → w.heap.size ≤ k := fun k hk => (hF2 k hk).elim (HFW.out k) (fun q => Nat.le_trans BD.out.size q)
            have B6 := Lib.hid b6
            have HF6 := Lib.hid hf6
            have P6 := Lib.hid pr2
            clear b6 hf6 pr2 t2 hF2 hR2 ho2
            go_wp2_with fail
            exact ⟨⟨j + 1, DM.act S x, F2, R2, la2, n2, c2, by omega, by go_num, HCL.out, P6.out, HF6.out, B6.out⟩, by simp [intOf]; omega⟩
        · have PR := Lib.hid pr
          have HCL := Lib.hid clm
          have HFW := Lib.hid hfw
          have BB := Lib.hid bb
          have HJ := Lib.hid (show j ≤ 40 by have := HL0.out; omega)
          have HK := Lib.hid (dclone_any d F R S wr pr.dv (clm.tame (by have := HL0.out; omega)))
          clear clm pr hfw bb
          go_upto_region 12 with (first
            | (go_at_call 13; (with_reducible refine HK.out.mono ?_); rintro e w6 ⟨c0, F6, R6, G, Q, rfl, d6, c6, f6, r6, g6, q6, gr, fq, t6⟩; have P6 := Lib.hid (PR.out.went t6 d6 f6 r6); have C6 := Lib.hid c6; have HG6 := Lib.hid g6; have HGR := Lib.hid gr; have B6 := Lib.hid (BB.out.trans (t6.below BB.out.size HFW.out)); have Z6 := Lib.hid t6.size; have KZ := Lib.hid (Blk.new w6 29 [.int .i64 0, .string { data := #[] }, .string { data := #[] }, .slice none 0 0, .int .i64 0, .bool false, .bool false, .int .i64 0, .bool false] _ rfl); clear d6 c6 f6 r6 g6 q6 gr fq t6 HK)
            | (refine wpList_load_mid rfl 29 (.tmp 6) rfl rb 0 rfl (rcells S (.slice la n c)) _ P6.out.blk.range Try.underlying29 rfl infoRd ?_)
            | (refine wpList_store_blk rfl 29 (.tmp 9) (.tmp 43) rfl (w6.heap.size) 0 (rcells S (.slice la n c)) rfl rfl 29 _ KZ.out (by simp) infoRd (by simp [Value.oneCell']) ?_; intro w7 k7 g7; have K7 := Lib.hid (k7.dev rfl); have G7 := Lib.hid g7; clear k7 g7))
          obtain ⟨xb, hxb⟩ : ∃ xb, xb = w6.heap.size := ⟨_, rfl⟩
          have ga : Below w6.heap.size w6 (w6.alloc (.cells #[.int .i64 0, .string { data := #[] }, .string { data := #[] }, .slice none 0 0, .int .i64 0, .bool false, .bool false, .int .i64 0, .bool false] 29)) := (Below.refl _ _).alloc (Nat.le_refl _) _
          have b67 : Below w6.heap.size w6 w7 := ga.grown G7.out ga.size (fun k hk => by have := Option.some.inj hk; omega)
          have p7 := P6.out.below b67
          have hown : ∀ g, (.slice la n c : Value).ownBlock = some g → ¬ G g ∧ g ≠ xb := fun g hg => by
            have h1 := PR.out.rl.lt g hg
            have h2 := Z6.out
            exact ⟨fun q => by have := HG6.out g q; omega, by omega⟩
          have hrl := P6.out.blk.lt
          have hrw := PR.out.blk.lt
          have px : Pair w7 c0 G Q S xb la n c := ⟨C6.out.keep b67.size (fun k hk => b67.block k (C6.out.sub.2 k hk)), by rw [hxb]; exact K7.out, p7.rl, hown, fun q => by have := C6.out.sub.2 xb q; omega⟩
          have P7 := Lib.hid p7
          have X7 := Lib.hid px
          have B7 := Lib.hid (B6.out.on b67)
          have HOW := Lib.hid hown
          have HNG := Lib.hid (show ¬ G rb from fun q => by have := HG6.out rb q; omega)
          have HRX := Lib.hid (show rb ≠ xb by omega)
          have HNX := Lib.hid (show ¬ R6 xb from fun q => by have := P6.out.dv.sub.2 xb q; omega)
          have HXB := Lib.hid (show w.heap.size ≤ xb by have := B6.out.size; omega)
          have HGW := Lib.hid (show ∀ k, G k → w.heap.size ≤ k from fun k hk => Nat.le_trans BB.out.size (HG6.out k hk))
          have HOX := Lib.hid (fun g hg => (hown g hg).2)
          rw [← hxb]
          clear hxb ga b67 p7 hown hrl hrw px PR HFW BB P6 C6 HG6 B6 Z6 KZ K7 G7
          go_wp2_with fail
          go_loopw [10, 11] (fun o i wr => ∃ (k : Nat) (T : DM.DS) (G Q : Nat → Prop) (lb : Option Addr) (m cb : Nat), k ≤ l1.length ∧ o = .bool true ∧ i = .int .i64 (k : Int) ∧ DM.Calm T (j + k) ∧ Pair wr c0 G Q T xb lb m cb ∧ (∀ k, G k → w.heap.size ≤ k) ∧ Pair wr d F6 R6 S rb la n c ∧ (∀ k, G k → ¬ R6 k) ∧ ¬ G rb ∧ (∀ g, (.slice la n c : Value).ownBlock = some g → ¬ G g) ∧ Below w.heap.size w wr) (fun _ i _ => l1.length - (intOf i).toNat)
          case atStart => exact ⟨0, S, G, Q, la, n, c, Nat.zero_le _, rfl, rfl, HCL.out, X7.out, HGW.out, P7.out, HGR.out, HNG.out, fun g hg => (HOW.out g hg).1, B7.out⟩
          case round =>
            clear P7 X7 B7 HOW HNG HGW HGR
            obtain ⟨k, T, G, Q, lb, m, cb, hk, rfl, rfl, clm, px, hgw, pd, hgr, hng, hog, bb⟩ := hrel
            by_cases hlt : k < l1.length
            · have hjw := H1.out.fits
              obtain ⟨x, hx⟩ : ∃ x, l1[k]? = some x := ⟨l1[k], List.getElem?_eq_getElem hlt⟩
              obtain ⟨ab, off, u, rfl, hk8, hat, q0, q1, q2, q3, hr⟩ := H1.out.at_ k x hx
              have hdl := DM.few_data HW1.out hx
              have hq := World.block_lt_of_cell? w _ q0
              have bd := bb.drew
              have AR := Lib.hid (act_range ((bd.cell (p := ⟨ab, off + k * 4, none⟩) hq).trans q0) ((bd.cell (p := ⟨ab, off + k * 4 + 1, none⟩) hq).trans q1) ((bd.cell (p := ⟨ab, off + k * 4 + 2, none⟩) hq).trans q2) ((bd.cell (p := ⟨ab, off + k * 4 + 3, none⟩) hq).trans q3))
              have hru := hr.below bd
              have PRD := Lib.hid (px.below (Below.refl _ _).drew)
              have HDO := Lib.hid (PRD.out.calls (clm.tame (by have := HJ.out; have := HL1.out; omega)) x u hru (fun h0 g hg hf => by have h1 := rd_old hr h0 g hg; have h2 := hgw g hf; omega) hdl hat hk8)
              have HJZ := Lib.hid (show (k : Int) < (l1.length : Int) by omega)
              have HCL2 := Lib.hid (clm.act x hdl hat.2 hr.byte)
              have BD := Lib.hid bd
              clear hx q0 q1 q2 q3 hr hq bd hru hdl hat hk8
              have PDD := Lib.hid (pd.below (Below.refl _ _).drew)
              have HGW := Lib.hid hgw
              have HGR := Lib.hid hgr
              have HNG := Lib.hid hng
              have HOG := Lib.hid hog
              clear clm px pd hgw hgr hng hog bb
              go_upto_region 15 with (fail)
              refine wp_region_k (by kernel_rfl) 6 10 (by decide) (by decide) (by kernel_rfl) (by kernel_rfl) (by kernel_rfl) (CallI wr.drew c0 G Q T (DM.act T x) xb lb m cb) [.pre (.pointer (some ⟨c0, 0, none⟩)), .pre (.agg (rcells T (.slice lb m cb)).toArray), .pre (.slice (some ⟨ab, off, none⟩) l1.length k1), .pre (.int .i64 (k : Int)), .pre (.pointer (some ⟨ab, off + k * 4, none⟩)), .pre (.agg #[.int .u8 (x.kind : Int), .int .i64 x.at_, u, .bool x.done]), .post (fun u v => v = u), .post (fun u v => v = u), .post (fun u v => ∃ z, u = .tuple #[v, z]), .post (fun _ v => v = .bool true), .any, .post (fun _ v => v = .bool true)] rfl rfl ?_ ?_
              · refine ⟨?_, ?_, ?_, ?_, ?_, ?_, ?_, ?_, ?_, ?_, ?_, ?_, trivial⟩
                · intro a w5 y b hF hI h1 h2 h3 hd
                  have e8 : a.eval (.tmp 8) = .pointer (some ⟨c0, 0, none⟩) := hF 8 (by decide +kernel)
                  exact doesK_read (by decide) (by decide) rfl (ex_move rfl e8) hI rfl
                · intro a w5 y b hF hI h1 h2 h3 hd
                  have e9 : a.eval (.tmp 9) = .pointer (some ⟨xb, 0, none⟩) := hF 9 (by decide +kernel)
                  obtain rfl : y = none := h2 (by decide +kernel)
                  have hw : w5 = wr.drew := hI
                  subst hw
                  exact doesK_row (by decide) (by decide) rfl 29 (.tmp 9) rfl xb 0 e9 (rcells T (.slice lb m cb)) PRD.out.blk.range _ Try.underlying29 rfl infoRd rfl rfl
                · intro a w5 y b hF hI h1 h2 h3 hd
                  have e1 : a.eval (.tmp 1) = .slice (some ⟨ab, off, none⟩) l1.length k1 := hF 1 (by decide +kernel)
                  exact doesK_read (by decide) (by decide) rfl (ex_move rfl e1) hI rfl
                · intro a w5 y b hF hI h1 h2 h3 hd
                  have e11 : a.eval (.tmp 11) = .int .i64 (k : Int) := hF 11 (by decide +kernel)
                  exact doesK_read (by decide) (by decide) rfl (ex_move rfl e11) hI rfl
                · intro a w5 y b hF hI h1 h2 h3 hd
                  have e53 : a.eval (.tmp 53) = .slice (some ⟨ab, off, none⟩) l1.length k1 := hd 2 (by decide +kernel)
                  have e54 : a.eval (.tmp 54) = .int .i64 (k : Int) := hd 3 (by decide +kernel)
                  have f53 : a.tmps[53]?.getD undef = .slice (some ⟨ab, off, none⟩) l1.length k1 := by rw [← Array.getD_eq_getD_getElem?]; exact e53
                  have f54 : a.tmps[54]?.getD undef = .int .i64 (k : Int) := by rw [← Array.getD_eq_getD_getElem?]; exact e54
                  have hjz := HJZ.out
                  exact doesK_read (v := .pointer (some ⟨ab, off + k * 4, none⟩)) (by decide) (by decide) rfl (by unfold execOp; go_simp) hI rfl
                · intro a w5 y b hF hI h1 h2 h3 hd
                  have e55 : a.eval (.tmp 55) = .pointer (some ⟨ab, off + k * 4, none⟩) := hd 4 (by decide +kernel)
                  obtain rfl : y = none := h2 (by decide +kernel)
                  have hw : w5 = wr.drew := hI
                  subst hw
                  exact doesK_row (by decide) (by decide) rfl 35 (.tmp 55) rfl ab (off + k * 4) e55 [.int .u8 (x.kind : Int), .int .i64 x.at_, u, .bool x.done] AR.out _ Try.underlying35 rfl infoAct rfl rfl
                · intro a w5 y b hF hI h1 h2 h3 hd
                  have e51 : a.eval (.tmp 51) = .pointer (some ⟨c0, 0, none⟩) := hd 0 (by decide +kernel)
                  have e52 : a.eval (.tmp 52) = .agg (rcells T (.slice lb m cb)).toArray := hd 1 (by decide +kernel)
                  have e56 : a.eval (.tmp 56) = .agg #[.int .u8 (x.kind : Int), .int .i64 x.at_, u, .bool x.done] := hd 5 (by decide +kernel)
                  obtain ⟨rfl, rfl⟩ := h1 rfl
                  have hw : w5 = wr.drew := hI
                  subst hw
                  exact doesK_do rfl (by decide) rfl (ex_call (vs := #[.pointer (some ⟨c0, 0, none⟩), .agg (rcells T (.slice lb m cb)).toArray, .agg #[.int .u8 (x.kind : Int), .int .i64 x.at_, u, .bool x.done]]) rfl (by simp only [List.map_toArray, List.map_cons, List.map_nil, e51, e52, e56]) (by go_simp)) (HDO.out.mono fun e w6 hh => by obtain ⟨v, he, hl⟩ := hh; exact ⟨v, he, hl, v, rfl, rfl⟩)
                · intro a w5 y b hF hI h1 h2 h3 hd
                  obtain ⟨v, rfl, e57⟩ : ∃ v, y = some v ∧ a.eval (.tmp 57) = v := hd 6 (by decide +kernel)
                  exact doesK_read (by decide) (by decide) rfl (ex_move rfl e57) hI ⟨v, rfl, rfl⟩
                · intro a w5 y b hF hI h1 h2 h3 hd
                  obtain ⟨v, rfl, e50⟩ : ∃ v, y = some v ∧ a.eval (.tmp 50) = v := hd 7 (by decide +kernel)
                  obtain ⟨z, hz⟩ := CallI.form hI
                  rewrite [hz] at e50
                  exact doesK_read (v := z) (by decide) (by decide) rfl (by unfold execOp; simp only [e50]; go_simp) hI ⟨v, rfl, _, hz⟩
                · intro a w5 y b hF hI h1 h2 h3 hd
                  obtain ⟨v, rfl, e50⟩ : ∃ v, y = some v ∧ a.eval (.tmp 50) = v := hd 7 (by decide +kernel)
                  obtain ⟨z, hz⟩ := CallI.form hI
                  rewrite [hz] at e50
                  exact doesK_read (v := .bool true) (by decide) (by decide) rfl (by unfold execOp; simp only [e50]; go_simp) hI ⟨v, rfl, rfl⟩
                · intro a w5 y b hF hI h1 h2 h3 hd
                  have e9 : a.eval (.tmp 9) = .pointer (some ⟨xb, 0, none⟩) := hF 9 (by decide +kernel)
                  obtain rfl : b = false := h3 rfl
                  obtain ⟨v, rfl, z, hz⟩ : ∃ v, y = some v ∧ ∃ z, v = .tuple #[a.eval (.tmp 58), z] := hd 8 (by decide +kernel)
                  obtain ⟨cs, e58, hl, ho, hb, hD⟩ := Left.done hI hz
                  exact doesK_put (by decide) rfl rfl 29 29 (.tmp 9) (.tmp 58) rfl rfl xb (rcells T (.slice lb m cb)) cs e9 hb e58 hl (by rw [hl]; exact infoRd) ho rfl hD
                · intro a w5 y b hF hI h1 h2 h3 hd
                  obtain ⟨v, rfl, e59⟩ : ∃ v, y = some v ∧ a.eval (.tmp 59) = .bool true := hd 9 (by decide +kernel)
                  exact doesK_read (by decide) (by decide) rfl (ex_assign rfl e59) hI ⟨v, rfl, rfl⟩
              · intro vs y w5 hI hv
                obtain ⟨v, rfl, _⟩ : ∃ v, y = some v ∧ vs 7 = v := hv 7 (by decide)
                have e11 : vs 11 = .bool true := by obtain ⟨_, _, e⟩ : ∃ z, some v = some z ∧ vs 11 = .bool true := hv 11 (by decide); exact e
                obtain ⟨la2, n2, c2, F2, R2, _, pr2, t2, hF2, hR2, ho2⟩ := (show Done wr.drew c0 G Q (DM.act T x) xb lb m cb v w5 from hI)
                clear hI hv
                simp only [putOps, Act.put, List.setIfInBounds_toArray, List.set_cons_zero, List.set_cons_succ, e11]
                have b6 : Below w.heap.size w w5 := BD.out.trans (t2.below BD.out.size (fun k hk => hk.elim (HGW.out k) (fun q => by rw [q]; exact HXB.out)))
                have hf6 : ∀ k, F2 k → w.heap.size ≤ k := fun k hk => (hF2 k hk).elim (HGW.out k) (fun q => Nat.le_trans BD.out.size q)
                have pd6 : Pair w5 d F6 R6 S rb la n c := PDD.out.turn t2 (fun k hk q => q.elim (fun z => HGR.out k z hk) (fun z => HNX.out (by rw [← z]; exact hk))) (fun q => q.elim HNG.out HRX.out) (fun g hg q => q.elim (HOG.out g hg) (HOX.out g hg))
                have B6 := Lib.hid b6
                have HF6 := Lib.hid hf6
                have P6 := Lib.hid pr2
                have PD6 := Lib.hid pd6
                have HGR6 := Lib.hid (show ∀ k, F2 k → ¬ R6 k from fun k hk q => (hF2 k hk).elim (fun z => HGR.out k z q) (fun z => by have h1 := PDD.out.dv.sub.2 k q; omega))
                have HNG6 := Lib.hid (show ¬ F2 rb from fun q => (hF2 rb q).elim HNG.out (fun z => by have h1 := PDD.out.blk.lt; omega))
                have HOG6 := Lib.hid (show ∀ g, (.slice la n c : Value).ownBlock = some g → ¬ F2 g from fun g hg q => (hF2 g q).elim (HOG.out g hg) (fun z => by have h1 := PDD.out.rl.lt g hg; omega))
                clear b6 hf6 pd6 pr2 t2 hF2 hR2 ho2
                go_wp2_with fail
                exact ⟨⟨k + 1, DM.act T x, F2, R2, la2, n2, c2, by omega, rfl, by go_num, HCL2.out, P6.out, HF6.out, PD6.out, HGR6.out, HNG6.out, HOG6.out, B6.out⟩, by simp [intOf]; omega⟩
            · have PX := Lib.hid px
              have PD := Lib.hid pd
              have BB := Lib.hid bb
              have HS1 := Lib.hid (same_any c0 G Q T wr px.dv (clm.tame (by have := HJ.out; have := HL1.out; omega)) lb m cb px.rl)
              have HTS := Lib.hid (HCL.out.tame (by have := HJ.out; omega))
              clear clm px hgw pd hgr hng hog bb
              go_wp2_with (first
                | (refine wpList_load_mid rfl 29 (.tmp 9) rfl xb 0 rfl (rcells T (.slice lb m cb)) _ PX.out.blk.range Try.underlying29 rfl infoRd ?_)
                | (go_at_call 14; (with_reducible refine HS1.out.mono ?_); rintro e w8 ⟨rfl, b8⟩; have PD8 := Lib.hid (PD.out.below b8); have B8 := Lib.hid (BB.out.on b8); have HS2 := Lib.hid (same_any d F6 R6 S w8 PD8.out.dv HTS.out la n c PD8.out.rl); clear b8 HS1)
                | (refine wpList_load_wanted rfl 29 (.tmp 6) rfl rb 0 rfl (rcells S (.slice la n c)) _ PD8.out.blk.range Try.underlying29 rfl infoRd ?_)
                | (go_at_call 14; (with_reducible refine HS2.out.mono ?_); rintro e w9 ⟨rfl, b9⟩; have B9 := Lib.hid (B8.out.on b9); have HA9 := Lib.hid (dawake_any w9); clear b9 HS2)
                | (go_at_call 9; (with_reducible refine HA9.out.mono ?_); rintro e w10 ⟨rfl, b10⟩; have B10 := Lib.hid (B9.out.on b10); clear b10))
              go_ret
              exact ⟨rfl, B10.out⟩
set_option linter.unusedVariables false in
set_option maxHeartbeats 400000 in
set_option maxRecDepth 100000 in
theorem lifted (os : Os) (started : os.Started) (H : Type) (enc : TypeId × Value → H) :
    ReturnsInHanded {} Try.checked os 3 .any (Rows.deviceClonesSpec.pre6 enc Try.prog Try.f3 Rows.deviceClonesRow.domain false) (Rows.deviceClonesSpec.post enc Try.prog Try.f3 false true false false) := by
  refine returnsInHanded_of_change_sized (C := Try.checked) own started (by kernel_rfl) Try.func3
    (ChangeSpec.witness6 (enc := enc) (C := Try.checked) false ⟨#[], #[.slice none 0 0, .slice none 0 0], []⟩ 8 (by kernel_rfl) (by kernel_rfl) (by kernel_rfl) (by kernel_rfl)) ?_
  intro W base args ds gs before hval0 hW _ hsz0 _
  have hsz : (DataW.weightsEach Try.prog (Try.f3.params.toList ++ Rows.deviceClonesSpec.plain.varTypes Try.prog) (ds ++ gs)).all (· ≤ reachBytes) = true := hsz0
  clear hsz0
  have hval : ∀ (j : Nat) t v, Try.f3.params[j]? = some t → args[j]? = some v → Value.okWide Try.prog W .any base t v := hval0
  have hW' := hW
  obtain ⟨p, q, hA0, hV, rfl, _, _⟩ := hW
  have hA : DataW.TrodAll enc Try.prog W 0 (fun _ => true) true Try.f3.params.toList args.toList ds p := hA0
  rw [Try.params3] at hA hval hsz
  obtain ⟨v0, vs0, d0, ds0, p0, q0, hargs, rfl, rfl, g0, r0⟩ := trodAll_cons hA
  obtain ⟨v1, vs1, d1, ds1, p1, q1, rfl, rfl, rfl, g1, r1⟩ := trodAll_cons r0
  obtain ⟨rfl, rfl, rfl⟩ := trodAll_nil r1
  obtain rfl : args = #[v0, v1] := by cases args; simp_all
  obtain ⟨rfl, rfl⟩ := trodVars_none hV
  obtain ⟨l0, h0⟩ := open_actsd (hval 0 22 v0 rfl rfl) g0 (fun n hn => by simpa using List.all_eq_true.1 hsz n (DataW.weights_mem_each (j := 0) (t := 22) rfl rfl n hn))
  obtain ⟨l1, h1⟩ := open_actsd (hval 1 22 v1 rfl rfl) g1 (fun n hn => by simpa using List.all_eq_true.1 hsz n (DataW.weights_mem_each (j := 1) (t := 22) rfl rfl n hn))
  clear hA0 hval0
  have hlt := hW'.lt
  refine (walk W v0 l0 h0 v1 l1 h1).mono fun e W' ⟨he, hb⟩ => ?_
  subst he
  have hargs : DataW.TrodAll enc Try.prog W' 0 (fun b => decide (b < W.heap.size)) true _ _ _ _ := (trodAll_cons_mk (Below.trod laidOut (by kernel_rfl) (of_decide_eq_true (by kernel_rfl)) g0 hb (fun x hx => hlt x (by simp [hx]))) (trodAll_cons_mk (Below.trod laidOut (by kernel_rfl) (of_decide_eq_true (by kernel_rfl)) g1 hb (fun x hx => hlt x (by simp [hx]))) trodAll_mk0))
  simp only [List.append_nil] at hW' hargs
  exact ⟨_, rfl, post_law hW' (trodAll_cons_mk (shut_bool Try.underlying4 _) trodAll_mk0) hargs rfl hb⟩
theorem over : Rows.deviceClonesRow.holds Try.pinned (OpenSpec.ofChange Rows.deviceClonesSpec) :=
  OpenClaim.holds_of_wide 3 Try.f3 rfl rfl rfl rfl rfl rfl rfl ⟨rfl, rfl, rfl, rfl, rfl⟩ rfl rfl rfl rfl rfl (by kernel_rfl) Try.func3 (by kernel_rfl)
    (of_decide_eq_true (by kernel_rfl)) (by unfold Func.isWrapper; first | (rw [if_pos (by decide +kernel)]; kernel_rfl) | (rw [if_neg (by decide +kernel)]; exact ⟨rfl, rfl⟩))
    (fun os started H enc _ => lifted os started H enc)

/-- The given statement. -/
theorem proved : Rows.DeviceClonesSaid := over
end Go.Proofs.Ytipdcocliefppaa.deviceClones

/- EntropyDraws: any draws of any seed tell the bytes that the document says, or why not, and how many were taken; what is told is the asker's own, and so is the seed; and the law's closed case holds. No condition but that the two listed tables hold their constants when the call begins. -/
import Derived.Test.YtdiljngokbfpcaaDoorRows
import Derived.Test.YtdiljngokbfpcaaDoorEntAll
import Derived.Test.YtdiljngokbfpcaaDoorKindB
import Derived.Test.YtdiljngokbfpcaaDoorOwnAt
import Derived.Test.YtdiljngokbfpcaaDoorShaD
import Derived.Test.YtdiljngokbfpcaaDoorTie
import Derived.Test.YtdiljngokbfpcaaDoorCards
import Derived.SevenTiedAt
import Derived.Test.YtdiljngokbfpcaaDoorMem
import Derived.Test.YtdiljngokbfpcaaDoorInts
import Derived.WalkKit
import Derived.ProofKit
import Derived.OpenShut
import Derived.SizedLaws
import Derived.Carry
import Derived.Deep.DeepHandedRow
import Derived.Deep.DeepWitnessRowRef
namespace Go.Proofs.YtdiljngokbfpcaaDoor.entropyDraws
open Go.ChangeShapes Go.WideShapes Go.ChangeAt Go.RowKit

theorem own : ownKnob Tryd.prog.godebug = none := by kernel_rfl
theorem cells32 : Tryd.prog.cellsOf 32 = 1 := by kernel_rfl
set_option linter.unusedVariables false in
set_option maxHeartbeats 4000000 in
set_option maxRecDepth 100000 in
theorem walk (w : World) (ht : Tab w ∧ TabP w) (v0 : Value) (l0 : List Nat) (h0 : Rd w v0 l0) (v1 : Value) (l1 : List Int) (h1 : Ints .i16 w v1 l1) :
    Calls Tryd.prog 3 #[v0, v1] w fun e w' => e = .returned (.bool true) ∧ Below w.heap.size w w' := by
  obtain ⟨TK, TP⟩ := ht
  have HAW := Lib.hid (fun W (hW : Below w.heap.size w W) => eawake_any W (TP.below hW))
  obtain ⟨a0, c0, rfl, _⟩ := h0.shape
  obtain ⟨a1, c1, rfl, _⟩ := h1.shape
  by_cases hbig : 2000 < l0.length ∨ 40 < l1.length
  · clear h0 h1 TK TP
    by_cases hp : 2000 < l0.length
    · have hpI : (2000 : Int) < (l0.length : Int) := by omega
      go_enter Tryd.func3, Tryd.ntmps3
      go_wp2_with (go_at_call 6; (with_reducible refine (HAW.out w (Below.refl _ _)).mono ?_); rintro e w2 ⟨rfl, b2⟩; have B2 := Lib.hid b2; clear b2)
      go_ret
      exact ⟨rfl, B2.out⟩
    · have hpI : ¬ (2000 : Int) < (l0.length : Int) := by omega
      have hsI : (40 : Int) < (l1.length : Int) := by omega
      go_enter Tryd.func3, Tryd.ntmps3
      go_wp2_with (go_at_call 6; (with_reducible refine (HAW.out w (Below.refl _ _)).mono ?_); rintro e w2 ⟨rfl, b2⟩; have B2 := Lib.hid b2; clear b2)
      go_ret
      exact ⟨rfl, B2.out⟩
  · have hl0 : l0.length ≤ 2000 := by omega
    have hl1 : l1.length ≤ 40 := by omega
    have hpI : ¬ (2000 : Int) < (l0.length : Int) := by omega
    have hsI : ¬ (40 : Int) < (l1.length : Int) := by omega
    have HTK := Lib.hid TK
    have HTP := Lib.hid TP
    have H0 := Lib.hid h0
    have H1 := Lib.hid h1
    have HL0 := Lib.hid hl0
    have HL1 := Lib.hid hl1
    clear hbig TK TP
    have o1 : Own (w.alloc (.cells #[] 5)) w.heap.size (.slice (some ⟨w.heap.size, 0, none⟩) 0 0) [] := own_empty w rfl (Nat.le_refl _)
    have O1 := Lib.hid o1
    have R1 := Lib.hid (h0.alloc (.cells #[] 5))
    have B1 := Lib.hid ((Below.refl w.heap.size w).alloc (Nat.le_refl _) (.cells #[] 5))
    clear h0 h1 o1
    go_enter Tryd.func3, Tryd.ntmps3
    go_upto_region 5 with (first
      | (refine wpList_app rfl (.tmp 25) (.tmp 26) rfl w.heap.size (.slice (some ⟨w.heap.size, 0, none⟩) 0 0) (.slice a0 l0.length c0) [] l0 rfl rfl O1.out R1.out (by have := HL0.out; simp; omega) B1.out.size ?_; intro v3 w3 o3 g3 _; rw [List.nil_append] at o3; obtain ⟨a3, c3, rfl, _⟩ := o3.rd.shape; have O3 := Lib.hid o3; have B3 := Lib.hid (B1.out.grown g3 B1.out.size (fun j hj => by have : w.heap.size = j := Option.some.inj hj; omega)); have HN := Lib.hid (psnew_any l0 _ w3 o3.rd (HTP.out.below B3.out)); clear o3 g3)
      | (go_at_call 7; (with_reducible refine HN.out.mono ?_); rintro e w4 ⟨x, g, hx, hg, rfl, s4, b4⟩; have GX := Lib.hid hx; have GG := Lib.hid hg; have S4 := Lib.hid s4; have B4 := Lib.hid (B3.out.on b4); have O4 := Lib.hid (O3.out.below b4); clear hx hg s4 b4 HN))
    have s5 := S4.out.alloc (.cells #[.slice a0 l0.length c0, .int .i64 0] 28)
    have o5 := O4.out.alloc (.cells #[.slice a0 l0.length c0, .int .i64 0] 28)
    have b5 := B4.out.alloc B4.out.size (.cells #[.slice a0 l0.length c0, .int .i64 0] 28)
    have k5 := Blk.new w4 28 [.slice a0 l0.length c0, .int .i64 0] _ rfl
    have hxl := S4.out.blk.lt
    have hgl := S4.out.inn.lt
    obtain ⟨b7, hb7⟩ : ∃ b, b = w4.heap.size := ⟨_, rfl⟩
    obtain ⟨W5, hW5⟩ : ∃ W, W = w4.alloc (.cells #[.slice a0 l0.length c0, .int .i64 0] 28) := ⟨_, rfl⟩
    rw [← hW5] at s5 o5 b5
    rw [← hb7, ← hW5] at k5
    rw [← hb7] at hxl hgl
    rw [← hb7, ← hW5]
    have HOB := Lib.hid (fun (j : Nat) (e : (Value.slice a3 l0.length c3).ownBlock = some j) => (show w.heap.size ≤ j ∧ j < w3.heap.size from O3.out.from j e))
    have hw43 : w3.heap.size ≤ b7 := by rw [hb7]; have h1 := GX.out; have h2 := S4.out.blk.lt; omega
    have HX7 := Lib.hid (show x ≠ b7 by omega)
    have HG7 := Lib.hid (show g ≠ b7 by omega)
    have HXW := Lib.hid (show w.heap.size ≤ x from Nat.le_trans B3.out.size GX.out)
    have HBW := Lib.hid (show w.heap.size ≤ b7 by rw [hb7]; exact B4.out.size)
    have NO := Lib.hid (fun (j : Nat) (e : (Value.slice a3 l0.length c3).ownBlock = some j) => (show j ≠ x ∧ j ≠ g ∧ j ≠ b7 by have h1 := HOB.out j e; have h2 := GX.out; have h3 := GG.out; omega))
    have S5 := Lib.hid s5
    have O5 := Lib.hid o5
    have BB5 := Lib.hid b5
    have K5 := Lib.hid k5
    clear s5 o5 b5 k5 hxl hgl hb7 hW5 hw43
    go_wp2_with fail
    go_loopw [8] (fun i wr => ∃ (j : Nat) (M : List Nat), j ≤ l0.length ∧ i = .int .i64 (j : Int) ∧ M.length = l0.length ∧ Own wr w.heap.size (.slice a3 l0.length c3) M ∧ Sc wr x g l0 0 ∧ Blk wr b7 28 [.slice a0 l0.length c0, .int .i64 0] ∧ Below w.heap.size w wr) (fun i _ => l0.length - (intOf i).toNat)
    case atStart => exact ⟨0, l0, Nat.zero_le _, rfl, rfl, O5.out, S5.out, K5.out, BB5.out⟩
    case round =>
      clear O5 S5 K5 BB5
      obtain ⟨j, M, hj, rfl, hM, om, s, k, b⟩ := hrel
      by_cases hlt : j < l0.length
      · obtain ⟨u, rfl⟩ := own_at om (by rw [hM]; omega)
        have cu := om.cell hM.symm j (by rw [hM]; exact hlt)
        have fu := om.free hM.symm j
        have hb8 := om.2.1 j
        obtain ⟨y, hy⟩ : ∃ y, y = gb M j := ⟨_, rfl⟩
        rw [← hy] at cu hb8
        obtain ⟨z, hz⟩ : ∃ z, z = (y + 1) % 256 := ⟨_, rfl⟩
        have hz1 : ((y : Int) + 1) % 256 = (z : Int) := by omega
        have hz2 : z < 256 := by omega
        have hno := NO.out u rfl
        have OM := Lib.hid om
        have SS := Lib.hid s
        have KK := Lib.hid k
        have BB := Lib.hid b
        have HMM := Lib.hid hM
        have HNO := Lib.hid hno
        have HUW := Lib.hid (HOB.out u rfl).1
        clear om s k b hM hy hz hno
        go_wp2_with fail
        have hms := HMM.out
        have o2 : Own (wr.setCell ⟨u, j, none⟩ (.int .u8 (z : Int))) w.heap.size (.slice (some ⟨u, 0, none⟩) l0.length c3) (M.set j z) := by
          have h := OM.out; rw [← hms] at h ⊢; exact h.set j z hz2 (by omega)
        have hg := grownBy_cell wr u j (.int .u8 (z : Int))
        refine ⟨⟨j + 1, M.set j z, by omega, by go_num, by rw [List.length_set]; exact hms, o2, SS.out.grown hg (by intro e; exact HNO.out.1 (Option.some.inj e).symm) (by intro e; exact HNO.out.2.1 (Option.some.inj e).symm), KK.out.grown hg (by intro e; exact HNO.out.2.2 (Option.some.inj e).symm), BB.out.setCell (p := ⟨u, j, none⟩) HUW.out _⟩, by simp [intOf]; omega⟩
      · obtain rfl : j = l0.length := by omega
        have S6 := Lib.hid s
        have K6 := Lib.hid k
        have B6 := Lib.hid b
        clear om s k b
        go_wp2_with fail
        have HNE8 := (by decide : 28 ≠ 5)
        go_loopw [9] (fun i wr => ∃ (k T : Nat), k ≤ l1.length ∧ i = .int .i64 (k : Int) ∧ T ≤ 1024 * k ∧ Sc wr x g l0 T ∧ Blk wr b7 28 [.slice a0 l0.length c0, .int .i64 (T : Int)] ∧ Below w.heap.size w wr) (fun i _ => l1.length - (intOf i).toNat)
        case atStart => exact ⟨0, 0, Nat.zero_le _, rfl, Nat.zero_le _, S6.out, K6.out, B6.out⟩
        case round =>
          clear S6 K6 B6
          obtain ⟨k, T, hk, rfl, hT, s, kk, b⟩ := hrel
          by_cases hkl : k < l1.length
          · obtain ⟨lb, lo, rfl, hc0⟩ := H1.out.at_ k hkl
            have hwq := H1.out.wf k hkl
            obtain ⟨q, hq⟩ : ∃ q, q = l1.getD k 0 := ⟨_, rfl⟩
            rw [← hq] at hc0 hwq
            have hq1 : -32768 ≤ q ∧ q ≤ 32767 := by simpa [Lit.wf, IntKind.min, IntKind.max, IntKind.signed, IntKind.bits] using hwq
            obtain ⟨hq2, hq3⟩ := hq1
            have cl := cell_below hc0 b
            have CL0 := Lib.hid hc0
            have SS := Lib.hid s
            have KK := Lib.hid kk
            have BB := Lib.hid b
            have hT2 : T ≤ 1099511627776 := by have := HL1.out; omega
            have HD := Lib.hid (pdraw_all wr x g l0 T q hT2 (by have := HL0.out; omega) s (HTP.out.below b))
            have RD := Lib.hid (fun W (hW : Below w.heap.size w W) => rsdraw_all l0 (by have := HL0.out; omega) T q hT2 (.slice a0 l0.length c0) W (H0.out.below hW) (HTK.out.below hW))
            obtain ⟨L, hL⟩ : ∃ L, L = EM.got l0 T q := ⟨_, rfl⟩
            obtain ⟨E, hE⟩ : ∃ E, E = EM.fault q := ⟨_, rfl⟩
            obtain ⟨T2, hT3⟩ : ∃ E, E = EM.left T q := ⟨_, rfl⟩
            rw [← hL, ← hE, ← hT3] at HD
            rw [← hL, ← hE, ← hT3] at RD
            obtain ⟨c, hc⟩ : ∃ c, c = L.length := ⟨_, rfl⟩
            rw [← hc] at HD
            have HC := Lib.hid hc
            have HTT := Lib.hid (show T2 ≤ 1024 * (k + 1) by have := EM.left_le T q; omega)
            have hc3 : c ≤ 1024 := by rw [hc, hL]; exact EM.got_len _ _ _
            have HLT := Lib.hid hkl
            have HK := Lib.hid hk
            clear hL hE hT3 hc s kk b hq hwq hc0 hT hk
            go_upto_region 13 with (first
              | (go_at_call 8; (with_reducible refine HD.out.mono ?_); rintro e w5 ⟨a5, c5, rfl, o5, s5, g5⟩; have OB5 := Lib.hid o5; have S5 := Lib.hid s5; have B5 := Lib.hid (BB.out.grown g5 BB.out.size (fun j hj => by have : x = j := Option.some.inj hj; have := HXW.out; omega)); have K5 := Lib.hid (KK.out.grown g5 (fun e => HX7.out (Option.some.inj e).symm)); have CL5 := Lib.hid (cell_below CL0.out B5.out); have Z5 := Lib.hid g5.size; clear o5 s5 g5 HD))
            have hne8 : 28 ≠ 5 := by decide
            refine wp_region_y (R := KindB 28) (by kernel_rfl) 15 (by decide) (fun i => [61, 62, 63, 64, 65, 66, 67, 60, 68, 69, 70, 12, 12, 13, 14].getD i 0) (by kernel_rfl) (by kernel_rfl) (by kernel_rfl) w5.heap.size (Nat.le_refl _)
              [.val (rsrc (.slice a0 l0.length c0) T), .val (.slice (some ⟨lb, lo, none⟩) l1.length c1), .val (.int .i64 (k : Int)), .val (.pointer (some ⟨lb, lo + k, none⟩)), .val (.int .i16 q), .val (.int .i64 q), .ownIn hne8 (fun y => .tuple #[rsrc (.slice a0 l0.length c0) T2, y, .int .i64 E]) L, .ownIn hne8 (fun y => .tuple #[rsrc (.slice a0 l0.length c0) T2, y, .int .i64 E]) L, .val (rsrc (.slice a0 l0.length c0) T2), .ownIn hne8 (fun y => y) L, .val (.int .i64 E), .blk 28 [.slice none 0 0, .int .i64 0], .blk 28 [.slice a0 l0.length c0, .int .i64 (T2 : Int)], .ownIn hne8 (fun y => y) L, .val (.int .i64 E)] (fun j => if j = 11 then 12 else 15) ?_ ?_
            · refine ⟨?_, ?_, ?_, ?_, ?_, ?_, ?_, ?_, ?_, ?_, ?_, ?_, ?_, ?_, ?_, trivial⟩
              · intro a w' hF hB hd
                have e7 : a.eval (.tmp 7) = .pointer (some ⟨b7, 0, none⟩) := hF 7 (by decide +kernel)
                exact doesY_wp rfl (by decide) fun K' hK' => wp_load_mid 28 (.tmp 7) rfl b7 0 e7 [.slice a0 l0.length c0, .int .i64 (T : Int)] _ (K5.out.below hB K5.out.lt).range Tryd.underlying28 rfl infoRS (hK' _ _ rfl (Below.refl _ _) (fun e => by cases e))
              · intro a w' hF hB hd
                have e1 : a.eval (.tmp 1) = .slice (some ⟨lb, lo, none⟩) l1.length c1 := hF 1 (by decide +kernel)
                exact doesY_val rfl (by decide) (ex_move rfl e1) rfl rfl
              · intro a w' hF hB hd
                have e9 : a.eval (.tmp 9) = .int .i64 (k : Int) := hF 9 (by decide +kernel)
                exact doesY_val rfl (by decide) (ex_move rfl e9) rfl rfl
              · intro a w' hF hB hd
                have e62 : a.eval (.tmp 62) = .slice (some ⟨lb, lo, none⟩) l1.length c1 := hd 1 (by decide +kernel) (.inr (by decide))
                have e63 : a.eval (.tmp 63) = .int .i64 (k : Int) := hd 2 (by decide +kernel) (.inr (by decide))
                have f62 : a.tmps[62]?.getD undef = .slice (some ⟨lb, lo, none⟩) l1.length c1 := by rw [← Array.getD_eq_getD_getElem?]; exact e62
                have f63 : a.tmps[63]?.getD undef = .int .i64 (k : Int) := by rw [← Array.getD_eq_getD_getElem?]; exact e63
                have hkl := HLT.out
                exact doesY_val (v := .pointer (some ⟨lb, lo + k, none⟩)) rfl (by decide) (by unfold execOp; go_simp) rfl rfl
              · intro a w' hF hB hd
                have e64 : a.eval (.tmp 64) = .pointer (some ⟨lb, lo + k, none⟩) := hd 3 (by decide +kernel) (.inr (by decide))
                have cl : w'.cell? ⟨lb, lo + k, none⟩ = some (.int .i16 q) := cell_below CL5.out hB
                exact doesY_val (v := .int .i16 q) rfl (by decide) (by unfold execOp; simp only [e64]; go_simp) rfl rfl
              · intro a w' hF hB hd
                have e65 : a.eval (.tmp 65) = .int .i16 q := hd 4 (by decide +kernel) (.inr (by decide))
                exact doesY_val rfl (by decide) (ex_convert rfl e65 (by go_simp; rw [IntKind.wrap_i64]; omega)) rfl rfl
              · intro a w' hF hB hd
                have e61 : a.eval (.tmp 61) = rsrc (.slice a0 l0.length c0) T := hd 0 (by decide +kernel) (.inr (by decide))
                have e66 : a.eval (.tmp 66) = .int .i64 q := hd 5 (by decide +kernel) (.inr (by decide))
                exact doesY_call rfl (by decide) (ex_call (vs := #[rsrc (.slice a0 l0.length c0) T, .int .i64 q]) rfl (by simp only [List.map_toArray, List.map_cons, List.map_nil, e61, e66]) (by go_simp)) rfl ((RD.out w' (B5.out.on hB)).mono fun e w2 hh => by
                  obtain ⟨y, he, ho, hb⟩ := hh
                  exact ⟨_, he, ⟨y, rfl, ho.lower hB.size⟩, hb⟩)
              · intro a w' hF hB hd
                obtain ⟨y, ey, oy⟩ : ∃ y, a.eval (.tmp 67) = .tuple #[rsrc (.slice a0 l0.length c0) T2, y, .int .i64 E] ∧ Own w' w5.heap.size y L := hd 6 (by decide +kernel) (.inr (by decide))
                exact doesY_val rfl (by decide) (ex_move rfl ey) ⟨y, rfl, oy⟩ rfl
              · intro a w' hF hB hd
                obtain ⟨y, ey, oy⟩ : ∃ y, a.eval (.tmp 60) = .tuple #[rsrc (.slice a0 l0.length c0) T2, y, .int .i64 E] ∧ Own w' w5.heap.size y L := hd 7 (by decide +kernel) (.inr (by decide))
                exact doesY_val (v := rsrc (.slice a0 l0.length c0) T2) rfl (by decide) (by unfold execOp; simp only [ey]; go_simp) rfl rfl
              · intro a w' hF hB hd
                obtain ⟨y, ey, oy⟩ : ∃ y, a.eval (.tmp 60) = .tuple #[rsrc (.slice a0 l0.length c0) T2, y, .int .i64 E] ∧ Own w' w5.heap.size y L := hd 7 (by decide +kernel) (.inr (by decide))
                exact doesY_val (v := y) rfl (by decide) (by unfold execOp; simp only [ey]; go_simp) ⟨y, rfl, oy⟩ rfl
              · intro a w' hF hB hd
                obtain ⟨y, ey, oy⟩ : ∃ y, a.eval (.tmp 60) = .tuple #[rsrc (.slice a0 l0.length c0) T2, y, .int .i64 E] ∧ Own w' w5.heap.size y L := hd 7 (by decide +kernel) (.inr (by decide))
                exact doesY_val (v := .int .i64 E) rfl (by decide) (by unfold execOp; simp only [ey]; go_simp) rfl rfl
              · intro a w' hF hB hd
                exact doesY_alloc rfl (by decide) 28 [.slice none 0 0, .int .i64 0] rfl (fun W => by kernel_rfl) hB.size rfl
              · intro a w' hF hB hd
                have e12 := hd 11 (by decide +kernel) (.inl (by decide))
                have e68 : a.eval (.tmp 68) = rsrc (.slice a0 l0.length c0) T2 := hd 8 (by decide +kernel) (.inr (by decide))
                exact doesY_store rfl 12 (.tmp 68) rfl rfl 11 (by decide +kernel) (by decide) [.slice none 0 0, .int .i64 0] [.slice a0 l0.length c0, .int .i64 (T2 : Int)] rfl rfl rfl e12 e68 rfl infoRS (by simp [Value.oneCell']) rfl
              · intro a w' hF hB hd
                obtain ⟨y, ey, oy⟩ : ∃ y, a.eval (.tmp 69) = y ∧ Own w' w5.heap.size y L := hd 9 (by decide +kernel) (.inr (by decide))
                exact doesY_val rfl (by decide) (ex_assign rfl ey) ⟨y, rfl, oy⟩ rfl
              · intro a w' hF hB hd
                have e70 : a.eval (.tmp 70) = .int .i64 E := hd 10 (by decide +kernel) (.inr (by decide))
                exact doesY_val rfl (by decide) (ex_assign rfl e70) rfl rfl
            · intro vs w6 hB hsame hv hap
              obtain ⟨cb, e12, hcb, kb⟩ : ∃ cc, vs 12 = .pointer (some ⟨cc, 0, none⟩) ∧ w5.heap.size ≤ cc ∧ Blk w6 cc 28 [.slice a0 l0.length c0, .int .i64 (T2 : Int)] := hv 12 (by omega) (by decide)
              obtain ⟨y6, e13, o6⟩ : ∃ y, vs 13 = y ∧ Own w6 w5.heap.size y L := hv 13 (by omega) (by decide)
              have e14 : vs 14 = .int .i64 E := hv 14 (by omega) (by decide)
              have e11 : vs 11 = .pointer (some ⟨cb, 0, none⟩) := (hsame 11 12 rfl).trans e12
              obtain ⟨a6, c6, rfl, _⟩ := o6.rd.shape
              rw [← HC.out] at o6 e13
              simp only [List.take_succ_cons, List.take_zero, List.drop_succ_cons, List.drop_zero, putOps, Act.put, List.setIfInBounds_toArray, List.set_cons_zero, List.set_cons_succ, e11, e13, e14]
              have hk6 := K5.out.below hB K5.out.lt
              have k70 := hk6.cell 0 _ rfl
              have k71 := hk6.cell 1 _ rfl
              have kf0 := hk6.free 0
              have kf1 := hk6.free 1
              have kb0 := kb.cell 0 _ rfl
              have kb1 := kb.cell 1 _ rfl
              have KB := Lib.hid kb
              have OC6 := Lib.hid o6
              have OB6 := Lib.hid (OB5.out.below hB)
              have S6 := Lib.hid (S5.out.below hB)
              have K6 := Lib.hid hk6
              have B6 := Lib.hid (B5.out.on hB)
              have Z6 := Lib.hid (Nat.le_trans Z5.out hB.size)
              have Z56 := Lib.hid hB.size
              clear hsame hv hap hB kb o6 e11 e12 e13 e14 hk6 hcb
              go_upto_region 15 with (fail)
              have hbz := KK.out.lt
              have hxz := SS.out.blk.lt
              have hgz := SS.out.inn.lt
              obtain ⟨z0, hz0⟩ : ∃ z, z = wr.heap.size := ⟨_, rfl⟩
              rw [← hz0] at hbz hxz hgz
              obtain ⟨w7, hw7⟩ : ∃ W, W = (w6.setCell ⟨b7, 0, none⟩ (.slice a0 l0.length c0)).setCell ⟨b7, 1, none⟩ (.int .i64 (T2 : Int)) := ⟨_, rfl⟩
              have g67 : w6.grownBy w7 (some b7) := by rw [hw7]; exact only_set (grownBy_cell w6 b7 0 (.slice a0 l0.length c0)) (p := ⟨b7, 1, none⟩) (.inl rfl) (.int .i64 (T2 : Int))
              have K7 := Lib.hid (show Blk w7 b7 28 [.slice a0 l0.length c0, .int .i64 (T2 : Int)] by rw [hw7]; exact (K6.out.set 0 (.slice a0 l0.length c0)).set 1 (.int .i64 (T2 : Int)))
              have OB7 := Lib.hid (show Own w7 z0 (.slice a5 c c5) L by rw [hz0]; exact OB6.out.keep g67 (.inr fun e => by have := (OB6.out.from _ e).1; omega))
              have OC7 := Lib.hid (OC6.out.keep g67 (.inr fun e => by have := (OC6.out.from _ e).1; have := Z5.out; omega))
              have S7 := Lib.hid (S6.out.grown g67 (fun e => HX7.out (Option.some.inj e)) (fun e => HG7.out (Option.some.inj e)))
              have B7 := Lib.hid (B6.out.grown g67 B6.out.size (fun j hj => by have : b7 = j := Option.some.inj hj; have := HBW.out; omega))
              rw [← hw7]
              have HBZ := Lib.hid hbz
              have HXZ := Lib.hid hxz
              have HGZ := Lib.hid hgz
              have HWZ := Lib.hid (show w.heap.size ≤ z0 by rw [hz0]; exact BB.out.size)
              clear hw7 g67 hbz hxz hgz hz0 k70 k71 kf0 kf1 kb0 kb1 cl
              refine wp_region_g (by kernel_rfl) 17 (by decide) (by kernel_rfl) (by kernel_rfl) (by kernel_rfl) (w7.heap.size) (Nat.le_refl _) [.val (.slice a5 c c5), .val (.string (bstr L)), .val (.slice a6 c c6), .val (.string (bstr L)), .val (.bool false), .val (.bool false), .val (.int .i64 E), .val (.int .i64 E), .val (.bool false), .val (.bool false), .val (.bool false), .val (.pointer (some ⟨x, 0, none⟩)), .val (.int .i64 (T2 : Int)), .val (.pointer (some ⟨b7, 1, none⟩)), .val (.int .i64 (T2 : Int)), .val (.bool false), .val (.bool false)] (fun _ => 17) ?_ ?_
              · refine ⟨?_, ?_, ?_, ?_, ?_, ?_, ?_, ?_, ?_, ?_, ?_, ?_, ?_, ?_, ?_, ?_, ?_, trivial⟩
                · intro a w' hF hB hd
                  have e10 : a.eval (.tmp 10) = .slice a5 c c5 := hF 10 (by decide +kernel)
                  exact doesG_val rfl (ex_move rfl e10) rfl rfl
                · intro a w' hF hB hd
                  have e72 : a.eval (.tmp 72) = .slice a5 c c5 := hd 0 (by decide +kernel) (.inr (by decide))
                  exact doesG_val rfl (ex_convert rfl e72 ((OB7.out.below hB).rd.str)) rfl rfl
                · intro a w' hF hB hd
                  have e13 : a.eval (.tmp 13) = .slice a6 c c6 := hF 13 (by decide +kernel)
                  exact doesG_val rfl (ex_move rfl e13) rfl rfl
                · intro a w' hF hB hd
                  have e74 : a.eval (.tmp 74) = .slice a6 c c6 := hd 2 (by decide +kernel) (.inr (by decide))
                  exact doesG_val rfl (ex_convert rfl e74 ((OC7.out.below hB).rd.str)) rfl rfl
                · intro a w' hF hB hd
                  have e73 : a.eval (.tmp 73) = .string (bstr L) := hd 1 (by decide +kernel) (.inr (by decide))
                  have e75 : a.eval (.tmp 75) = .string (bstr L) := hd 3 (by decide +kernel) (.inr (by decide))
                  exact doesG_val rfl (ex_binOp rfl e73 e75 (by go_simp) (by go_simp)) rfl rfl
                · intro a w' hF hB hd
                  have e76 : a.eval (.tmp 76) = .bool false := hd 4 (by decide +kernel) (.inr (by decide))
                  exact doesG_val rfl (ex_move rfl e76) rfl rfl
                · intro a w' hF hB hd
                  have e77 : a.eval (.tmp 77) = .bool false := hd 5 (by decide +kernel) (.inr (by decide))
                  have e11 : a.eval (.tmp 11) = .int .i64 E := hF 11 (by decide +kernel)
                  exact doesG_val (wanted_of rfl (yielded_of rfl e77)) (ex_move rfl e11) rfl rfl
                · intro a w' hF hB hd
                  have e77 : a.eval (.tmp 77) = .bool false := hd 5 (by decide +kernel) (.inr (by decide))
                  have e14 : a.eval (.tmp 14) = .int .i64 E := hF 14 (by decide +kernel)
                  exact doesG_val (wanted_of rfl (yielded_of rfl e77)) (ex_move rfl e14) rfl rfl
                · intro a w' hF hB hd
                  have e77 : a.eval (.tmp 77) = .bool false := hd 5 (by decide +kernel) (.inr (by decide))
                  have e78 : a.eval (.tmp 78) = .int .i64 E := hd 6 (by decide +kernel) (.inr (by decide))
                  have e79 : a.eval (.tmp 79) = .int .i64 E := hd 7 (by decide +kernel) (.inr (by decide))
                  exact doesG_val (wanted_of rfl (yielded_of rfl e77)) (ex_binOp rfl e78 e79 (by go_simp) (by go_simp)) rfl rfl
                · intro a w' hF hB hd
                  have e77 : a.eval (.tmp 77) = .bool false := hd 5 (by decide +kernel) (.inr (by decide))
                  have e80 : a.eval (.tmp 80) = .bool false := hd 8 (by decide +kernel) (.inr (by decide))
                  exact doesG_val rfl (ex_pick rfl e77 (by simp [e80])) rfl rfl
                · intro a w' hF hB hd
                  have e81 : a.eval (.tmp 81) = .bool false := hd 9 (by decide +kernel) (.inr (by decide))
                  exact doesG_val rfl (ex_move rfl e81) rfl rfl
                · intro a w' hF hB hd
                  have e82 : a.eval (.tmp 82) = .bool false := hd 10 (by decide +kernel) (.inr (by decide))
                  have e6 : a.eval (.tmp 6) = .pointer (some ⟨x, 0, none⟩) := hF 6 (by decide +kernel)
                  exact doesG_val (wanted_of rfl (yielded_of rfl e82)) (ex_move rfl e6) rfl rfl
                · intro a w' hF hB hd
                  have e82 : a.eval (.tmp 82) = .bool false := hd 10 (by decide +kernel) (.inr (by decide))
                  have e83 : a.eval (.tmp 83) = .pointer (some ⟨x, 0, none⟩) := hd 11 (by decide +kernel) (.inr (by decide))
                  exact doesG_call (wanted_of rfl (yielded_of rfl e82)) (ex_call (vs := #[.pointer (some ⟨x, 0, none⟩)]) rfl (by simp only [List.map_toArray, List.map_cons, List.map_nil, e83]) (by go_simp)) rfl ((pstaken_any w' x g l0 T2 (S7.out.below hB)).mono fun e w2 hh => ⟨_, hh.1, rfl, by rw [hh.2]; exact Below.refl _ _⟩)
                · intro a w' hF hB hd
                  have e82 : a.eval (.tmp 82) = .bool false := hd 10 (by decide +kernel) (.inr (by decide))
                  have e7 : a.eval (.tmp 7) = .pointer (some ⟨b7, 0, none⟩) := hF 7 (by decide +kernel)
                  exact doesG_val (wanted_of rfl (yielded_of rfl e82)) (v := .pointer (some ⟨b7, 1, none⟩)) (by unfold execOp; simp only [e7]; go_simp) rfl rfl
                · intro a w' hF hB hd
                  have e82 : a.eval (.tmp 82) = .bool false := hd 10 (by decide +kernel) (.inr (by decide))
                  have e85 : a.eval (.tmp 85) = .pointer (some ⟨b7, 1, none⟩) := hd 13 (by decide +kernel) (.inr (by decide))
                  have cb1 := (K7.out.below hB K7.out.lt).cell 1 _ rfl
                  exact doesG_val (wanted_of rfl (yielded_of rfl e82)) (v := .int .i64 (T2 : Int)) (by unfold execOp; simp only [e85]; go_simp) rfl rfl
                · intro a w' hF hB hd
                  have e82 : a.eval (.tmp 82) = .bool false := hd 10 (by decide +kernel) (.inr (by decide))
                  have e84 : a.eval (.tmp 84) = .int .i64 (T2 : Int) := hd 12 (by decide +kernel) (.inr (by decide))
                  have e86 : a.eval (.tmp 86) = .int .i64 (T2 : Int) := hd 14 (by decide +kernel) (.inr (by decide))
                  exact doesG_val (wanted_of rfl (yielded_of rfl e82)) (ex_binOp rfl e84 e86 (by go_simp) (by go_simp)) rfl rfl
                · intro a w' hF hB hd
                  have e82 : a.eval (.tmp 82) = .bool false := hd 10 (by decide +kernel) (.inr (by decide))
                  have e87 : a.eval (.tmp 87) = .bool false := hd 15 (by decide +kernel) (.inr (by decide))
                  exact doesG_val rfl (ex_pick rfl e82 (by simp [e87])) rfl rfl
              · intro vs w8 hB hv hap
                have e2 : vs 16 = .bool false := hv 16 (by decide) (by decide)
                simp only [List.take_succ_cons, List.take_zero, List.drop_succ_cons, List.drop_zero, putOps, Act.put, List.setIfInBounds_toArray, List.set_cons_zero, List.set_cons_succ, e2]
                have K8 := Lib.hid (K7.out.below hB K7.out.lt)
                have O8 := Lib.hid (OB7.out.below hB)
                have S8 := Lib.hid (S7.out.below hB)
                have B8 := Lib.hid (B7.out.on hB)
                clear hv hap e2 hB
                go_wp2_with fail
                go_loopw [15] (fun i wr => ∃ (j : Nat) (M : List Nat), j ≤ c ∧ i = .int .i64 (j : Int) ∧ M.length = c ∧ Own wr z0 (.slice a5 c c5) M ∧ Sc wr x g l0 T2 ∧ Blk wr b7 28 [.slice a0 l0.length c0, .int .i64 (T2 : Int)] ∧ Below w.heap.size w wr) (fun i _ => c - (intOf i).toNat)
                case atStart => exact ⟨0, L, Nat.zero_le _, rfl, HC.out.symm, O8.out, S8.out, K8.out, B8.out⟩
                case round =>
                  clear O8 S8 K8 B8
                  obtain ⟨j, M, hj, rfl, hM, om, s, kx, b⟩ := hrel
                  by_cases hjc : j < c
                  · obtain ⟨u, rfl⟩ := own_at om (by rw [hM]; omega)
                    have cu := om.cell hM.symm j (by rw [hM]; exact hjc)
                    have fu := om.free hM.symm j
                    have hb8 := om.2.1 j
                    obtain ⟨y, hy⟩ : ∃ y, y = gb M j := ⟨_, rfl⟩
                    rw [← hy] at cu hb8
                    obtain ⟨z, hz⟩ : ∃ z, z = (y + 1) % 256 := ⟨_, rfl⟩
                    have hz1 : ((y : Int) + 1) % 256 = (z : Int) := by omega
                    have hz2 : z < 256 := by omega
                    have hno := (om.from u rfl).1
                    have OM := Lib.hid om
                    have SN := Lib.hid s
                    have KN := Lib.hid kx
                    have BN := Lib.hid b
                    have HMM := Lib.hid hM
                    have HNO := Lib.hid hno
                    clear om s kx b hM hy hz hno
                    go_wp2_with fail
                    have hms := HMM.out
                    have o2 : Own (wr.setCell ⟨u, j, none⟩ (.int .u8 (z : Int))) z0 (.slice (some ⟨u, 0, none⟩) c c5) (M.set j z) := by
                      have h := OM.out; rw [← hms] at h ⊢; exact h.set j z hz2 (by omega)
                    have hg := grownBy_cell wr u j (.int .u8 (z : Int))
                    have hn1 := HNO.out
                    refine ⟨⟨j + 1, M.set j z, by omega, by go_num, by rw [List.length_set]; exact hms, o2, SN.out.grown hg (by intro e; have := Option.some.inj e; have := HXZ.out; omega) (by intro e; have := Option.some.inj e; have := HGZ.out; omega), KN.out.grown hg (by intro e; have := Option.some.inj e; have := HBZ.out; omega), BN.out.setCell (p := ⟨u, j, none⟩) (Nat.le_trans HWZ.out hn1) _⟩, by simp [intOf]; omega⟩
                  · obtain rfl : j = c := by omega
                    have SN := Lib.hid s
                    have KN := Lib.hid kx
                    have BN := Lib.hid b
                    clear om s kx b
                    go_wp2_with fail
                    exact ⟨⟨k + 1, T2, by omega, by go_num, HTT.out, SN.out, KN.out, BN.out⟩, by simp [intOf]; omega⟩
          · obtain rfl : k = l1.length := by omega
            have S9 := Lib.hid s
            have B9 := Lib.hid b
            clear s kk b
            go_wp2_with (go_at_call 6; (with_reducible refine (HAW.out _ B9.out).mono ?_); rintro e w10 ⟨rfl, b10⟩; have B10 := Lib.hid (B9.out.on b10); clear b10)
            go_ret
            exact ⟨rfl, B10.out⟩
set_option maxRecDepth 100000 in
theorem reads (os : Os) {H : Type} (enc : TypeId × Value → H) : ∃ places, DataW.whole enc Tryd.prog ((World.doorLaid Tryd.prog 400 os).forCall (fun _ _ => 0) ⟨#[], #[.slice none 0 0, .slice none 0 0], []⟩).memory Tryd.f3.params.toList Rows.entropyDrawsSpec.vars false (#[.slice none 0 0, .slice none 0 0] : Array Value).toList 8 = some ([.nil, .nil], [], places) :=
  ⟨[], by kernel_rfl⟩
set_option linter.unusedVariables false in
set_option maxHeartbeats 1000000 in
set_option maxRecDepth 100000 in
theorem lifted (os : Os) (started : os.Started) (H : Type) (enc : TypeId × Value → H) (F : Stop.Interp) :
    ReturnsInHanded {} Tryd.checked os 3 .any ((OpenSpec.ofChange Rows.entropyDrawsSpec).preRow enc Tryd.prog Tryd.f3 Rows.entropyDrawsRow.domain false laidB) (((OpenSpec.ofChange Rows.entropyDrawsSpec).at F).post enc Tryd.prog Tryd.f3 false true false false) := by
  obtain ⟨places, hx⟩ := reads os enc
  refine returnsInHanded_of_row (C := Tryd.checked) (s := OpenSpec.ofChange Rows.entropyDrawsSpec) own started (by kernel_rfl) Tryd.func3
    (witness_row_atRef (enc := enc) (C := Tryd.checked) false (World.doorLaid Tryd.prog 400 os) #[.slice none 0 0, .slice none 0 0] rfl (by kernel_rfl) (by kernel_rfl) (by kernel_rfl)
      (OpenSpec.preRow_of_cond 8 hx (by kernel_rfl) (fun k hk => by cases hk) (by kernel_rfl) (doorB_met os _))) ?_
  intro W base args ds gs before hval0 hW _ hcond hsz0 hL _ _
  have hsz : (DataW.weightsEach Tryd.prog (Tryd.f3.params.toList ++ Rows.entropyDrawsSpec.plain.varTypes Tryd.prog) (ds ++ gs)).all (· ≤ reachBytes) = true := hsz0
  clear hsz0
  have hval : ∀ (j : Nat) t v, Tryd.f3.params[j]? = some t → args[j]? = some v → Value.okWide Tryd.prog W .any base t v := hval0
  have hW' := hW
  obtain ⟨p, q, hA0, hV, rfl, _, _⟩ := hW
  have hA : DataW.TrodAll enc Tryd.prog W 0 (fun _ => true) true Tryd.f3.params.toList args.toList ds p := hA0
  rw [Tryd.params3] at hA hval hsz
  obtain ⟨v0, vs0, d0, ds0, p0, q0, hargs, rfl, rfl, g0, r0⟩ := trodAll_cons hA
  obtain ⟨v1, vs1, d1, ds1, p1, q1, rfl, rfl, rfl, g1, r1⟩ := trodAll_cons r0
  obtain ⟨rfl, rfl, rfl⟩ := trodAll_nil r1
  obtain rfl : args = #[v0, v1] := by cases args; simp_all
  obtain ⟨rfl, rfl⟩ := trodVars_none hV
  obtain ⟨l0, h0⟩ := open_bytes (hval 0 22 v0 rfl rfl) g0 (fun elems spare e => sized_slice hsz (j := 0) (t := 22) (e := 5) rfl (by rw [← e]; rfl) Tryd.underlying22)
  obtain ⟨l1, h1⟩ := open_nums Tryd.underlying23 Tryd.underlying32 cells32 (hval 1 23 v1 rfl rfl) g1
  clear hA0 hval0
  have hlt := hW'.lt
  refine (walk W (tabs_of_laid hL) v0 l0 h0 v1 l1 h1).mono fun e W' ⟨he, hb⟩ => ?_
  subst he
  have hargs : DataW.TrodAll enc Tryd.prog W' 0 (fun b => decide (b < W.heap.size)) true _ _ _ _ := (trodAll_cons_mk (Below.trod laidOut (by kernel_rfl) (of_decide_eq_true (by kernel_rfl)) g0 hb (fun x hx => hlt x (by simp [hx]))) (trodAll_cons_mk (Below.trod laidOut (by kernel_rfl) (of_decide_eq_true (by kernel_rfl)) g1 hb (fun x hx => hlt x (by simp [hx]))) trodAll_mk0))
  simp only [List.append_nil] at hW' hargs
  exact ⟨_, rfl, post_law hW' (trodAll_cons_mk (shut_bool Tryd.underlying4 _) trodAll_mk0) hargs rfl hb⟩

theorem over : Rows.entropyDrawsRow.holds Tryd.pinned (OpenSpec.ofChange Rows.entropyDrawsSpec) :=
  OpenClaim.holds_of_cond 3 Tryd.f3 rfl rfl rfl rfl rfl rfl rfl ⟨rfl, rfl, rfl, rfl, rfl⟩ rfl rfl rfl rfl rfl (by kernel_rfl) Tryd.func3 (by kernel_rfl)
    (of_decide_eq_true (by kernel_rfl)) (by unfold Func.isWrapper; first | (rw [if_pos (by decide +kernel)]; kernel_rfl) | (rw [if_neg (by decide +kernel)]; exact ⟨rfl, rfl⟩))
    (fun os started H enc _ F => by rw [OpenClaim.pre_eq_preRow]; exact lifted os started H enc F)

/-- The given statement. -/
theorem proved : Rows.EntropyDrawsCardSaid :=
  Claim7.holds_tied_plain_at .later [] _ _ _ _
    over (fun _ h => by cases h) (by kernel_rfl) (fun _ h => by cases h) entropyDraws_row_tie rfl ⟨rfl, rfl⟩ (by kernel_rfl) rfl
    (fun f fn hf hfn => by
      obtain rfl : f = 3 := Option.some.inj ((show Tryd.prog.funcNamed "reliquary/reliquarylaw09.EntropyDraws" = some 3 by kernel_rfl).symm.trans hf) |>.symm
      obtain rfl : fn = Tryd.f3 := (Option.some.inj (Tryd.func3.symm.trans hfn)).symm
      exact ⟨by kernel_rfl, fun j t ht => by
        rw [Tryd.params3] at ht
        have hm : t ∈ [22, 23] := by simpa using Array.mem_of_getElem? ht
        have hall : ([22, 23].all fun u => !Tryd.prog.wantsStandIn u) = true := by kernel_rfl
        exact (show Tryd.prog.wantsStandIn t = false by simpa using List.all_eq_true.1 hall t hm)⟩)
    (by kernel_rfl)
end Go.Proofs.YtdiljngokbfpcaaDoor.entropyDraws

/- DeviceSafe: what was synced is there behind any Start, but for sectors that were written since. No condition. -/
import Derived.Test.YtipdcocliefppaaRows
import Derived.Test.YtipdcocliefppaaDevSafe
import Derived.Test.YtipdcocliefppaaMapB
import Derived.Test.YtipdcocliefppaaMem
import Derived.Test.YtipdcocliefppaaActsD
import Derived.WalkKit
import Derived.ProofKit
import Derived.OpenShut
import Derived.SizedLaws
import Derived.Carry
import Derived.Deep.DeepHandedRow
import Derived.Deep.DeepWitnessRowRef
namespace Go.Proofs.Ytipdcocliefppaa.deviceSafe
open Go.ChangeShapes Go.WideShapes Go.ChangeAt Go.RowKit

theorem own : ownKnob Try.prog.godebug = none := by kernel_rfl
set_option linter.unusedVariables false in
set_option maxHeartbeats 8000000 in
set_option maxRecDepth 100000 in
theorem walk (w : World) (v0 : Value) (l0 : List AD) (h0 : ActsD w v0 l0) (v1 : Value) (l1 : List AD) (h1 : ActsD w v1 l1) (v2 : Value) (l2 : List Nat) (h2 : Rd w v2 l2) :
    Calls Try.prog 5 #[v0, v1, v2] w fun e w' => e = .returned (.bool true) ∧ Below w.heap.size w w' := by
  obtain ⟨ao0, cap0, rfl⟩ := h0.shape
  obtain ⟨ao1, cap1, rfl⟩ := h1.shape
  obtain ⟨ka, kc, rfl, hkc⟩ := h2.shape
  have HF0 := Lib.hid (few_any _ l0 w h0)
  have HF1 := Lib.hid (few_any _ l1 w h1)
  have H0 := Lib.hid h0
  have H1 := Lib.hid h1
  have H2 := Lib.hid h2
  clear h0 h1 h2
  cases hf0 : DM.few l0
  · rw [hf0] at HF0
    clear hf0
    go_enter Try.func5, Try.ntmps5
    go_wp2_with (first
      | (go_at_call 8; (with_reducible refine HF0.out.mono ?_); rintro e wz ⟨rfl, hq⟩; rw [hq]; clear hq wz)
      | (go_at_call 8; (with_reducible refine HF1.out.mono ?_); rintro e wz ⟨rfl, hq⟩; rw [hq]; clear hq wz)
      | (go_at_call 9; (with_reducible refine (dawake_any w).mono ?_); rintro e w2 ⟨rfl, b2⟩; have B2 := Lib.hid b2; clear b2))
    go_ret
    exact ⟨rfl, B2.out⟩
  · rw [hf0] at HF0
    cases hf1 : DM.few l1
    · rw [hf1] at HF1
      clear hf1 hf0
      go_enter Try.func5, Try.ntmps5
      go_wp2_with (first
        | (go_at_call 8; (with_reducible refine HF0.out.mono ?_); rintro e wz ⟨rfl, hq⟩; rw [hq]; clear hq wz)
        | (go_at_call 8; (with_reducible refine HF1.out.mono ?_); rintro e wz ⟨rfl, hq⟩; rw [hq]; clear hq wz)
        | (go_at_call 9; (with_reducible refine (dawake_any w).mono ?_); rintro e w2 ⟨rfl, b2⟩; have B2 := Lib.hid b2; clear b2))
      go_ret
      exact ⟨rfl, B2.out⟩
    · rw [hf1] at HF1
      have HWR := Lib.hid (written_any _ l0 w H0.out hf0)
      have HL := Lib.hid (DM.few_len hf0)
      have HL1 := Lib.hid (DM.few_len hf1)
      have HFF := Lib.hid hf1
      clear hf0 hf1
      obtain ⟨S, hS⟩ : ∃ S, S = DM.wrTo l0 l0.length := ⟨_, rfl⟩
      rw [← hS] at HWR
      clear hS
      have hmm := @run_makeMap Try.prog
      go_enter Try.func5, Try.ntmps5
      go_wp2_with (first
        | (go_at_call 8; (with_reducible refine HF0.out.mono ?_); rintro e wz ⟨rfl, hq⟩; rw [hq]; clear hq wz)
        | (go_at_call 8; (with_reducible refine HF1.out.mono ?_); rintro e wz ⟨rfl, hq⟩; rw [hq]; clear hq wz)
        | (go_at_call 29; (with_reducible refine HWR.out.mono ?_); rintro e w3 ⟨d, rfl, dv3, pl, b3⟩; have D3 := Lib.hid dv3; have PL := Lib.hid pl; have B3 := Lib.hid b3; have hsy := dev_sync w.heap.size (fun _ => False) d S w3 dv3 (pl.tameD (by have := HL.out; omega)); rewrite [DM.sync_ok pl] at hsy; have HS := Lib.hid hsy; clear dv3 pl b3 hsy HWR)
        | (go_at_call 20; (with_reducible refine HS.out.mono ?_); rintro e w4 ⟨rfl, d4, k4⟩; have SF := Lib.hid (DM.Safe.sync PL.out (fun _ => false)); obtain ⟨S4, hS4⟩ : ∃ S4, S4 = (DM.sync S).1 := ⟨_, rfl⟩; have hX0 : ∃ X, X = (DM.sync S).1.seen := ⟨_, rfl⟩; obtain ⟨X, hX⟩ := hX0; rewrite [← hX, ← hS4] at SF; rewrite [← hS4] at d4 hX; have D4 := Lib.hid d4; have B4 := Lib.hid (k4.below B3.out D3.out.size); have T4 := Lib.hid (SF.out.plain.tameD (by have := HL.out; omega)); have HB := Lib.hid (dev_bytes w.heap.size _ d S4 w4 d4 (SF.out.plain.tameD (by have := HL.out; omega))); rewrite [← hX] at HB; clear d4 k4 hS4 hX HS)
        | (go_at_call 28; (with_reducible refine HB.out.mono ?_); rintro e w5 ⟨y, rfl, o5, b5⟩; obtain ⟨ya, yc, rfl, _⟩ := o5.rd.shape; have O5 := Lib.hid o5; have D5 := Lib.hid (D4.out.own b5); have B5 := Lib.hid (B4.out.on b5); have Z5 := Lib.hid b5.size; clear o5 b5 HB))
      obtain ⟨mb, hmb⟩ : ∃ x, x = w5.heap.size := ⟨_, rfl⟩
      obtain ⟨w6, hw6⟩ : ∃ x, x = w5.alloc (.map #[] 0) := ⟨_, rfl⟩
      have b56 : Below w5.heap.size w5 w6 := by rw [hw6]; exact (Below.refl _ _).alloc (Nat.le_refl _) _
      obtain ⟨A, hA⟩ : ∃ A : Nat → Prop, A = fun k => (False ∨ (w4.heap.size ≤ k ∧ k < w5.heap.size)) ∨ (w5.heap.size ≤ k ∧ k < w6.heap.size) := ⟨_, rfl⟩
      have d6 := D5.out.own b56
      rw [← hA] at d6
      have AM := Lib.hid (show A mb by rw [hA, hmb]; exact .inr ⟨Nat.le_refl _, by rw [hw6]; simp⟩)
      have AY := Lib.hid (show ∀ g, (.slice ya X.length yc : Value).ownBlock = some g → A g ∧ g ≠ mb by
        intro g hg
        have h := O5.out.from g hg
        refine ⟨?_, by omega⟩
        rw [hA]; exact .inl (.inr h))
      have WM := Lib.hid (show w.heap.size ≤ mb by rw [hmb]; exact B5.out.size)
      have D6 := Lib.hid d6
      have O6 := Lib.hid (O5.out.below b56)
      have B6 := Lib.hid (B5.out.on b56)
      have M6 := Lib.hid (show MapB w6 mb 0 (fun _ => false) by rw [hw6, hmb]; exact MapB.made w5)
      rw [← hmb, ← hw6]
      clear hA hmb hw6 b56 d6 D5 O5 B5
      go_loopw [10] (fun i wr => ∃ (k : Nat) (T : DM.DS) (f : Int → Bool) (n : Nat), k ≤ l1.length ∧ i = .int .i64 (k : Int) ∧ DM.Safe T (l0.length + 1 + k) X f ∧ n ≤ 100 * k ∧ MapB wr mb n f ∧ Dev w.heap.size A wr d T ∧ Own wr w4.heap.size (.slice ya X.length yc) X ∧ Below w.heap.size w wr) (fun i _ => l1.length - (intOf i).toNat)
      case atStart => exact ⟨0, S4, _, 0, Nat.zero_le _, rfl, SF.out, Nat.le_refl _, M6.out, D6.out, O6.out, B6.out⟩
      case round =>
        clear D6 O6 B6 M6
        obtain ⟨k, T, f, n, hk, rfl, sf, hn, mp, dv, oo, bb⟩ := hrel
        have hkl := HL.out
        have hkl1 := HL1.out
        by_cases hk2 : k < l1.length
        · obtain ⟨x, hx⟩ : ∃ x, l1[k]? = some x := ⟨l1[k], List.getElem?_eq_getElem hk2⟩
          obtain ⟨b, off, u, rfl, hk8, hat, q0, q1, q2, _, hr⟩ := H1.out.at_ k x hx
          obtain ⟨ua, uc, rfl, _⟩ := hr.shape
          have C1 := Lib.hid ((bb.cell (World.block_lt_of_cell? w _ q1)).trans q1)
          have C2 := Lib.hid ((bb.cell (World.block_lt_of_cell? w _ q2)).trans q2)
          have Q1 := Lib.hid q1
          have Q2 := Lib.hid q2
          have hdl := DM.few_data HFF.out hx
          have TT := Lib.hid (sf.plain.tameD (by omega))
          have HLT := Lib.hid hk2
          have SF := Lib.hid sf
          have MP := Lib.hid mp
          have DV := Lib.hid dv
          have OO := Lib.hid oo
          have BB := Lib.hid bb
          have HD := Lib.hid hdl
          have HAT := Lib.hid hat
          have HR := Lib.hid hr
          have HNK := Lib.hid hn
          clear hx q0 q1 q2 hr sf mp dv oo bb hat hn
          by_cases hw : (DM.write T x.at_ x.data).2 = 0
          · obtain ⟨hp0, hp1, hp2, _, _⟩ := DM.write_good SF.out.plain x.at_ x.data hw
            obtain ⟨p, hp⟩ : ∃ p : Nat, x.at_ = (p : Int) := ⟨x.at_.toNat, by omega⟩
            have hpt : x.at_.toNat = p := by omega
            have hpb : p + x.data.length ≤ 16777216 := by omega
            have HPT := Lib.hid hpt
            obtain ⟨T2, hT2⟩ : ∃ T2, T2 = (DM.write T x.at_ x.data).1 := ⟨_, rfl⟩
            have HT2 := Lib.hid hT2
            have HW0 := Lib.hid hw
            have HP := Lib.hid hp
            have C1p := C1.out
            rw [hp] at C1p
            have C1p := Lib.hid C1p
            clear hp0 hp1 hp2 hp hpt hT2 hw
            go_upto_region 11 with (fail)
            refine wp_region_g (by kernel_rfl) 11 (by decide) (by kernel_rfl) (by kernel_rfl) (by kernel_rfl) (wr.heap.size) (Nat.le_refl _) [.val (.pointer (some ⟨d, 0, none⟩)), .val (.slice (some ⟨b, off, none⟩) l1.length cap1), .val (.int .i64 (k : Int)), .val (.pointer (some ⟨b, off + k * 4, none⟩)), .val (.pointer (some ⟨b, off + k * 4 + 1, none⟩)), .val (.int .i64 x.at_), .val (.slice (some ⟨b, off, none⟩) l1.length cap1), .val (.int .i64 (k : Int)), .val (.pointer (some ⟨b, off + k * 4, none⟩)), .val (.pointer (some ⟨b, off + k * 4 + 2, none⟩)), .val (.slice ua x.data.length uc)] (fun _ => 13) ?_ ?_
            · refine ⟨?_, ?_, ?_, ?_, ?_, ?_, ?_, ?_, ?_, ?_, ?_, trivial⟩
              · intro a w' hF hB hd
                have e7 : a.eval (.tmp 7) = .pointer (some ⟨d, 0, none⟩) := hF 7 (by decide +kernel)
                exact doesG_val rfl (ex_move rfl e7) rfl rfl
              · intro a w' hF hB hd
                have e1 : a.eval (.tmp 1) = .slice (some ⟨b, off, none⟩) l1.length cap1 := hF 1 (by decide +kernel)
                exact doesG_val rfl (ex_move rfl e1) rfl rfl
              · intro a w' hF hB hd
                have e10 : a.eval (.tmp 10) = .int .i64 (k : Int) := hF 10 (by decide +kernel)
                exact doesG_val rfl (ex_move rfl e10) rfl rfl
              · intro a w' hF hB hd
                have e42 : a.eval (.tmp 42) = .slice (some ⟨b, off, none⟩) l1.length cap1 := hd 1 (by decide +kernel) (.inr (by decide))
                have e43 : a.eval (.tmp 43) = .int .i64 (k : Int) := hd 2 (by decide +kernel) (.inr (by decide))
                have f42 : a.tmps[42]?.getD undef = .slice (some ⟨b, off, none⟩) l1.length cap1 := by rw [← Array.getD_eq_getD_getElem?]; exact e42
                have f43 : a.tmps[43]?.getD undef = .int .i64 (k : Int) := by rw [← Array.getD_eq_getD_getElem?]; exact e43
                have hkz : (k : Int) < (l1.length : Int) := by have := HLT.out; omega
                exact doesG_val rfl (v := .pointer (some ⟨b, off + k * 4, none⟩)) (by unfold execOp; go_simp) rfl rfl
              · intro a w' hF hB hd
                have e44 : a.eval (.tmp 44) = .pointer (some ⟨b, off + k * 4, none⟩) := hd 3 (by decide +kernel) (.inr (by decide))
                exact doesG_val rfl (v := .pointer (some ⟨b, off + k * 4 + 1, none⟩)) (by unfold execOp; simp only [e44]; go_simp) rfl rfl
              · intro a w' hF hB hd
                have e45 : a.eval (.tmp 45) = .pointer (some ⟨b, off + k * 4 + 1, none⟩) := hd 4 (by decide +kernel) (.inr (by decide))
                have cw := (hB.cell (World.block_lt_of_cell? _ _ C1.out)).trans C1.out
                exact doesG_val rfl (v := .int .i64 x.at_) (by unfold execOp; simp only [e45]; go_simp) rfl rfl
              · intro a w' hF hB hd
                have e1 : a.eval (.tmp 1) = .slice (some ⟨b, off, none⟩) l1.length cap1 := hF 1 (by decide +kernel)
                exact doesG_val rfl (ex_move rfl e1) rfl rfl
              · intro a w' hF hB hd
                have e10 : a.eval (.tmp 10) = .int .i64 (k : Int) := hF 10 (by decide +kernel)
                exact doesG_val rfl (ex_move rfl e10) rfl rfl
              · intro a w' hF hB hd
                have e47 : a.eval (.tmp 47) = .slice (some ⟨b, off, none⟩) l1.length cap1 := hd 6 (by decide +kernel) (.inr (by decide))
                have e48 : a.eval (.tmp 48) = .int .i64 (k : Int) := hd 7 (by decide +kernel) (.inr (by decide))
                have f47 : a.tmps[47]?.getD undef = .slice (some ⟨b, off, none⟩) l1.length cap1 := by rw [← Array.getD_eq_getD_getElem?]; exact e47
                have f48 : a.tmps[48]?.getD undef = .int .i64 (k : Int) := by rw [← Array.getD_eq_getD_getElem?]; exact e48
                have hkz : (k : Int) < (l1.length : Int) := by have := HLT.out; omega
                exact doesG_val rfl (v := .pointer (some ⟨b, off + k * 4, none⟩)) (by unfold execOp; go_simp) rfl rfl
              · intro a w' hF hB hd
                have e49 : a.eval (.tmp 49) = .pointer (some ⟨b, off + k * 4, none⟩) := hd 8 (by decide +kernel) (.inr (by decide))
                exact doesG_val rfl (v := .pointer (some ⟨b, off + k * 4 + 2, none⟩)) (by unfold execOp; simp only [e49]; go_simp) rfl rfl
              · intro a w' hF hB hd
                have e50 : a.eval (.tmp 50) = .pointer (some ⟨b, off + k * 4 + 2, none⟩) := hd 9 (by decide +kernel) (.inr (by decide))
                have cw := (hB.cell (World.block_lt_of_cell? _ _ C2.out)).trans C2.out
                exact doesG_val rfl (v := .slice ua x.data.length uc) (by unfold execOp; simp only [e50]; go_simp) rfl rfl
            · intro vs w6 hB hv hap
              have e0 : vs 0 = .pointer (some ⟨d, 0, none⟩) := hv 0 (by decide) (by decide)
              have e5 : vs 5 = .int .i64 x.at_ := hv 5 (by decide) (by decide)
              have e10 : vs 10 = .slice ua x.data.length uc := hv 10 (by decide) (by decide)
              simp only [List.take_succ_cons, List.take_zero, List.drop_succ_cons, List.drop_zero, putOps, Act.put, List.setIfInBounds_toArray, List.set_cons_zero, List.set_cons_succ, e0, e5, e10]
              have d6 := DV.out.below hB
              have hw6 := dev_write w.heap.size A d T w6 d6 TT.out x.at_ HAT.out (.slice ua x.data.length uc) x.data ((HR.out.below BB.out).below hB) (by have := HD.out; omega) (fun h0 g hg => .inl (rd_old HR.out h0 g hg))
              rw [HW0.out, ← HT2.out] at hw6
              have HW6 := Lib.hid hw6
              have BB6 := Lib.hid (BB.out.on hB)
              have OO6 := Lib.hid (OO.out.below hB)
              have MP6 := Lib.hid (MP.out.same (hB.block mb MP.out.lt))
              have SZ6 := Lib.hid d6.size
              clear hv hap e0 e5 e10 hB d6 hw6
              go_upto_region 12 with (go_at_call 19; (with_reducible refine HW6.out.mono ?_); rintro e w7 ⟨rfl, d7, k7⟩; have D7 := Lib.hid d7; have B7 := Lib.hid (k7.below BB6.out SZ6.out); have O7 := Lib.hid (own_kept OO6.out k7 (fun g hg => .inr (AY.out g hg).1)); have M7 := Lib.hid (MP6.out.same (k7.block mb MP6.out.lt (.inr AM.out))); clear d7 k7 HW6)
              have c7 := (B7.out.cell (World.block_lt_of_cell? w _ Q1.out)).trans Q1.out
              rw [HP.out] at c7
              go_wp2_with fail
              clear c7
              go_loopw [11] (fun i wq => ∃ (j n2 : Nat) (f2 : Int → Bool), j ≤ x.data.length / 512 + 2 ∧ i = .int .i64 (((p / 512 + j : Nat)) : Int) ∧ (∀ s, f s = true → f2 s = true) ∧ (∀ i : Nat, i < j → f2 ((p / 512 + i : Nat) : Int) = true) ∧ n2 ≤ 100 * k + j ∧ MapB wq mb n2 f2 ∧ Dev w.heap.size A wq d T2 ∧ Own wq w4.heap.size (.slice ya X.length yc) X ∧ Below w.heap.size w wq) (fun i _ => (p + x.data.length) / 512 + 2 - (intOf i).toNat)
              case atStart => exact ⟨0, n, f, Nat.zero_le _, by rw [Nat.add_zero]; rfl, fun _ h => h, fun i hi => absurd hi (Nat.not_lt_zero _), HNK.out, M7.out, D7.out, O7.out, B7.out⟩
              case round =>
                clear M7 D7 O7 B7
                obtain ⟨j, n2, f2, hj, rfl, hf2, hfj, hn2, mq, dq, oq, bq⟩ := hrel
                obtain ⟨q, hq⟩ : ∃ q, q = p / 512 + j := ⟨_, rfl⟩
                rw [← hq]
                have hdl2 := HD.out
                have C1 := Lib.hid (show wr.cell? ⟨b, off + k * 4 + 1, none⟩ = some (.int .i64 (p : Int)) by rw [← HP.out]; exact (bq.cell (World.block_lt_of_cell? w _ Q1.out)).trans Q1.out)
                have C2 := Lib.hid ((bq.cell (World.block_lt_of_cell? w _ Q2.out)).trans Q2.out)
                have MQ := Lib.hid mq
                have DQ := Lib.hid dq
                have OQ := Lib.hid oq
                have BQ := Lib.hid bq
                have HQ := Lib.hid hq
                have HF2 := Lib.hid hf2
                have HFJ := Lib.hid hfj
                have HN2 := Lib.hid hn2
                clear mq dq oq bq hf2 hfj hn2
                by_cases hlt : q * 512 < p + x.data.length
                · have hqb : q ≤ 100000 := by omega
                  have hltI : (q : Int) * 512 < (p : Int) + (x.data.length : Int) := by omega
                  clear hq
                  go_upto_region 13 with (fail)
                  refine wp_region_g (by kernel_rfl) 15 (by decide) (by kernel_rfl) (by kernel_rfl) (by kernel_rfl) (wr.heap.size) (Nat.le_refl _) [.val (.int .i64 (q : Int)), .val (.int .i64 ((q : Int) * 512)), .val (.slice (some ⟨b, off, none⟩) l1.length cap1), .val (.int .i64 (k : Int)), .val (.pointer (some ⟨b, off + k * 4, none⟩)), .val (.pointer (some ⟨b, off + k * 4 + 1, none⟩)), .val (.int .i64 (p : Int)), .val (.slice (some ⟨b, off, none⟩) l1.length cap1), .val (.int .i64 (k : Int)), .val (.pointer (some ⟨b, off + k * 4, none⟩)), .val (.pointer (some ⟨b, off + k * 4 + 2, none⟩)), .val (.slice ua x.data.length uc), .val (.int .i64 (x.data.length : Int)), .val (.int .i64 ((p : Int) + (x.data.length : Int))), .val (.bool true)] (fun _ => 15) ?_ ?_
                  · refine ⟨?_, ?_, ?_, ?_, ?_, ?_, ?_, ?_, ?_, ?_, ?_, ?_, ?_, ?_, ?_, trivial⟩
                    · intro a w' hF hB hd
                      have e11 : a.eval (.tmp 11) = .int .i64 (q : Int) := hF 11 (by decide +kernel)
                      exact doesG_val rfl (ex_move rfl e11) rfl rfl
                    · intro a w' hF hB hd
                      have e60 : a.eval (.tmp 60) = .int .i64 (q : Int) := hd 0 (by decide +kernel) (.inr (by decide))
                      exact doesG_val rfl (ex_binOp rfl e60 rfl (by go_simp) (by go_simp; rw [IntKind.wrap_i64]; omega)) rfl rfl
                    · intro a w' hF hB hd
                      have e1 : a.eval (.tmp 1) = .slice (some ⟨b, off, none⟩) l1.length cap1 := hF 1 (by decide +kernel)
                      exact doesG_val rfl (ex_move rfl e1) rfl rfl
                    · intro a w' hF hB hd
                      have e10 : a.eval (.tmp 10) = .int .i64 (k : Int) := hF 10 (by decide +kernel)
                      exact doesG_val rfl (ex_move rfl e10) rfl rfl
                    · intro a w' hF hB hd
                      have e62 : a.eval (.tmp 62) = .slice (some ⟨b, off, none⟩) l1.length cap1 := hd 2 (by decide +kernel) (.inr (by decide))
                      have e63 : a.eval (.tmp 63) = .int .i64 (k : Int) := hd 3 (by decide +kernel) (.inr (by decide))
                      have f62 : a.tmps[62]?.getD undef = .slice (some ⟨b, off, none⟩) l1.length cap1 := by rw [← Array.getD_eq_getD_getElem?]; exact e62
                      have f63 : a.tmps[63]?.getD undef = .int .i64 (k : Int) := by rw [← Array.getD_eq_getD_getElem?]; exact e63
                      have hkz : (k : Int) < (l1.length : Int) := by have := HLT.out; omega
                      exact doesG_val rfl (v := .pointer (some ⟨b, off + k * 4, none⟩)) (by unfold execOp; go_simp) rfl rfl
                    · intro a w' hF hB hd
                      have e64 : a.eval (.tmp 64) = .pointer (some ⟨b, off + k * 4, none⟩) := hd 4 (by decide +kernel) (.inr (by decide))
                      exact doesG_val rfl (v := .pointer (some ⟨b, off + k * 4 + 1, none⟩)) (by unfold execOp; simp only [e64]; go_simp) rfl rfl
                    · intro a w' hF hB hd
                      have e65 : a.eval (.tmp 65) = .pointer (some ⟨b, off + k * 4 + 1, none⟩) := hd 5 (by decide +kernel) (.inr (by decide))
                      have cw := (hB.cell (World.block_lt_of_cell? _ _ C1.out)).trans C1.out
                      exact doesG_val rfl (v := .int .i64 (p : Int)) (by unfold execOp; simp only [e65]; go_simp) rfl rfl
                    · intro a w' hF hB hd
                      have e1 : a.eval (.tmp 1) = .slice (some ⟨b, off, none⟩) l1.length cap1 := hF 1 (by decide +kernel)
                      exact doesG_val rfl (ex_move rfl e1) rfl rfl
                    · intro a w' hF hB hd
                      have e10 : a.eval (.tmp 10) = .int .i64 (k : Int) := hF 10 (by decide +kernel)
                      exact doesG_val rfl (ex_move rfl e10) rfl rfl
                    · intro a w' hF hB hd
                      have e67 : a.eval (.tmp 67) = .slice (some ⟨b, off, none⟩) l1.length cap1 := hd 7 (by decide +kernel) (.inr (by decide))
                      have e68 : a.eval (.tmp 68) = .int .i64 (k : Int) := hd 8 (by decide +kernel) (.inr (by decide))
                      have f67 : a.tmps[67]?.getD undef = .slice (some ⟨b, off, none⟩) l1.length cap1 := by rw [← Array.getD_eq_getD_getElem?]; exact e67
                      have f68 : a.tmps[68]?.getD undef = .int .i64 (k : Int) := by rw [← Array.getD_eq_getD_getElem?]; exact e68
                      have hkz : (k : Int) < (l1.length : Int) := by have := HLT.out; omega
                      exact doesG_val rfl (v := .pointer (some ⟨b, off + k * 4, none⟩)) (by unfold execOp; go_simp) rfl rfl
                    · intro a w' hF hB hd
                      have e69 : a.eval (.tmp 69) = .pointer (some ⟨b, off + k * 4, none⟩) := hd 9 (by decide +kernel) (.inr (by decide))
                      exact doesG_val rfl (v := .pointer (some ⟨b, off + k * 4 + 2, none⟩)) (by unfold execOp; simp only [e69]; go_simp) rfl rfl
                    · intro a w' hF hB hd
                      have e70 : a.eval (.tmp 70) = .pointer (some ⟨b, off + k * 4 + 2, none⟩) := hd 10 (by decide +kernel) (.inr (by decide))
                      have cw := (hB.cell (World.block_lt_of_cell? _ _ C2.out)).trans C2.out
                      exact doesG_val rfl (v := .slice ua x.data.length uc) (by unfold execOp; simp only [e70]; go_simp) rfl rfl
                    · intro a w' hF hB hd
                      have e71 : a.eval (.tmp 71) = .slice ua x.data.length uc := hd 11 (by decide +kernel) (.inr (by decide))
                      exact doesG_val rfl (v := .int .i64 (x.data.length : Int)) (by simp only [execOp, resolve, invoke, builtin, Sem.run_bind, Sem.run_pure, Result.andThen_ok, List.map_toArray, List.map_cons, List.map_nil, e71]; go_simp) rfl rfl
                    · intro a w' hF hB hd
                      have e66 : a.eval (.tmp 66) = .int .i64 (p : Int) := hd 6 (by decide +kernel) (.inr (by decide))
                      have e72 : a.eval (.tmp 72) = .int .i64 (x.data.length : Int) := hd 12 (by decide +kernel) (.inr (by decide))
                      exact doesG_val rfl (ex_binOp rfl e66 e72 (by go_simp) (by go_simp; rw [IntKind.wrap_i64]; omega)) rfl rfl
                    · intro a w' hF hB hd
                      have e61 : a.eval (.tmp 61) = .int .i64 ((q : Int) * 512) := hd 1 (by decide +kernel) (.inr (by decide))
                      have e73 : a.eval (.tmp 73) = .int .i64 ((p : Int) + (x.data.length : Int)) := hd 13 (by decide +kernel) (.inr (by decide))
                      exact doesG_val rfl (ex_binOp rfl e61 e73 (by go_simp) (by go_simp)) rfl rfl
                  · intro vs w8 hB hv hap
                    have e14 : vs 14 = .bool true := hv 14 (by decide) (by decide)
                    simp only [List.take_succ_cons, List.take_zero, List.drop_succ_cons, List.drop_zero, putOps, Act.put, List.setIfInBounds_toArray, List.set_cons_zero, List.set_cons_succ, e14]
                    have M8 := Lib.hid (MQ.out.same (hB.block mb MQ.out.lt))
                    have D8 := Lib.hid (DQ.out.below hB)
                    have O8 := Lib.hid (OQ.out.below hB)
                    have B8 := Lib.hid (BQ.out.on hB)
                    clear hv hap e14 hB
                    go_wp2_with (at_mapUpdate; refine wpList_put_bool rfl _ _ _ rfl mb n2 f2 rfl M8.out (by have := HN2.out; omega) (q : Int) (by simp [Lit.wf, IntKind.min, IntKind.max, IntKind.signed, IntKind.bits]; omega) rfl rfl ?_; intro w9 m9 g9; have M9 := Lib.hid m9; have D9 := Lib.hid (D8.out.turn g9 (fun y hy => by rw [← Option.some.inj hy]; exact AM.out)); have O9 := Lib.hid (O8.out.keep g9 (by
                      cases hya : (Value.slice ya X.length yc).ownBlock with
                      | none => exact .inl rfl
                      | some z => exact .inr (fun e => (AY.out z hya).2 (Option.some.inj e)))); have B9 := Lib.hid (B8.out.grown g9 B8.out.size (fun y hy => by rw [← Option.some.inj hy]; exact WM.out)); clear m9 g9)
                    refine ⟨⟨j + 1, n2 + 1, _, by have := HQ.out; omega, by rw [show p / 512 + (j + 1) = q + 1 by rw [HQ.out]; omega]; go_num, fun s hs => ?_, fun i hi => ?_, by have := HN2.out; omega, M9.out, D9.out, O9.out, B9.out⟩, by simp [intOf]; omega⟩
                    · show (if s = (q : Int) then true else f2 s) = true
                      split
                      · rfl
                      · exact HF2.out s hs
                    · show (if ((p / 512 + i : Nat) : Int) = (q : Int) then true else f2 _) = true
                      split
                      · rfl
                      · rename_i h; exact HFJ.out i (by have := HQ.out; omega)
                · have hqb : q ≤ 100000 := by omega
                  have hltI : ¬ (q : Int) * 512 < (p : Int) + (x.data.length : Int) := by omega
                  clear hq
                  go_upto_region 13 with (fail)
                  refine wp_region_g (by kernel_rfl) 15 (by decide) (by kernel_rfl) (by kernel_rfl) (by kernel_rfl) (wr.heap.size) (Nat.le_refl _) [.val (.int .i64 (q : Int)), .val (.int .i64 ((q : Int) * 512)), .val (.slice (some ⟨b, off, none⟩) l1.length cap1), .val (.int .i64 (k : Int)), .val (.pointer (some ⟨b, off + k * 4, none⟩)), .val (.pointer (some ⟨b, off + k * 4 + 1, none⟩)), .val (.int .i64 (p : Int)), .val (.slice (some ⟨b, off, none⟩) l1.length cap1), .val (.int .i64 (k : Int)), .val (.pointer (some ⟨b, off + k * 4, none⟩)), .val (.pointer (some ⟨b, off + k * 4 + 2, none⟩)), .val (.slice ua x.data.length uc), .val (.int .i64 (x.data.length : Int)), .val (.int .i64 ((p : Int) + (x.data.length : Int))), .val (.bool false)] (fun _ => 15) ?_ ?_
                  · refine ⟨?_, ?_, ?_, ?_, ?_, ?_, ?_, ?_, ?_, ?_, ?_, ?_, ?_, ?_, ?_, trivial⟩
                    · intro a w' hF hB hd
                      have e11 : a.eval (.tmp 11) = .int .i64 (q : Int) := hF 11 (by decide +kernel)
                      exact doesG_val rfl (ex_move rfl e11) rfl rfl
                    · intro a w' hF hB hd
                      have e60 : a.eval (.tmp 60) = .int .i64 (q : Int) := hd 0 (by decide +kernel) (.inr (by decide))
                      exact doesG_val rfl (ex_binOp rfl e60 rfl (by go_simp) (by go_simp; rw [IntKind.wrap_i64]; omega)) rfl rfl
                    · intro a w' hF hB hd
                      have e1 : a.eval (.tmp 1) = .slice (some ⟨b, off, none⟩) l1.length cap1 := hF 1 (by decide +kernel)
                      exact doesG_val rfl (ex_move rfl e1) rfl rfl
                    · intro a w' hF hB hd
                      have e10 : a.eval (.tmp 10) = .int .i64 (k : Int) := hF 10 (by decide +kernel)
                      exact doesG_val rfl (ex_move rfl e10) rfl rfl
                    · intro a w' hF hB hd
                      have e62 : a.eval (.tmp 62) = .slice (some ⟨b, off, none⟩) l1.length cap1 := hd 2 (by decide +kernel) (.inr (by decide))
                      have e63 : a.eval (.tmp 63) = .int .i64 (k : Int) := hd 3 (by decide +kernel) (.inr (by decide))
                      have f62 : a.tmps[62]?.getD undef = .slice (some ⟨b, off, none⟩) l1.length cap1 := by rw [← Array.getD_eq_getD_getElem?]; exact e62
                      have f63 : a.tmps[63]?.getD undef = .int .i64 (k : Int) := by rw [← Array.getD_eq_getD_getElem?]; exact e63
                      have hkz : (k : Int) < (l1.length : Int) := by have := HLT.out; omega
                      exact doesG_val rfl (v := .pointer (some ⟨b, off + k * 4, none⟩)) (by unfold execOp; go_simp) rfl rfl
                    · intro a w' hF hB hd
                      have e64 : a.eval (.tmp 64) = .pointer (some ⟨b, off + k * 4, none⟩) := hd 4 (by decide +kernel) (.inr (by decide))
                      exact doesG_val rfl (v := .pointer (some ⟨b, off + k * 4 + 1, none⟩)) (by unfold execOp; simp only [e64]; go_simp) rfl rfl
                    · intro a w' hF hB hd
                      have e65 : a.eval (.tmp 65) = .pointer (some ⟨b, off + k * 4 + 1, none⟩) := hd 5 (by decide +kernel) (.inr (by decide))
                      have cw := (hB.cell (World.block_lt_of_cell? _ _ C1.out)).trans C1.out
                      exact doesG_val rfl (v := .int .i64 (p : Int)) (by unfold execOp; simp only [e65]; go_simp) rfl rfl
                    · intro a w' hF hB hd
                      have e1 : a.eval (.tmp 1) = .slice (some ⟨b, off, none⟩) l1.length cap1 := hF 1 (by decide +kernel)
                      exact doesG_val rfl (ex_move rfl e1) rfl rfl
                    · intro a w' hF hB hd
                      have e10 : a.eval (.tmp 10) = .int .i64 (k : Int) := hF 10 (by decide +kernel)
                      exact doesG_val rfl (ex_move rfl e10) rfl rfl
                    · intro a w' hF hB hd
                      have e67 : a.eval (.tmp 67) = .slice (some ⟨b, off, none⟩) l1.length cap1 := hd 7 (by decide +kernel) (.inr (by decide))
                      have e68 : a.eval (.tmp 68) = .int .i64 (k : Int) := hd 8 (by decide +kernel) (.inr (by decide))
                      have f67 : a.tmps[67]?.getD undef = .slice (some ⟨b, off, none⟩) l1.length cap1 := by rw [← Array.getD_eq_getD_getElem?]; exact e67
                      have f68 : a.tmps[68]?.getD undef = .int .i64 (k : Int) := by rw [← Array.getD_eq_getD_getElem?]; exact e68
                      have hkz : (k : Int) < (l1.length : Int) := by have := HLT.out; omega
                      exact doesG_val rfl (v := .pointer (some ⟨b, off + k * 4, none⟩)) (by unfold execOp; go_simp) rfl rfl
                    · intro a w' hF hB hd
                      have e69 : a.eval (.tmp 69) = .pointer (some ⟨b, off + k * 4, none⟩) := hd 9 (by decide +kernel) (.inr (by decide))
                      exact doesG_val rfl (v := .pointer (some ⟨b, off + k * 4 + 2, none⟩)) (by unfold execOp; simp only [e69]; go_simp) rfl rfl
                    · intro a w' hF hB hd
                      have e70 : a.eval (.tmp 70) = .pointer (some ⟨b, off + k * 4 + 2, none⟩) := hd 10 (by decide +kernel) (.inr (by decide))
                      have cw := (hB.cell (World.block_lt_of_cell? _ _ C2.out)).trans C2.out
                      exact doesG_val rfl (v := .slice ua x.data.length uc) (by unfold execOp; simp only [e70]; go_simp) rfl rfl
                    · intro a w' hF hB hd
                      have e71 : a.eval (.tmp 71) = .slice ua x.data.length uc := hd 11 (by decide +kernel) (.inr (by decide))
                      exact doesG_val rfl (v := .int .i64 (x.data.length : Int)) (by simp only [execOp, resolve, invoke, builtin, Sem.run_bind, Sem.run_pure, Result.andThen_ok, List.map_toArray, List.map_cons, List.map_nil, e71]; go_simp) rfl rfl
                    · intro a w' hF hB hd
                      have e66 : a.eval (.tmp 66) = .int .i64 (p : Int) := hd 6 (by decide +kernel) (.inr (by decide))
                      have e72 : a.eval (.tmp 72) = .int .i64 (x.data.length : Int) := hd 12 (by decide +kernel) (.inr (by decide))
                      exact doesG_val rfl (ex_binOp rfl e66 e72 (by go_simp) (by go_simp; rw [IntKind.wrap_i64]; omega)) rfl rfl
                    · intro a w' hF hB hd
                      have e61 : a.eval (.tmp 61) = .int .i64 ((q : Int) * 512) := hd 1 (by decide +kernel) (.inr (by decide))
                      have e73 : a.eval (.tmp 73) = .int .i64 ((p : Int) + (x.data.length : Int)) := hd 13 (by decide +kernel) (.inr (by decide))
                      exact doesG_val rfl (ex_binOp rfl e61 e73 (by go_simp) (by go_simp)) rfl rfl
                  · intro vs w8 hB hv hap
                    have e14 : vs 14 = .bool false := hv 14 (by decide) (by decide)
                    simp only [List.take_succ_cons, List.take_zero, List.drop_succ_cons, List.drop_zero, putOps, Act.put, List.setIfInBounds_toArray, List.set_cons_zero, List.set_cons_succ, e14]
                    have M8 := Lib.hid (MQ.out.same (hB.block mb MQ.out.lt))
                    have D8 := Lib.hid (DQ.out.below hB)
                    have O8 := Lib.hid (OQ.out.below hB)
                    have B8 := Lib.hid (BQ.out.on hB)
                    clear hv hap e14 hB
                    go_wp2_with fail
                    have hs2 : DM.Safe T2 (l0.length + 1 + (k + 1)) X f2 := by
                      rw [HT2.out]
                      exact SF.out.write x.at_ x.data HR.out.byte HD.out HW0.out HF2.out (fun j' hj' => by
                        rw [HPT.out] at hj' ⊢
                        obtain ⟨_, h⟩ := DM.many_pos hj'
                        exact HFJ.out j' (by have := HQ.out; omega))
                    exact ⟨⟨k + 1, T2, f2, n2, by omega, by go_num, hs2, by have := HN2.out; omega, M8.out, D8.out, O8.out, B8.out⟩, by simp [intOf]; omega⟩
          · obtain ⟨E, hE⟩ : ∃ E, E = (DM.write T x.at_ x.data).2 := ⟨_, rfl⟩
            have hbad := DM.write_bad SF.out.plain x.at_ x.data hw
            rw [← hE] at hw
            have HE := Lib.hid hE
            have HBAD := Lib.hid hbad
            have hE2 : (E != 0) = true := by simp [hw]
            clear hE hbad
            go_upto_region 11 with (fail)
            refine wp_region_g (by kernel_rfl) 11 (by decide) (by kernel_rfl) (by kernel_rfl) (by kernel_rfl) (wr.heap.size) (Nat.le_refl _) [.val (.pointer (some ⟨d, 0, none⟩)), .val (.slice (some ⟨b, off, none⟩) l1.length cap1), .val (.int .i64 (k : Int)), .val (.pointer (some ⟨b, off + k * 4, none⟩)), .val (.pointer (some ⟨b, off + k * 4 + 1, none⟩)), .val (.int .i64 x.at_), .val (.slice (some ⟨b, off, none⟩) l1.length cap1), .val (.int .i64 (k : Int)), .val (.pointer (some ⟨b, off + k * 4, none⟩)), .val (.pointer (some ⟨b, off + k * 4 + 2, none⟩)), .val (.slice ua x.data.length uc)] (fun _ => 13) ?_ ?_
            · refine ⟨?_, ?_, ?_, ?_, ?_, ?_, ?_, ?_, ?_, ?_, ?_, trivial⟩
              · intro a w' hF hB hd
                have e7 : a.eval (.tmp 7) = .pointer (some ⟨d, 0, none⟩) := hF 7 (by decide +kernel)
                exact doesG_val rfl (ex_move rfl e7) rfl rfl
              · intro a w' hF hB hd
                have e1 : a.eval (.tmp 1) = .slice (some ⟨b, off, none⟩) l1.length cap1 := hF 1 (by decide +kernel)
                exact doesG_val rfl (ex_move rfl e1) rfl rfl
              · intro a w' hF hB hd
                have e10 : a.eval (.tmp 10) = .int .i64 (k : Int) := hF 10 (by decide +kernel)
                exact doesG_val rfl (ex_move rfl e10) rfl rfl
              · intro a w' hF hB hd
                have e42 : a.eval (.tmp 42) = .slice (some ⟨b, off, none⟩) l1.length cap1 := hd 1 (by decide +kernel) (.inr (by decide))
                have e43 : a.eval (.tmp 43) = .int .i64 (k : Int) := hd 2 (by decide +kernel) (.inr (by decide))
                have f42 : a.tmps[42]?.getD undef = .slice (some ⟨b, off, none⟩) l1.length cap1 := by rw [← Array.getD_eq_getD_getElem?]; exact e42
                have f43 : a.tmps[43]?.getD undef = .int .i64 (k : Int) := by rw [← Array.getD_eq_getD_getElem?]; exact e43
                have hkz : (k : Int) < (l1.length : Int) := by have := HLT.out; omega
                exact doesG_val rfl (v := .pointer (some ⟨b, off + k * 4, none⟩)) (by unfold execOp; go_simp) rfl rfl
              · intro a w' hF hB hd
                have e44 : a.eval (.tmp 44) = .pointer (some ⟨b, off + k * 4, none⟩) := hd 3 (by decide +kernel) (.inr (by decide))
                exact doesG_val rfl (v := .pointer (some ⟨b, off + k * 4 + 1, none⟩)) (by unfold execOp; simp only [e44]; go_simp) rfl rfl
              · intro a w' hF hB hd
                have e45 : a.eval (.tmp 45) = .pointer (some ⟨b, off + k * 4 + 1, none⟩) := hd 4 (by decide +kernel) (.inr (by decide))
                have cw := (hB.cell (World.block_lt_of_cell? _ _ C1.out)).trans C1.out
                exact doesG_val rfl (v := .int .i64 x.at_) (by unfold execOp; simp only [e45]; go_simp) rfl rfl
              · intro a w' hF hB hd
                have e1 : a.eval (.tmp 1) = .slice (some ⟨b, off, none⟩) l1.length cap1 := hF 1 (by decide +kernel)
                exact doesG_val rfl (ex_move rfl e1) rfl rfl
              · intro a w' hF hB hd
                have e10 : a.eval (.tmp 10) = .int .i64 (k : Int) := hF 10 (by decide +kernel)
                exact doesG_val rfl (ex_move rfl e10) rfl rfl
              · intro a w' hF hB hd
                have e47 : a.eval (.tmp 47) = .slice (some ⟨b, off, none⟩) l1.length cap1 := hd 6 (by decide +kernel) (.inr (by decide))
                have e48 : a.eval (.tmp 48) = .int .i64 (k : Int) := hd 7 (by decide +kernel) (.inr (by decide))
                have f47 : a.tmps[47]?.getD undef = .slice (some ⟨b, off, none⟩) l1.length cap1 := by rw [← Array.getD_eq_getD_getElem?]; exact e47
                have f48 : a.tmps[48]?.getD undef = .int .i64 (k : Int) := by rw [← Array.getD_eq_getD_getElem?]; exact e48
                have hkz : (k : Int) < (l1.length : Int) := by have := HLT.out; omega
                exact doesG_val rfl (v := .pointer (some ⟨b, off + k * 4, none⟩)) (by unfold execOp; go_simp) rfl rfl
              · intro a w' hF hB hd
                have e49 : a.eval (.tmp 49) = .pointer (some ⟨b, off + k * 4, none⟩) := hd 8 (by decide +kernel) (.inr (by decide))
                exact doesG_val rfl (v := .pointer (some ⟨b, off + k * 4 + 2, none⟩)) (by unfold execOp; simp only [e49]; go_simp) rfl rfl
              · intro a w' hF hB hd
                have e50 : a.eval (.tmp 50) = .pointer (some ⟨b, off + k * 4 + 2, none⟩) := hd 9 (by decide +kernel) (.inr (by decide))
                have cw := (hB.cell (World.block_lt_of_cell? _ _ C2.out)).trans C2.out
                exact doesG_val rfl (v := .slice ua x.data.length uc) (by unfold execOp; simp only [e50]; go_simp) rfl rfl
            · intro vs w6 hB hv hap
              have e0 : vs 0 = .pointer (some ⟨d, 0, none⟩) := hv 0 (by decide) (by decide)
              have e5 : vs 5 = .int .i64 x.at_ := hv 5 (by decide) (by decide)
              have e10 : vs 10 = .slice ua x.data.length uc := hv 10 (by decide) (by decide)
              simp only [List.take_succ_cons, List.take_zero, List.drop_succ_cons, List.drop_zero, putOps, Act.put, List.setIfInBounds_toArray, List.set_cons_zero, List.set_cons_succ, e0, e5, e10]
              have d6 := DV.out.below hB
              have hw6 := dev_write w.heap.size A d T w6 d6 TT.out x.at_ HAT.out (.slice ua x.data.length uc) x.data ((HR.out.below BB.out).below hB) (by have := HD.out; omega) (fun h0 g hg => .inl (rd_old HR.out h0 g hg))
              rw [← HE.out, HBAD.out] at hw6
              have HW6 := Lib.hid hw6
              have BB6 := Lib.hid (BB.out.on hB)
              have OO6 := Lib.hid (OO.out.below hB)
              have MP6 := Lib.hid (MP.out.same (hB.block mb MP.out.lt))
              have SZ6 := Lib.hid d6.size
              clear hv hap e0 e5 e10 hB d6 hw6
              go_wp2_with (go_at_call 19; (with_reducible refine HW6.out.mono ?_); rintro e w7 ⟨rfl, d7, k7⟩; have D7 := Lib.hid d7; have B7 := Lib.hid (k7.below BB6.out SZ6.out); have O7 := Lib.hid (own_kept OO6.out k7 (fun g hg => .inr (AY.out g hg).1)); have M7 := Lib.hid (MP6.out.same (k7.block mb MP6.out.lt (.inr AM.out))); clear d7 k7 HW6)
              exact ⟨⟨k + 1, T, f, n, by omega, by go_num, SF.out.later, by have := HNK.out; omega, M7.out, D7.out, O7.out, B7.out⟩, by simp [intOf]; omega⟩
        · obtain rfl : k = l1.length := by omega
          have TT := Lib.hid (sf.plain.tameD (by omega))
          have HS := Lib.hid (dev_start w.heap.size A d T wr dv (sf.plain.tameD (by omega)) (.slice ka l2.length kc) l2 (H2.out.below bb) (fun h0 g hg => .inl (rd_old H2.out h0 g hg)))
          have T3 := Lib.hid (tame_start TT.out l2)
          obtain ⟨hge, hsame⟩ := sf.start l2
          obtain ⟨S3, hS3⟩ : ∃ S3, S3 = DM.start T l2 := ⟨_, rfl⟩
          obtain ⟨N, hN⟩ : ∃ N, N = S3.seen := ⟨_, rfl⟩
          have hlo : S3.loose.length = 0 := by rw [hS3]; rfl
          have hdn : S3.down = false := by rw [hS3]; rfl
          rw [← hS3] at HS T3 hge hsame
          rw [← hN] at hge hsame
          have HNN := Lib.hid hN
          have HLO := Lib.hid hlo
          have HDN := Lib.hid hdn
          have HSAME := Lib.hid hsame
          have SZ := Lib.hid dv.size
          have BB := Lib.hid bb
          have OO := Lib.hid oo
          have MP := Lib.hid mp
          have hgeI : ¬ (N.length : Int) < (X.length : Int) := by omega
          have HGE := Lib.hid hge
          clear hS3 hN hlo hdn hsame hge sf dv bb oo mp
          go_upto_region 20 with (first
            | (go_at_call 15; (with_reducible refine HS.out.mono ?_); rintro e w7 ⟨rfl, d7, k7⟩; have D7 := Lib.hid d7; have B7 := Lib.hid (k7.below BB.out SZ.out); have O7 := Lib.hid (own_kept OO.out k7 (fun g hg => .inr (AY.out g hg).1)); have M7 := Lib.hid (MP.out.same (k7.block mb MP.out.lt (.inr AM.out))); have hby := dev_bytes w.heap.size A d S3 w7 d7 T3.out; rewrite [← HNN.out] at hby; have HBY := Lib.hid hby; clear d7 k7 hby HS)
            | (go_at_call 28; (with_reducible refine HBY.out.mono ?_); rintro e w8 ⟨y, rfl, o8, b8⟩; obtain ⟨na, nc, rfl, _⟩ := o8.rd.shape; have N8 := Lib.hid o8; have O8 := Lib.hid (O7.out.below b8); have M8 := Lib.hid (M7.out.same (b8.block mb M7.out.lt)); have B8 := Lib.hid (B7.out.on b8); have hl8 := dev_loose w.heap.size A d S3 w8 (D7.out.below b8) T3.out; rewrite [HLO.out] at hl8; have HL8 := Lib.hid (show Calls Try.prog 26 #[.pointer (some ⟨d, 0, none⟩)] w8 fun e w' => e = .returned (.int .i64 0) ∧ w' = w8 from hl8); have hd8 := dev_down w.heap.size A d S3 w8 (D7.out.below b8) T3.out; rewrite [HDN.out] at hd8; have HD8 := Lib.hid hd8; clear o8 b8 hl8 hd8 HBY)
            | (go_at_call 26; (with_reducible refine HL8.out.mono ?_); rintro e wz ⟨rfl, hq⟩; rw [hq]; clear hq wz HL8)
            | (go_at_call 25; (with_reducible refine HD8.out.mono ?_); rintro e wz ⟨rfl, hq⟩; rw [hq]; clear hq wz HD8))
          go_wp2_with fail
          go_loopw [13] (fun i wr => ∃ j : Nat, j ≤ X.length ∧ i = .int .i64 (j : Int) ∧ Below w8.heap.size w8 wr) (fun i _ => X.length - (intOf i).toNat)
          case atStart => exact ⟨0, Nat.zero_le _, rfl, Below.refl _ _⟩
          case round =>
            obtain ⟨j, hj, rfl, b9⟩ := hrel
            have hxf := O8.out.2.2
            by_cases hj2 : j < X.length
            · obtain ⟨s, hs⟩ : ∃ s, s = j / 512 := ⟨_, rfl⟩
              have hq : (j : Int) / 512 = (s : Int) := by omega
              have M9 := Lib.hid (M8.out.same (b9.block mb M8.out.lt))
              have N9 := Lib.hid (N8.out.below b9)
              have O9 := Lib.hid (O8.out.below b9)
              have B9 := Lib.hid b9
              have hwf : (Lit.int .i64 (s : Int)).wf = true := by simp [Lit.wf, IntKind.min, IntKind.max, IntKind.signed, IntKind.bits]; omega
              have hgb := HSAME.out j
              rw [← hs] at hgb
              have HGB := Lib.hid hgb
              have hsb : s ≤ 140737488355328 := by omega
              clear hs b9 hgb
              cases hft : f (s : Int)
              · have heq := HGB.out hft
                obtain ⟨ng, rfl⟩ := own_at N9.out (by have := HGE.out; omega)
                obtain ⟨sg, rfl⟩ := own_at O9.out (by omega)
                have cn := Lib.hid (N9.out.cell rfl j (by have := HGE.out; omega))
                have cs := Lib.hid (O9.out.cell rfl j hj2)
                obtain ⟨z, hz⟩ : ∃ z, z = gb X j := ⟨_, rfl⟩
                rw [heq, ← hz] at cn
                rw [← hz] at cs
                have hjn : (j : Int) < (N.length : Int) := by have := HGE.out; omega
                have hjx : (j : Int) < (X.length : Int) := by omega
                clear hz heq
                go_upto_region 23 with (fail)
                refine wp_region_g (by kernel_rfl) 16 (by decide) (by kernel_rfl) (by kernel_rfl) (by kernel_rfl) (wr.heap.size) (Nat.le_refl _) [.val (.map (some mb)), .val (.int .i64 (j : Int)), .val (.int .i64 (s : Int)), .val (.bool false), .val (.bool true), .val (.bool true), .val (.slice (some ⟨ng, 0, none⟩) N.length nc), .val (.int .i64 (j : Int)), .val (.pointer (some ⟨ng, j, none⟩)), .val (.int .u8 (z : Int)), .val (.slice (some ⟨sg, 0, none⟩) X.length yc), .val (.int .i64 (j : Int)), .val (.pointer (some ⟨sg, j, none⟩)), .val (.int .u8 (z : Int)), .val (.bool false), .val (.bool false)] (fun _ => 16) ?_ ?_
                · refine ⟨?_, ?_, ?_, ?_, ?_, ?_, ?_, ?_, ?_, ?_, ?_, ?_, ?_, ?_, ?_, ?_, trivial⟩
                  · intro a w' hF hB hd
                    have e9 : a.eval (.tmp 9) = .map (some mb) := hF 9 (by decide +kernel)
                    exact doesG_val rfl (ex_move rfl e9) rfl rfl
                  · intro a w' hF hB hd
                    have e13 : a.eval (.tmp 13) = .int .i64 (j : Int) := hF 13 (by decide +kernel)
                    exact doesG_val rfl (ex_move rfl e13) rfl rfl
                  · intro a w' hF hB hd
                    have e105 : a.eval (.tmp 105) = .int .i64 (j : Int) := hd 1 (by decide +kernel) (.inr (by decide))
                    exact doesG_val rfl (ex_binOp rfl e105 rfl (by go_simp) (by go_simp; rw [IntKind.wrap_i64]; omega)) rfl rfl
                  · intro a w' hF hB hd
                    have e104 : a.eval (.tmp 104) = .map (some mb) := hd 0 (by decide +kernel) (.inr (by decide))
                    have e106 : a.eval (.tmp 106) = .int .i64 (s : Int) := hd 2 (by decide +kernel) (.inr (by decide))
                    have hl := (M9.out.same (hB.block mb M9.out.lt)).lookup (s : Int) hwf
                    rw [hft] at hl
                    exact doesG_val rfl (v := .bool false) (by simp only [execOp, e104, e106, Sem.run_bind, hl, Result.andThen_ok, Sem.run_pure]) rfl rfl
                  · intro a w' hF hB hd
                    have e107 : a.eval (.tmp 107) = .bool false := hd 3 (by decide +kernel) (.inr (by decide))
                    exact doesG_val rfl (v := .bool true) (by unfold execOp; simp only [e107]; go_simp) rfl rfl
                  · intro a w' hF hB hd
                    have e108 : a.eval (.tmp 108) = .bool true := hd 4 (by decide +kernel) (.inr (by decide))
                    exact doesG_val rfl (ex_move rfl e108) rfl rfl
                  · intro a w' hF hB hd
                    have e109 : a.eval (.tmp 109) = .bool true := hd 5 (by decide +kernel) (.inr (by decide))
                    have e12 : a.eval (.tmp 12) = .slice (some ⟨ng, 0, none⟩) N.length nc := hF 12 (by decide +kernel)
                    exact doesG_val (wanted_of rfl (yielded_of rfl e109)) (ex_move rfl e12) rfl rfl
                  · intro a w' hF hB hd
                    have e109 : a.eval (.tmp 109) = .bool true := hd 5 (by decide +kernel) (.inr (by decide))
                    have e13 : a.eval (.tmp 13) = .int .i64 (j : Int) := hF 13 (by decide +kernel)
                    exact doesG_val (wanted_of rfl (yielded_of rfl e109)) (ex_move rfl e13) rfl rfl
                  · intro a w' hF hB hd
                    have e109 : a.eval (.tmp 109) = .bool true := hd 5 (by decide +kernel) (.inr (by decide))
                    have e110 : a.eval (.tmp 110) = .slice (some ⟨ng, 0, none⟩) N.length nc := hd 6 (by decide +kernel) (.inr (by decide))
                    have e111 : a.eval (.tmp 111) = .int .i64 (j : Int) := hd 7 (by decide +kernel) (.inr (by decide))
                    have f110 : a.tmps[110]?.getD undef = .slice (some ⟨ng, 0, none⟩) N.length nc := by rw [← Array.getD_eq_getD_getElem?]; exact e110
                    have f111 : a.tmps[111]?.getD undef = .int .i64 (j : Int) := by rw [← Array.getD_eq_getD_getElem?]; exact e111
                    exact doesG_val (wanted_of rfl (yielded_of rfl e109)) (v := .pointer (some ⟨ng, j, none⟩)) (by unfold execOp; go_simp) rfl rfl
                  · intro a w' hF hB hd
                    have e109 : a.eval (.tmp 109) = .bool true := hd 5 (by decide +kernel) (.inr (by decide))
                    have e112 : a.eval (.tmp 112) = .pointer (some ⟨ng, j, none⟩) := hd 8 (by decide +kernel) (.inr (by decide))
                    have cw := (hB.cell (World.block_lt_of_cell? _ _ cn.out)).trans cn.out
                    exact doesG_val (wanted_of rfl (yielded_of rfl e109)) (v := .int .u8 (z : Int)) (by unfold execOp; simp only [e112]; go_simp) rfl rfl
                  · intro a w' hF hB hd
                    have e109 : a.eval (.tmp 109) = .bool true := hd 5 (by decide +kernel) (.inr (by decide))
                    have e8 : a.eval (.tmp 8) = .slice (some ⟨sg, 0, none⟩) X.length yc := hF 8 (by decide +kernel)
                    exact doesG_val (wanted_of rfl (yielded_of rfl e109)) (ex_move rfl e8) rfl rfl
                  · intro a w' hF hB hd
                    have e109 : a.eval (.tmp 109) = .bool true := hd 5 (by decide +kernel) (.inr (by decide))
                    have e13 : a.eval (.tmp 13) = .int .i64 (j : Int) := hF 13 (by decide +kernel)
                    exact doesG_val (wanted_of rfl (yielded_of rfl e109)) (ex_move rfl e13) rfl rfl
                  · intro a w' hF hB hd
                    have e109 : a.eval (.tmp 109) = .bool true := hd 5 (by decide +kernel) (.inr (by decide))
                    have e114 : a.eval (.tmp 114) = .slice (some ⟨sg, 0, none⟩) X.length yc := hd 10 (by decide +kernel) (.inr (by decide))
                    have e115 : a.eval (.tmp 115) = .int .i64 (j : Int) := hd 11 (by decide +kernel) (.inr (by decide))
                    have f114 : a.tmps[114]?.getD undef = .slice (some ⟨sg, 0, none⟩) X.length yc := by rw [← Array.getD_eq_getD_getElem?]; exact e114
                    have f115 : a.tmps[115]?.getD undef = .int .i64 (j : Int) := by rw [← Array.getD_eq_getD_getElem?]; exact e115
                    exact doesG_val (wanted_of rfl (yielded_of rfl e109)) (v := .pointer (some ⟨sg, j, none⟩)) (by unfold execOp; go_simp) rfl rfl
                  · intro a w' hF hB hd
                    have e109 : a.eval (.tmp 109) = .bool true := hd 5 (by decide +kernel) (.inr (by decide))
                    have e116 : a.eval (.tmp 116) = .pointer (some ⟨sg, j, none⟩) := hd 12 (by decide +kernel) (.inr (by decide))
                    have cw := (hB.cell (World.block_lt_of_cell? _ _ cs.out)).trans cs.out
                    exact doesG_val (wanted_of rfl (yielded_of rfl e109)) (v := .int .u8 (z : Int)) (by unfold execOp; simp only [e116]; go_simp) rfl rfl
                  · intro a w' hF hB hd
                    have e109 : a.eval (.tmp 109) = .bool true := hd 5 (by decide +kernel) (.inr (by decide))
                    have e113 : a.eval (.tmp 113) = .int .u8 (z : Int) := hd 9 (by decide +kernel) (.inr (by decide))
                    have e117 : a.eval (.tmp 117) = .int .u8 (z : Int) := hd 13 (by decide +kernel) (.inr (by decide))
                    exact doesG_val (wanted_of rfl (yielded_of rfl e109)) (ex_binOp rfl e113 e117 (by go_simp) (by go_simp)) rfl rfl
                  · intro a w' hF hB hd
                    have e109 : a.eval (.tmp 109) = .bool true := hd 5 (by decide +kernel) (.inr (by decide))
                    have e118 : a.eval (.tmp 118) = .bool false := hd 14 (by decide +kernel) (.inr (by decide))
                    exact doesG_val rfl (ex_pick rfl e109 (by simp [e118])) rfl rfl
                · intro vs w10 hB hv hap
                  have e15 : vs 15 = .bool false := hv 15 (by decide) (by decide)
                  simp only [List.take_succ_cons, List.take_zero, List.drop_succ_cons, List.drop_zero, putOps, Act.put, List.setIfInBounds_toArray, List.set_cons_zero, List.set_cons_succ, e15]
                  have B10 := Lib.hid (B9.out.on hB)
                  clear hv hap e15 hB
                  go_wp2_with fail
                  exact ⟨⟨j + 1, by omega, by go_num, B10.out⟩, by simp [intOf]; omega⟩
              · go_upto_region 23 with (fail)
                refine wp_region_g (by kernel_rfl) 16 (by decide) (by kernel_rfl) (by kernel_rfl) (by kernel_rfl) (wr.heap.size) (Nat.le_refl _) [.val (.map (some mb)), .val (.int .i64 (j : Int)), .val (.int .i64 (s : Int)), .val (.bool true), .val (.bool false), .val (.bool false), .val undef, .val undef, .val undef, .val undef, .val undef, .val undef, .val undef, .val undef, .val undef, .val (.bool false)] (fun _ => 16) ?_ ?_
                · refine ⟨?_, ?_, ?_, ?_, ?_, ?_, ?_, ?_, ?_, ?_, ?_, ?_, ?_, ?_, ?_, ?_, trivial⟩
                  · intro a w' hF hB hd
                    have e9 : a.eval (.tmp 9) = .map (some mb) := hF 9 (by decide +kernel)
                    exact doesG_val rfl (ex_move rfl e9) rfl rfl
                  · intro a w' hF hB hd
                    have e13 : a.eval (.tmp 13) = .int .i64 (j : Int) := hF 13 (by decide +kernel)
                    exact doesG_val rfl (ex_move rfl e13) rfl rfl
                  · intro a w' hF hB hd
                    have e105 : a.eval (.tmp 105) = .int .i64 (j : Int) := hd 1 (by decide +kernel) (.inr (by decide))
                    exact doesG_val rfl (ex_binOp rfl e105 rfl (by go_simp) (by go_simp; rw [IntKind.wrap_i64]; omega)) rfl rfl
                  · intro a w' hF hB hd
                    have e104 : a.eval (.tmp 104) = .map (some mb) := hd 0 (by decide +kernel) (.inr (by decide))
                    have e106 : a.eval (.tmp 106) = .int .i64 (s : Int) := hd 2 (by decide +kernel) (.inr (by decide))
                    have hl := (M9.out.same (hB.block mb M9.out.lt)).lookup (s : Int) hwf
                    rw [hft] at hl
                    exact doesG_val rfl (v := .bool true) (by simp only [execOp, e104, e106, Sem.run_bind, hl, Result.andThen_ok, Sem.run_pure]) rfl rfl
                  · intro a w' hF hB hd
                    have e107 : a.eval (.tmp 107) = .bool true := hd 3 (by decide +kernel) (.inr (by decide))
                    exact doesG_val rfl (v := .bool false) (by unfold execOp; simp only [e107]; go_simp) rfl rfl
                  · intro a w' hF hB hd
                    have e108 : a.eval (.tmp 108) = .bool false := hd 4 (by decide +kernel) (.inr (by decide))
                    exact doesG_val rfl (ex_move rfl e108) rfl rfl
                  · intro a w' hF hB hd
                    have e109 : a.eval (.tmp 109) = .bool false := hd 5 (by decide +kernel) (.inr (by decide))
                    exact doesG_skip (unwanted_of rfl (yielded_of rfl e109) (by decide)) rfl
                  · intro a w' hF hB hd
                    have e109 : a.eval (.tmp 109) = .bool false := hd 5 (by decide +kernel) (.inr (by decide))
                    exact doesG_skip (unwanted_of rfl (yielded_of rfl e109) (by decide)) rfl
                  · intro a w' hF hB hd
                    have e109 : a.eval (.tmp 109) = .bool false := hd 5 (by decide +kernel) (.inr (by decide))
                    exact doesG_skip (unwanted_of rfl (yielded_of rfl e109) (by decide)) rfl
                  · intro a w' hF hB hd
                    have e109 : a.eval (.tmp 109) = .bool false := hd 5 (by decide +kernel) (.inr (by decide))
                    exact doesG_skip (unwanted_of rfl (yielded_of rfl e109) (by decide)) rfl
                  · intro a w' hF hB hd
                    have e109 : a.eval (.tmp 109) = .bool false := hd 5 (by decide +kernel) (.inr (by decide))
                    exact doesG_skip (unwanted_of rfl (yielded_of rfl e109) (by decide)) rfl
                  · intro a w' hF hB hd
                    have e109 : a.eval (.tmp 109) = .bool false := hd 5 (by decide +kernel) (.inr (by decide))
                    exact doesG_skip (unwanted_of rfl (yielded_of rfl e109) (by decide)) rfl
                  · intro a w' hF hB hd
                    have e109 : a.eval (.tmp 109) = .bool false := hd 5 (by decide +kernel) (.inr (by decide))
                    exact doesG_skip (unwanted_of rfl (yielded_of rfl e109) (by decide)) rfl
                  · intro a w' hF hB hd
                    have e109 : a.eval (.tmp 109) = .bool false := hd 5 (by decide +kernel) (.inr (by decide))
                    exact doesG_skip (unwanted_of rfl (yielded_of rfl e109) (by decide)) rfl
                  · intro a w' hF hB hd
                    have e109 : a.eval (.tmp 109) = .bool false := hd 5 (by decide +kernel) (.inr (by decide))
                    exact doesG_skip (unwanted_of rfl (yielded_of rfl e109) (by decide)) rfl
                  · intro a w' hF hB hd
                    have e109 : a.eval (.tmp 109) = .bool false := hd 5 (by decide +kernel) (.inr (by decide))
                    exact doesG_val rfl (ex_pick rfl e109 (rfl)) rfl rfl
                · intro vs w10 hB hv hap
                  have e15 : vs 15 = .bool false := hv 15 (by decide) (by decide)
                  simp only [List.take_succ_cons, List.take_zero, List.drop_succ_cons, List.drop_zero, putOps, Act.put, List.setIfInBounds_toArray, List.set_cons_zero, List.set_cons_succ, e15]
                  have B10 := Lib.hid (B9.out.on hB)
                  clear hv hap e15 hB
                  go_wp2_with fail
                  exact ⟨⟨j + 1, by omega, by go_num, B10.out⟩, by simp [intOf]; omega⟩
            · obtain rfl : j = X.length := by omega
              have B9 := Lib.hid (B8.out.on b9)
              clear b9
              go_wp2_with (go_at_call 9; (with_reducible refine (dawake_any _).mono ?_); rintro e w11 ⟨rfl, b11⟩; have B11 := Lib.hid (B9.out.on b11); clear b11)
              go_ret
              exact ⟨rfl, B11.out⟩
set_option linter.unusedVariables false in
set_option maxHeartbeats 400000 in
set_option maxRecDepth 100000 in
theorem lifted (os : Os) (started : os.Started) (H : Type) (enc : TypeId × Value → H) :
    ReturnsInHanded {} Try.checked os 5 .any (Rows.deviceSafeSpec.pre6 enc Try.prog Try.f5 Rows.deviceSafeRow.domain false) (Rows.deviceSafeSpec.post enc Try.prog Try.f5 false true false false) := by
  refine returnsInHanded_of_change_sized (C := Try.checked) own started (by kernel_rfl) Try.func5
    (ChangeSpec.witness6 (enc := enc) (C := Try.checked) false ⟨#[], #[.slice none 0 0, .slice none 0 0, .slice none 0 0], []⟩ 8 (by kernel_rfl) (by kernel_rfl) (by kernel_rfl) (by kernel_rfl)) ?_
  intro W base args ds gs before hval0 hW _ hsz0 _
  have hsz : (DataW.weightsEach Try.prog (Try.f5.params.toList ++ Rows.deviceSafeSpec.plain.varTypes Try.prog) (ds ++ gs)).all (· ≤ reachBytes) = true := hsz0
  clear hsz0
  have hval : ∀ (j : Nat) t v, Try.f5.params[j]? = some t → args[j]? = some v → Value.okWide Try.prog W .any base t v := hval0
  have hW' := hW
  obtain ⟨p, q, hA0, hV, rfl, _, _⟩ := hW
  have hA : DataW.TrodAll enc Try.prog W 0 (fun _ => true) true Try.f5.params.toList args.toList ds p := hA0
  rw [Try.params5] at hA hval hsz
  obtain ⟨v0, vs0, d0, ds0, p0, q0, hargs, rfl, rfl, g0, r0⟩ := trodAll_cons hA
  obtain ⟨v1, vs1, d1, ds1, p1, q1, rfl, rfl, rfl, g1, r1⟩ := trodAll_cons r0
  obtain ⟨v2, vs2, d2, ds2, p2, q2, rfl, rfl, rfl, g2, r2⟩ := trodAll_cons r1
  obtain ⟨rfl, rfl, rfl⟩ := trodAll_nil r2
  obtain rfl : args = #[v0, v1, v2] := by cases args; simp_all
  obtain ⟨rfl, rfl⟩ := trodVars_none hV
  obtain ⟨l0, h0⟩ := open_actsd (hval 0 22 v0 rfl rfl) g0 (fun n hn => by simpa using List.all_eq_true.1 hsz n (DataW.weights_mem_each (j := 0) (t := 22) rfl rfl n hn))
  obtain ⟨l1, h1⟩ := open_actsd (hval 1 22 v1 rfl rfl) g1 (fun n hn => by simpa using List.all_eq_true.1 hsz n (DataW.weights_mem_each (j := 1) (t := 22) rfl rfl n hn))
  obtain ⟨l2, h2⟩ := open_bytes (hval 2 33 v2 rfl rfl) g2 (fun elems spare e => sized_slice hsz (j := 2) (t := 33) (e := 5) rfl (by rw [← e]; rfl) Try.underlying33)
  clear hA0 hval0
  have hlt := hW'.lt
  refine (walk W v0 l0 h0 v1 l1 h1 v2 l2 h2).mono fun e W' ⟨he, hb⟩ => ?_
  subst he
  have hargs : DataW.TrodAll enc Try.prog W' 0 (fun b => decide (b < W.heap.size)) true _ _ _ _ := (trodAll_cons_mk (Below.trod laidOut (by kernel_rfl) (of_decide_eq_true (by kernel_rfl)) g0 hb (fun x hx => hlt x (by simp [hx]))) (trodAll_cons_mk (Below.trod laidOut (by kernel_rfl) (of_decide_eq_true (by kernel_rfl)) g1 hb (fun x hx => hlt x (by simp [hx]))) (trodAll_cons_mk (Below.trod laidOut (by kernel_rfl) (of_decide_eq_true (by kernel_rfl)) g2 hb (fun x hx => hlt x (by simp [hx]))) trodAll_mk0)))
  simp only [List.append_nil] at hW' hargs
  exact ⟨_, rfl, post_law hW' (trodAll_cons_mk (shut_bool Try.underlying4 _) trodAll_mk0) hargs rfl hb⟩
theorem over : Rows.deviceSafeRow.holds Try.pinned (OpenSpec.ofChange Rows.deviceSafeSpec) :=
  OpenClaim.holds_of_wide 5 Try.f5 rfl rfl rfl rfl rfl rfl rfl ⟨rfl, rfl, rfl, rfl, rfl⟩ rfl rfl rfl rfl rfl (by kernel_rfl) Try.func5 (by kernel_rfl)
    (of_decide_eq_true (by kernel_rfl)) (by unfold Func.isWrapper; first | (rw [if_pos (by decide +kernel)]; kernel_rfl) | (rw [if_neg (by decide +kernel)]; exact ⟨rfl, rfl⟩))
    (fun os started H enc _ => lifted os started H enc)

/-- The given statement. -/
theorem proved : Rows.DeviceSafeSaid := over
end Go.Proofs.Ytipdcocliefppaa.deviceSafe

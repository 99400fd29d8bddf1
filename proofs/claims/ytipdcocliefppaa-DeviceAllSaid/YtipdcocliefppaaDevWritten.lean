/- A device behind writes and syncs alone: contract. Own work. -/
import Derived.Test.YtipdcocliefppaaDevAwake
import Derived.Test.YtipdcocliefppaaDevInv
import Derived.Test.YtipdcocliefppaaFactsO
namespace Go.Proofs.Ytipdcocliefppaa
open Go.ChangeShapes Go.WideShapes Go.ChangeAt Go.RowKit
open DM
theorem DM.Plain.tameD {S : DS} {n : Nat} (h : Plain S n) (hn : n ≤ 1000) : Tame S := ⟨h.ok, (h.tame hn).1, (h.tame hn).2.1, h.after⟩
theorem Dev.weak {B : Nat} {A C : Nat → Prop} {w : World} {d : Nat} {S : DS} (h : Dev B A w d S) (hC : ∀ k, C k → A k) : Dev B C w d S := by
  obtain ⟨F, R, hd, h1, h2, h3, h4⟩ := h
  exact ⟨F, R, hd, h1, fun k hk q => h2 k hk (hC k q), fun k hk => h3 k (hC k hk), h4⟩
theorem rd_old {w : World} {v : Value} {l : List Nat} (h : Rd w v l) (h0 : 0 < l.length) (g : Nat) (hg : v.ownBlock = some g) : g < w.heap.size := by
  rcases h.form with ⟨_, e⟩ | ⟨ad, cap, e, _, hs⟩
  · rw [e] at h0; cases h0
  · rw [e] at hg
    have hgb : ad.block = g := Option.some.inj hg
    have := World.block_lt_of_cell? w _ (hs 0 h0)
    rwa [add_block, hgb] at this
set_option maxHeartbeats 2000000 in
set_option maxRecDepth 100000 in
theorem written_any (v : Value) (l : List AD) (w : World) (h : ActsD w v l) (hf : DM.few l = true) :
    Calls Try.prog 29 #[v] w fun e w' => ∃ d, e = .returned (.pointer (some ⟨d, 0, none⟩)) ∧ Dev w.heap.size (fun _ => False) w' d (wrTo l l.length) ∧ Plain (wrTo l l.length) l.length ∧ Below w.heap.size w w' := by
  obtain ⟨ao, cap, rfl⟩ := h.shape
  have H := Lib.hid h
  have HF := Lib.hid hf
  have HL := Lib.hid (DM.few_len hf)
  have HN := Lib.hid (show Calls Try.prog 10 #[.int .i64 20000] w _ from dev_new 20000 (by omega) w.heap.size w (Nat.le_refl _))
  clear h hf
  go_enter Try.func29, Try.ntmps29
  go_wp2_with (go_at_call 10; refine HN.out.mono ?_; rintro e w1 ⟨d, rfl, dv, b1⟩; have D1 := Lib.hid (dv.weak (C := fun _ => False) nofun); have B1 := Lib.hid b1; clear dv b1)
  go_loopw [4] (fun i wr => ∃ k : Nat, k ≤ l.length ∧ i = .int .i64 (k : Int) ∧ Dev w.heap.size (fun _ => False) wr d (wrTo l k) ∧ Plain (wrTo l k) k ∧ Below w.heap.size w wr) (fun i _ => l.length - (intOf i).toNat)
  case atStart => exact ⟨0, Nat.zero_le _, rfl, D1.out, Plain.new 20000 0, B1.out⟩
  case round =>
    clear D1 B1
    obtain ⟨k, hk, rfl, dv, pl, bb⟩ := hrel
    by_cases hk2 : k < l.length
    · obtain ⟨x, hx⟩ : ∃ x, l[k]? = some x := ⟨l[k], List.getElem?_eq_getElem hk2⟩
      obtain ⟨b, off, u, rfl, hk8, hat, q0, q1, q2, _, hr⟩ := H.out.at_ k x hx
      obtain ⟨ua, uc, rfl, _⟩ := hr.shape
      have c0 := (bb.cell (World.block_lt_of_cell? w _ q0)).trans q0
      have C1 := Lib.hid ((bb.cell (World.block_lt_of_cell? w _ q1)).trans q1)
      have C2 := Lib.hid ((bb.cell (World.block_lt_of_cell? w _ q2)).trans q2)
      have hdl := DM.few_data HF.out hx
      have hkl := HL.out
      have T := Lib.hid (pl.tameD (by omega))
      have HS := Lib.hid (wrTo_some hx)
      have HLT := Lib.hid hk2
      have PP := Lib.hid pl
      have BB := Lib.hid bb
      have SZ := Lib.hid dv.size
      have HD := Lib.hid hdl
      have HB := Lib.hid hr.byte
      have DV := Lib.hid dv
      have HAT := Lib.hid hat
      have HR := Lib.hid hr
      have hwr := Lib.hid (dev_write w.heap.size (fun _ => False) d (wrTo l k) wr dv T.out x.at_ hat (.slice ua x.data.length uc) x.data (hr.below bb) (by omega) (fun h0 g hg => .inl (rd_old hr h0 g hg)))
      have hsy := Lib.hid (dev_sync w.heap.size (fun _ => False) d (wrTo l k) wr dv T.out)
      clear hx q0 q1 q2 hr dv pl bb hat hdl
      by_cases h3 : x.kind % 9 = 3
      · have h3i : (x.kind : Int) % 9 = 3 := by omega
        go_wp2_with (go_at_call 20; (with_reducible refine hsy.out.mono ?_); rintro e w5 ⟨rfl, d5, k5⟩; have D5 := Lib.hid d5; have B5 := Lib.hid (k5.below BB.out SZ.out); clear d5 k5 hsy)
        have e1 : wrTo l (k + 1) = (DM.sync (wrTo l k)).1 := by rw [HS.out]; unfold wr1; rw [if_pos h3]
        exact ⟨⟨k + 1, by omega, by go_num, by rw [e1]; exact D5.out, by rw [e1]; exact PP.out.sync, B5.out⟩, by simp [intOf]; omega⟩
      · have h3i : ¬ (x.kind : Int) % 9 = 3 := by omega
        go_upto_region 7 with (fail)
        refine wp_region_g (by kernel_rfl) 11 (by decide) (by kernel_rfl) (by kernel_rfl) (by kernel_rfl) (wr.heap.size) (Nat.le_refl _) [.val (.pointer (some ⟨d, 0, none⟩)), .val (.slice (some ⟨b, off, none⟩) l.length cap), .val (.int .i64 (k : Int)), .val (.pointer (some ⟨b, off + k * 4, none⟩)), .val (.pointer (some ⟨b, off + k * 4 + 1, none⟩)), .val (.int .i64 x.at_), .val (.slice (some ⟨b, off, none⟩) l.length cap), .val (.int .i64 (k : Int)), .val (.pointer (some ⟨b, off + k * 4, none⟩)), .val (.pointer (some ⟨b, off + k * 4 + 2, none⟩)), .val (.slice ua x.data.length uc)] (fun _ => 12) ?_ ?_
        · refine ⟨?_, ?_, ?_, ?_, ?_, ?_, ?_, ?_, ?_, ?_, ?_, trivial⟩
          · intro a w' hF hB hd
            have e3 : a.eval (.tmp 3) = .pointer (some ⟨d, 0, none⟩) := hF 3 (by decide +kernel)
            exact doesG_val rfl (ex_move rfl e3) rfl rfl
          · intro a w' hF hB hd
            have e0 : a.eval (.tmp 0) = .slice (some ⟨b, off, none⟩) l.length cap := hF 0 (by decide +kernel)
            exact doesG_val rfl (ex_move rfl e0) rfl rfl
          · intro a w' hF hB hd
            have e4 : a.eval (.tmp 4) = .int .i64 (k : Int) := hF 4 (by decide +kernel)
            exact doesG_val rfl (ex_move rfl e4) rfl rfl
          · intro a w' hF hB hd
            have e22 : a.eval (.tmp 22) = .slice (some ⟨b, off, none⟩) l.length cap := hd 1 (by decide +kernel) (.inr (by decide))
            have e23 : a.eval (.tmp 23) = .int .i64 (k : Int) := hd 2 (by decide +kernel) (.inr (by decide))
            have f22 : a.tmps[22]?.getD undef = .slice (some ⟨b, off, none⟩) l.length cap := by rw [← Array.getD_eq_getD_getElem?]; exact e22
            have f23 : a.tmps[23]?.getD undef = .int .i64 (k : Int) := by rw [← Array.getD_eq_getD_getElem?]; exact e23
            have hkz : (k : Int) < (l.length : Int) := by have := HLT.out; omega
            exact doesG_val rfl (v := .pointer (some ⟨b, off + k * 4, none⟩)) (by unfold execOp; go_simp) rfl rfl
          · intro a w' hF hB hd
            have e24 : a.eval (.tmp 24) = .pointer (some ⟨b, off + k * 4, none⟩) := hd 3 (by decide +kernel) (.inr (by decide))
            exact doesG_val rfl (v := .pointer (some ⟨b, off + k * 4 + 1, none⟩)) (by unfold execOp; simp only [e24]; go_simp) rfl rfl
          · intro a w' hF hB hd
            have e25 : a.eval (.tmp 25) = .pointer (some ⟨b, off + k * 4 + 1, none⟩) := hd 4 (by decide +kernel) (.inr (by decide))
            have cw := (hB.cell (World.block_lt_of_cell? _ _ C1.out)).trans C1.out
            exact doesG_val rfl (v := .int .i64 x.at_) (by unfold execOp; simp only [e25]; go_simp) rfl rfl
          · intro a w' hF hB hd
            have e0 : a.eval (.tmp 0) = .slice (some ⟨b, off, none⟩) l.length cap := hF 0 (by decide +kernel)
            exact doesG_val rfl (ex_move rfl e0) rfl rfl
          · intro a w' hF hB hd
            have e4 : a.eval (.tmp 4) = .int .i64 (k : Int) := hF 4 (by decide +kernel)
            exact doesG_val rfl (ex_move rfl e4) rfl rfl
          · intro a w' hF hB hd
            have e27 : a.eval (.tmp 27) = .slice (some ⟨b, off, none⟩) l.length cap := hd 6 (by decide +kernel) (.inr (by decide))
            have e28 : a.eval (.tmp 28) = .int .i64 (k : Int) := hd 7 (by decide +kernel) (.inr (by decide))
            have f27 : a.tmps[27]?.getD undef = .slice (some ⟨b, off, none⟩) l.length cap := by rw [← Array.getD_eq_getD_getElem?]; exact e27
            have f28 : a.tmps[28]?.getD undef = .int .i64 (k : Int) := by rw [← Array.getD_eq_getD_getElem?]; exact e28
            have hkz : (k : Int) < (l.length : Int) := by have := HLT.out; omega
            exact doesG_val rfl (v := .pointer (some ⟨b, off + k * 4, none⟩)) (by unfold execOp; go_simp) rfl rfl
          · intro a w' hF hB hd
            have e29 : a.eval (.tmp 29) = .pointer (some ⟨b, off + k * 4, none⟩) := hd 8 (by decide +kernel) (.inr (by decide))
            exact doesG_val rfl (v := .pointer (some ⟨b, off + k * 4 + 2, none⟩)) (by unfold execOp; simp only [e29]; go_simp) rfl rfl
          · intro a w' hF hB hd
            have e30 : a.eval (.tmp 30) = .pointer (some ⟨b, off + k * 4 + 2, none⟩) := hd 9 (by decide +kernel) (.inr (by decide))
            have cw := (hB.cell (World.block_lt_of_cell? _ _ C2.out)).trans C2.out
            exact doesG_val rfl (v := .slice ua x.data.length uc) (by unfold execOp; simp only [e30]; go_simp) rfl rfl
        · intro vs w6 hB hv hap
          have e0 : vs 0 = .pointer (some ⟨d, 0, none⟩) := hv 0 (by decide) (by decide)
          have e5 : vs 5 = .int .i64 x.at_ := hv 5 (by decide) (by decide)
          have e10 : vs 10 = .slice ua x.data.length uc := hv 10 (by decide) (by decide)
          simp only [List.take_succ_cons, List.take_zero, List.drop_succ_cons, List.drop_zero, putOps, Act.put, List.setIfInBounds_toArray, List.set_cons_zero, List.set_cons_succ, e0, e5, e10]
          have d6 := DV.out.below hB
          have BB6 := Lib.hid (BB.out.on hB)
          have SZ6 := Lib.hid d6.size
          have hw6 := Lib.hid (dev_write w.heap.size (fun _ => False) d (wrTo l k) w6 d6 T.out x.at_ HAT.out (.slice ua x.data.length uc) x.data ((HR.out.below BB.out).below hB) (by have := HD.out; omega) (fun h0 g hg => .inl (rd_old HR.out h0 g hg)))
          clear hv hap e0 e5 e10 hB d6 hwr hsy
          go_wp2_with (go_at_call 19; (with_reducible refine hw6.out.mono ?_); rintro e w7 ⟨rfl, d7, k7⟩; have D7 := Lib.hid d7; have B7 := Lib.hid (k7.below BB6.out SZ6.out); clear d7 k7 hw6)
          have e1 : wrTo l (k + 1) = (DM.write (wrTo l k) x.at_ x.data).1 := by rw [HS.out]; unfold wr1; rw [if_neg h3]
          exact ⟨⟨k + 1, by omega, by go_num, by rw [e1]; exact D7.out, by rw [e1]; exact PP.out.write _ _ HB.out HD.out, B7.out⟩, by simp [intOf]; omega⟩
    · obtain rfl : k = l.length := by omega
      have DD := Lib.hid dv
      have PP := Lib.hid pl
      have BB := Lib.hid bb
      clear dv pl bb
      go_wp2_with fail
      go_ret
      exact ⟨d, rfl, DD.out, PP.out, BB.out⟩
end Go.Proofs.Ytipdcocliefppaa

/- SlotsPlays: any at most twelve calls of Add, Remove and Rotate, one after the other, leave the very table that the document's own calls leave, and answer as they do; and the law's closed case holds. No condition but that the listed tables hold their constants when the call begins. -/
import Derived.Test.YtbepchikngoknaaDoorRows
import Derived.Test.YtbepchikngoknaaDoorSlAwake
import Derived.Test.YtbepchikngoknaaDoorSlDo
import Derived.Test.YtbepchikngoknaaDoorWrapLaws
import Derived.Test.YtbepchikngoknaaDoorDoorWrap
import Derived.Test.YtbepchikngoknaaDoorTie
import Derived.Test.YtbepchikngoknaaDoorCards
import Derived.SevenTiedAt
import Derived.Test.YtbepchikngoknaaDoorActsS
import Derived.Test.YtbepchikngoknaaDoorMem
import Derived.WalkKit
import Derived.ProofKit
import Derived.OpenShut
import Derived.SizedLaws
import Derived.Carry
import Derived.Deep.DeepHandedRow
import Derived.Deep.DeepWitnessRowRef
namespace Go.Proofs.YtbepchikngoknaaDoor.slotsPlays
open Go.ChangeShapes Go.WideShapes Go.ChangeAt Go.RowKit
open SM AM WM SL
/-- The variables of the law: the key, and a table on each side. -/
structure P3 (W : World) (M L R : List Value) (w : World) : Prop where
  b0 : Blk w W.heap.size 25 M
  b1 : Blk w (W.heap.size + 1) 30 L
  b2 : Blk w (W.heap.size + 2) 34 R
  bel : Below W.heap.size W w
section
variable {W w w' : World} {M L R N : List Value}
theorem P3.below (h : P3 W M L R w) (k : Below w.heap.size w w') : P3 W M L R w' := ⟨h.b0.below k h.b0.lt, h.b1.below k h.b1.lt, h.b2.below k h.b2.lt, h.bel.on k⟩
theorem P3.set1 (h : P3 W M L R w) (o : Blk w' (W.heap.size + 1) 30 N) (g : w.grownBy w' (some (W.heap.size + 1))) : P3 W M N R w' := ⟨h.b0.grown g (fun e => by have := Option.some.inj e; omega), o, h.b2.grown g (fun e => by have := Option.some.inj e; omega), h.bel.grown g h.bel.size (fun g hg => by have := Option.some.inj hg; omega)⟩
theorem P3.set2 (h : P3 W M L R w) (o : Blk w' (W.heap.size + 2) 34 N) (g : w.grownBy w' (some (W.heap.size + 2))) : P3 W M L N w' := ⟨h.b0.grown g (fun e => by have := Option.some.inj e; omega), h.b1.grown g (fun e => by have := Option.some.inj e; omega), o, h.bel.grown g h.bel.size (fun g hg => by have := Option.some.inj hg; omega)⟩
end
def GF (P P1 P2 : World → Prop) (k : Nat) (_ : Told) (w : World) : Prop := if k < 2 then P w else if k = 2 then P1 w else P2 w
theorem own : ownKnob Tryd.prog.godebug = none := by kernel_rfl
theorem cells25 : Tryd.prog.cellsOf 25 = 32 := by kernel_rfl
theorem cells5 : Tryd.prog.cellsOf 5 = 1 := by kernel_rfl
set_option linter.unusedVariables false in
set_option maxRecDepth 100000 in
set_option maxHeartbeats 4000000 in
theorem walk (w : World) (ht : TabX w ∧ Tab w ∧ TabA w ∧ TabP w) (v0 : Value) (l0 : List AS) (h0 : ActsS w v0 l0) (l1 : List Nat) (h1 : Bytes 32 l1) :
    Calls Tryd.prog 6 #[v0, .agg (row8 l1).toArray] w fun e w' => e = .returned (.bool true) ∧ Below w.heap.size w w' := by
  obtain ⟨TX, TK, TA, TP⟩ := ht
  obtain ⟨ao, cap, rfl⟩ := h0.shape
  obtain ⟨n, hn⟩ : ∃ n, n = l0.length := ⟨_, rfl⟩
  obtain ⟨M, hM⟩ : ∃ M, M = row8 l1 := ⟨_, rfl⟩
  obtain ⟨Z0, hZ0⟩ : ∃ D, D = tbc zero := ⟨_, rfl⟩
  have hz : ∀ w, (zeroValue 30).run Tryd.prog w = .ok (.agg Z0.toArray) w := by rw [hZ0]; exact zeroTb
  have hz2 : ∀ w, (zeroValue 34).run Tryd.prog w = .ok (.agg Z0.toArray) w := by rw [hZ0]; exact zeroTr
  have M32 := Lib.hid (show M.length = 32 by rw [hM, row8_len]; exact h1.1)
  have HDO := Lib.hid (fun (T : List SL.Slot) (hT : SL.Tok T) (x : AS) (u f : Value) W (hx : ActOk W x u f) (hb : Below w.heap.size w W) => do_any T hT x u f l1 h1 W hx (TX.below hb) (TK.below hb) (TA.below hb) (TP.below hb))
  have HAW := Lib.hid (fun W (hW : Below w.heap.size w W) => sawake_any W (TX.below hW) (TP.below hW))
  have HR := Lib.hid h0
  have H1 := Lib.hid h1
  have HN := Lib.hid hn
  have HM := Lib.hid hM
  have HZ := Lib.hid hZ0
  rw [← hn, ← hM]
  clear TX TK TA TP h0 h1 hM hZ0
  by_cases hlen : 12 < n
  · have hI : (12 : Int) < (n : Int) := by omega
    clear hn
    have B1 := Lib.hid ((Below.refl w.heap.size w).alloc (Nat.le_refl _) (.cells M.toArray 25))
    go_enter Tryd.func6, Tryd.ntmps6
    go_wp2_with (go_at_call 15; (with_reducible refine (HAW.out _ B1.out).mono ?_); rintro e w2 ⟨rfl, b2⟩; have B2 := Lib.hid (B1.out.on b2); clear b2)
    go_ret
    exact ⟨rfl, B2.out⟩
  · have hI : ¬ (12 : Int) < (n : Int) := by omega
    have HN12 := Lib.hid (show n ≤ 12 by omega)
    clear hn hlen
    have HD0 := Lib.hid (show P3 w M Z0 Z0 (((w.alloc (.cells M.toArray 25)).alloc (.cells Z0.toArray 30)).alloc (.cells Z0.toArray 34)) from ⟨((Blk.new w 25 M w.heap.size (by simp)).alloc _).alloc _, (Blk.new (w.alloc (.cells M.toArray 25)) 30 Z0 (w.heap.size + 1) (by simp)).alloc _, Blk.new ((w.alloc (.cells M.toArray 25)).alloc (.cells Z0.toArray 30)) 34 Z0 (w.heap.size + 2) (by simp), ((((Below.refl w.heap.size w).alloc (by simp; try omega) _).alloc (by simp; try omega) _).alloc (by simp; try omega) _)⟩)
    go_enter Tryd.func6, Tryd.ntmps6
    go_wp2_with fail
    obtain ⟨w3, hw3⟩ : ∃ x, x = (((w.alloc (.cells M.toArray 25)).alloc (.cells Z0.toArray 30)).alloc (.cells Z0.toArray 34)) := ⟨_, rfl⟩
    rw [← hw3] at HD0 ⊢
    clear hw3
    go_loopw [7, 8] (fun ok i wr => ∃ (k : Nat) (T : List SL.Slot), k ≤ n ∧ ok = .bool true ∧ i = .int .i64 (k : Int) ∧ SL.Tok T ∧ P3 w M (tbc T) (tbc T) wr) (fun _ i _ => n - (intOf i).toNat)
    case atStart => exact ⟨0, zero, Nat.zero_le _, rfl, rfl, zero_ok, by rw [← HZ.out]; exact HD0.out⟩
    case round =>
      clear HD0
      obtain ⟨k, T, hk, rfl, rfl, hT, hp⟩ := hrel
      obtain ⟨L, hL⟩ : ∃ L, L = tbc T := ⟨_, rfl⟩
      have L656 := Lib.hid (show L.length = 656 by rw [hL]; exact tbc_len hT)
      have hxx := fun w => run_eql_table 34 Tryd.underlying34 hT hT w
      simp only [decide_true] at hxx
      rw [← hL] at hxx hp
      have HT := Lib.hid hT
      have HLE := Lib.hid hL
      have HP := Lib.hid hp
      clear hL hT hp
      by_cases hk2 : k < n
      · obtain ⟨x, hx⟩ : ∃ x, l0[k]? = some x := ⟨l0[k]'(by rw [← HN.out]; exact hk2), List.getElem?_eq_getElem (by rw [← HN.out]; exact hk2)⟩
        obtain ⟨b, off, u, f, rfl, hrx, hok⟩ := HR.out.at_ k x hx
        obtain ⟨C, hC⟩ : ∃ C, C = acs x u f := ⟨_, rfl⟩
        obtain ⟨X, hX⟩ : ∃ X, X = tbc (nxt T x l1) := ⟨_, rfl⟩
        obtain ⟨E, hE⟩ : ∃ E, E = stepE T x := ⟨_, rfl⟩
        have HXE := Lib.hid hX
        have HSALT := Lib.hid hok.salt
        have X656 := Lib.hid (show X.length = 656 by rw [hX]; exact tbc_len (nxt_ok HT.out x hok.salt H1.out))
        have XONE := Lib.hid (show X.toArray.all (·.oneCell') = true by rw [hX]; exact tbc_all _)
        have C20 := Lib.hid (show C.length = 20 by rw [hC]; exact acs_len hok)
        have HRX := Lib.hid (fun W (h : P3 w M L L W) => (show W.rangeAt b (off + k * 20) C by rw [hC]; exact rangeAt_below hrx h.bel))
        have HPD := Lib.hid (fun W (h : P3 w M L L W) => (show Calls Tryd.prog 21 #[.agg L.toArray, .agg L.toArray, .agg C.toArray, .agg M.toArray] W fun e w' => e = .returned (.tuple #[.agg X.toArray, .agg X.toArray, .int .i64 E, .bool true]) ∧ P3 w M L L w' by
          have h2 := HDO.out T HT.out x u f W (hok.below h.bel) h.bel
          rw [← HLE.out, ← hC, ← hX, ← hE, ← HM.out] at h2
          exact h2.mono fun e w' ⟨h3, h4⟩ => ⟨h3, h.below h4⟩))
        have HLT := Lib.hid hk2
        clear hx hrx hok hC hX hE hxx hI
        go_upto_region 9 with fail
        refine wp_region_z (by kernel_rfl) [7, 13, 14] (by kernel_rfl) (by kernel_rfl) (Stg [7, 13, 14] (GF (P3 w M L L) (P3 w M X L) (P3 w M X X))) [.pre (.agg L.toArray), .pre (.agg L.toArray), .pre (.slice (some ⟨b, off, none⟩) n cap), .pre (.int .i64 (k : Int)), .pre (.pointer (some ⟨b, off + k * 20, none⟩)), .pre (.agg C.toArray), .pre (.agg M.toArray), .pre (.tuple #[.agg X.toArray, .agg X.toArray, .int .i64 E, .bool true]), .pre (.tuple #[.agg X.toArray, .agg X.toArray, .int .i64 E, .bool true]), .pre (.agg X.toArray), .pre (.agg X.toArray), .pre (.int .i64 E), .pre (.bool true), .any, .any, .pre (.bool true)] (fun i hi hq => by
            simp only [List.mem_cons, List.mem_nil_iff, or_false] at hi
            rcases hi with rfl | rfl | rfl
            · exact absurd hq (by decide +kernel)
            · rfl
            · rfl) (Stg.zero (show P3 w M L L _ from (HP.out.below (Below.refl _ _).drew))) ?_ ?_
        · refine ⟨?_, ?_, ?_, ?_, ?_, ?_, ?_, ?_, ?_, ?_, ?_, ?_, ?_, ?_, ?_, ?_, trivial⟩
          · intro a w5 r hF hI hns hri h1 h2 hd
            have e5 : a.eval (.tmp 5) = .pointer (some ⟨(w.heap.size + 1), 0, none⟩) := hF 5 (by decide +kernel)
            have hA : GF (P3 w M L L) (P3 w M X L) (P3 w M X X) 0 r w5 := hI.at_ 0 (.inl rfl) (.inr ⟨by decide, h1 7 (by decide) (by decide +kernel)⟩)
            have hA : P3 w M L L w5 := hA
            have hrr := hA.b1.range
            exact doesZ_ld (by decide) rfl 30 (.tmp 5) rfl (w.heap.size + 1) 0 e5 L hrr _ Tryd.underlying30 rfl (by rw [L656.out]; exact infoTb) hI rfl
          · intro a w5 r hF hI hns hri h1 h2 hd
            have e6 : a.eval (.tmp 6) = .pointer (some ⟨(w.heap.size + 2), 0, none⟩) := hF 6 (by decide +kernel)
            have hA : GF (P3 w M L L) (P3 w M X L) (P3 w M X X) 0 r w5 := hI.at_ 0 (.inl rfl) (.inr ⟨by decide, h1 7 (by decide) (by decide +kernel)⟩)
            have hA : P3 w M L L w5 := hA
            have hrr := hA.b2.range
            exact doesZ_ld (by decide) rfl 34 (.tmp 6) rfl (w.heap.size + 2) 0 e6 L hrr _ Tryd.underlying34 rfl (by rw [L656.out]; exact infoTr) hI rfl
          · intro a w5 r hF hI hns hri h1 h2 hd
            have e0 : a.eval (.tmp 0) = .slice (some ⟨b, off, none⟩) n cap := hF 0 (by decide +kernel)
            exact doesZ_read (v := .slice (some ⟨b, off, none⟩) n cap) (by decide) rfl (ex_move rfl e0) hI rfl
          · intro a w5 r hF hI hns hri h1 h2 hd
            have e8 : a.eval (.tmp 8) = .int .i64 (k : Int) := hF 8 (by decide +kernel)
            exact doesZ_read (v := .int .i64 (k : Int)) (by decide) rfl (ex_move rfl e8) hI rfl
          · intro a w5 r hF hI hns hri h1 h2 hd
            have e22 : a.eval (.tmp 22) = .slice (some ⟨b, off, none⟩) n cap := hd 2 (by decide +kernel)
            have e23 : a.eval (.tmp 23) = .int .i64 (k : Int) := hd 3 (by decide +kernel)
            have f22 : a.tmps[22]?.getD undef = .slice (some ⟨b, off, none⟩) n cap := by rw [← Array.getD_eq_getD_getElem?]; exact e22
            have f23 : a.tmps[23]?.getD undef = .int .i64 (k : Int) := by rw [← Array.getD_eq_getD_getElem?]; exact e23
            have hkz : (k : Int) < (n : Int) := by have := HLT.out; omega
            exact doesZ_read (v := .pointer (some ⟨b, off + k * 20, none⟩)) (by decide) rfl (by unfold execOp; go_simp) hI rfl
          · intro a w5 r hF hI hns hri h1 h2 hd
            have e24 : a.eval (.tmp 24) = .pointer (some ⟨b, off + k * 20, none⟩) := hd 4 (by decide +kernel)
            have hA : GF (P3 w M L L) (P3 w M X L) (P3 w M X X) 0 r w5 := hI.at_ 0 (.inl rfl) (.inr ⟨by decide, h1 7 (by decide) (by decide +kernel)⟩)
            have hA : P3 w M L L w5 := hA
            have hrr := HRX.out _ hA
            exact doesZ_ld (by decide) rfl 56 (.tmp 24) rfl b (off + k * 20) e24 C hrr _ Tryd.underlying56 rfl (by rw [C20.out]; exact infoAct) hI rfl
          · intro a w5 r hF hI hns hri h1 h2 hd
            have e3 : a.eval (.tmp 3) = .pointer (some ⟨w.heap.size, 0, none⟩) := hF 3 (by decide +kernel)
            have hA : GF (P3 w M L L) (P3 w M X L) (P3 w M X X) 0 r w5 := hI.at_ 0 (.inl rfl) (.inr ⟨by decide, h1 7 (by decide) (by decide +kernel)⟩)
            have hA : P3 w M L L w5 := hA
            have hrr := hA.b0.range
            exact doesZ_ld (by decide) rfl 25 (.tmp 3) rfl w.heap.size 0 e3 M hrr _ Tryd.underlying25 rfl (by rw [M32.out]; exact infoK2) hI rfl
          · intro a w5 r hF hI hns hri h1 h2 hd
            have e20 : a.eval (.tmp 20) = .agg L.toArray := hd 0 (by decide +kernel)
            have e21 : a.eval (.tmp 21) = .agg L.toArray := hd 1 (by decide +kernel)
            have e25 : a.eval (.tmp 25) = .agg C.toArray := hd 5 (by decide +kernel)
            have e26 : a.eval (.tmp 26) = .agg M.toArray := hd 6 (by decide +kernel)
            have hA : GF (P3 w M L L) (P3 w M X L) (P3 w M X X) 0 r w5 := hI.at_ 0 (.inl rfl) (.inr ⟨by decide, hri⟩)
            have hA : P3 w M L L w5 := hA
            exact doesZ_call (by decide) rfl (ex_call (vs := #[.agg L.toArray, .agg L.toArray, .agg C.toArray, .agg M.toArray]) rfl (by simp only [List.map_toArray, List.map_cons, List.map_nil, e20, e21, e25, e26]) (by go_simp)) ((HPD.out w5 hA).mono fun e w6 hh => by obtain ⟨he, hl⟩ := hh; exact ⟨_, he, hI.next 0 7 _ rfl (by decide) (.inl rfl) hri (by decide) (show P3 w M L L w6 from hl), rfl⟩)
          · intro a w5 r hF hI hns hri h1 h2 hd
            have e27 : a.eval (.tmp 27) = .tuple #[.agg X.toArray, .agg X.toArray, .int .i64 E, .bool true] := hd 7 (by decide +kernel)
            exact doesZ_read (v := .tuple #[.agg X.toArray, .agg X.toArray, .int .i64 E, .bool true]) (by decide) rfl (ex_move rfl e27) hI rfl
          · intro a w5 r hF hI hns hri h1 h2 hd
            have e19 : a.eval (.tmp 19) = .tuple #[.agg X.toArray, .agg X.toArray, .int .i64 E, .bool true] := hd 8 (by decide +kernel)
            exact doesZ_read (v := .agg X.toArray) (by decide) rfl (by unfold execOp; simp only [e19]; go_simp) hI rfl
          · intro a w5 r hF hI hns hri h1 h2 hd
            have e19 : a.eval (.tmp 19) = .tuple #[.agg X.toArray, .agg X.toArray, .int .i64 E, .bool true] := hd 8 (by decide +kernel)
            exact doesZ_read (v := .agg X.toArray) (by decide) rfl (by unfold execOp; simp only [e19]; go_simp) hI rfl
          · intro a w5 r hF hI hns hri h1 h2 hd
            have e19 : a.eval (.tmp 19) = .tuple #[.agg X.toArray, .agg X.toArray, .int .i64 E, .bool true] := hd 8 (by decide +kernel)
            exact doesZ_read (v := .int .i64 E) (by decide) rfl (by unfold execOp; simp only [e19]; go_simp) hI rfl
          · intro a w5 r hF hI hns hri h1 h2 hd
            have e19 : a.eval (.tmp 19) = .tuple #[.agg X.toArray, .agg X.toArray, .int .i64 E, .bool true] := hd 8 (by decide +kernel)
            exact doesZ_read (v := .bool true) (by decide) rfl (by unfold execOp; simp only [e19]; go_simp) hI rfl
          · intro a w5 r hF hI hns hri h1 h2 hd
            have e5 : a.eval (.tmp 5) = .pointer (some ⟨(w.heap.size + 1), 0, none⟩) := hF 5 (by decide +kernel)
            have e28 : a.eval (.tmp 28) = .agg X.toArray := hd 9 (by decide +kernel)
            have hA : GF (P3 w M L L) (P3 w M X L) (P3 w M X X) 1 r w5 := hI.at_ 1 (.inr ⟨by decide, h2 7 (by decide) (by decide +kernel)⟩) (.inr ⟨by decide, hri⟩)
            have hA : P3 w M L L w5 := hA
            exact doesZ_put (by decide) rfl 30 (.tmp 5) (.tmp 28) rfl (w.heap.size + 1) 0 X e5 e28 30 L hA.b1 (by rw [X656.out, L656.out]; exact Nat.le_refl _) (by rw [X656.out]; exact infoTb) XONE.out rfl (fun w' o' g' => hI.next 1 13 _ rfl (by decide) (.inr ⟨by decide, h2 7 (by decide) (by decide +kernel)⟩) hri (by decide) (show P3 w M X L w' from hA.set1 (by rw [splice_all _ _ (by rw [X656.out, L656.out])] at o'; exact o') g'))
          · intro a w5 r hF hI hns hri h1 h2 hd
            have e6 : a.eval (.tmp 6) = .pointer (some ⟨(w.heap.size + 2), 0, none⟩) := hF 6 (by decide +kernel)
            have e29 : a.eval (.tmp 29) = .agg X.toArray := hd 10 (by decide +kernel)
            have hA : GF (P3 w M L L) (P3 w M X L) (P3 w M X X) 2 r w5 := hI.at_ 2 (.inr ⟨by decide, h2 13 (by decide) (by decide +kernel)⟩) (.inr ⟨by decide, hri⟩)
            have hA : P3 w M X L w5 := hA
            exact doesZ_put (by decide) rfl 34 (.tmp 6) (.tmp 29) rfl (w.heap.size + 2) 0 X e6 e29 34 L hA.b2 (by rw [X656.out, L656.out]; exact Nat.le_refl _) (by rw [X656.out]; exact infoTr) XONE.out rfl (fun w' o' g' => hI.next 2 14 _ rfl (by decide) (.inr ⟨by decide, h2 13 (by decide) (by decide +kernel)⟩) hri (by decide) (show P3 w M X X w' from hA.set2 (by rw [splice_all _ _ (by rw [X656.out, L656.out])] at o'; exact o') g'))
          · intro a w5 r hF hI hns hri h1 h2 hd
            have e31 : a.eval (.tmp 31) = .bool true := hd 12 (by decide +kernel)
            exact doesZ_read (v := .bool true) (by decide) rfl (ex_assign rfl e31) hI rfl
        · intro vs r w9 hI hS hvs
          have hz9 : P3 w M X X w9 := hI.at_ 3 (.inr ⟨by decide, hS 14 (by decide)⟩) (.inl rfl)
          have e1 : vs 15 = .bool true := hvs 15 (by decide)
          have HE := Lib.hid hz9
          clear hI hS hvs hz9
          simp only [putOps, Act.put, List.setIfInBounds_toArray, List.set_cons_zero, List.set_cons_succ, e1]
          clear e1
          generalize vs 0 = z0 at *; generalize vs 1 = z1 at *; generalize vs 2 = z2 at *; generalize vs 3 = z3 at *; generalize vs 4 = z4 at *; generalize vs 5 = z5 at *; generalize vs 6 = z6 at *; generalize vs 7 = z7 at *; generalize vs 8 = z8 at *; generalize vs 9 = z9 at *; generalize vs 10 = z10 at *; generalize vs 11 = z11 at *; generalize vs 12 = z12 at *
          have hq1 := HLT.out
          have hq2 := HN12.out
          have hw1 : wrap64 ((k : Int) + 1) = (k : Int) + 1 := by rw [wrap64]; omega
          go_wp2_with fail
          exact ⟨⟨k + 1, nxt T x l1, by have := HLT.out; have := HN.out; omega, rfl, by go_num, nxt_ok HT.out x HSALT.out H1.out, by rw [← HXE.out]; exact HE.out⟩, by have := HLT.out; simp [intOf]; omega⟩
      · obtain rfl : k = n := by omega
        have HPW := Lib.hid (HAW.out _ HP.out.bel)
        go_wp2_with ((fail_if_success (with_reducible show bodyPost _ _ _ _ _ _)); first
          | (refine wpList_load_mid rfl 30 (.tmp 5) rfl (w.heap.size + 1) 0 rfl L _ HP.out.b1.range Tryd.underlying30 rfl (by rw [L656.out]; exact infoTb) ?_)
          | (refine wpList_load_mid rfl 34 (.tmp 6) rfl (w.heap.size + 2) 0 rfl L _ HP.out.b2.range Tryd.underlying34 rfl (by rw [L656.out]; exact infoTr) ?_)
          | (refine wpList_bin rfl (b := .eql) (t := 34) (x := .tmp 34) (y := .tmp 35) rfl (.bool true) rfl rfl (run_eqGuard_agg _ _ _ _ _ _ _ eqTypeTr) (hxx _) ?_)
          | (go_at_call 15; (with_reducible refine HPW.out.mono ?_); rintro e w2 ⟨rfl, b2⟩; have B2 := Lib.hid (HP.out.bel.on b2); clear b2))
        go_ret
        exact ⟨rfl, B2.out⟩
set_option maxRecDepth 100000 in
theorem reads (os : Os) {H : Type} (enc : TypeId × Value → H) : ∃ places, DataW.whole enc Tryd.prog ((World.doorLaid Tryd.prog 400 os).forCall (fun _ _ => 0) ⟨#[], #[.slice none 0 0, .agg (row8 (List.replicate 32 0)).toArray], []⟩).memory Tryd.f6.params.toList Rows.slotsPlaysSpec.vars false (#[.slice none 0 0, .agg (row8 (List.replicate 32 0)).toArray] : Array Value).toList 8 = some ([.nil, lit8 (List.replicate 32 0)], [], places) :=
  ⟨[], by kernel_rfl⟩
set_option linter.unusedVariables false in
set_option maxHeartbeats 1000000 in
set_option maxRecDepth 100000 in
theorem lifted (os : Os) (started : os.Started) (H : Type) (enc : TypeId × Value → H) (F : Stop.Interp) :
    ReturnsInHanded {} Tryd.checked os 6 .any ((OpenSpec.ofChange Rows.slotsPlaysSpec).preRow enc Tryd.prog Tryd.f6 Rows.slotsPlaysRow.domain false laidXKAPs) (((OpenSpec.ofChange Rows.slotsPlaysSpec).at F).post enc Tryd.prog Tryd.f6 false true false false) := by
  obtain ⟨places, hx⟩ := reads os enc
  refine returnsInHanded_of_row (C := Tryd.checked) (s := OpenSpec.ofChange Rows.slotsPlaysSpec) own started (by kernel_rfl) Tryd.func6
    (witness_row_atRef (enc := enc) (C := Tryd.checked) false (World.doorLaid Tryd.prog 400 os) #[.slice none 0 0, .agg (row8 (List.replicate 32 0)).toArray] rfl (by kernel_rfl) (by kernel_rfl) (by kernel_rfl)
      (OpenSpec.preRow_of_cond 8 hx (by kernel_rfl) (fun k hk => by cases hk) (by kernel_rfl) (doorXKAPs_met os _))) ?_
  intro W base args ds gs before hval0 hW _ hcond hsz0 hL _ _
  have hsz : (DataW.weightsEach Tryd.prog (Tryd.f6.params.toList ++ Rows.slotsPlaysSpec.plain.varTypes Tryd.prog) (ds ++ gs)).all (· ≤ reachBytes) = true := hsz0
  clear hsz0
  have hval : ∀ (j : Nat) t v, Tryd.f6.params[j]? = some t → args[j]? = some v → Value.okWide Tryd.prog W .any base t v := hval0
  have hW' := hW
  obtain ⟨p, q, hA0, hV, rfl, _, _⟩ := hW
  have hA : DataW.TrodAll enc Tryd.prog W 0 (fun _ => true) true Tryd.f6.params.toList args.toList ds p := hA0
  rw [Tryd.params6] at hA hval hsz
  obtain ⟨v0, vs0, d0, ds0, p0, q0, hargs, rfl, rfl, g0, r0⟩ := trodAll_cons hA
  obtain ⟨v1, vs1, d1, ds1, p1, q1, rfl, rfl, rfl, g1, r1⟩ := trodAll_cons r0
  obtain ⟨rfl, rfl, rfl⟩ := trodAll_nil r1
  obtain rfl : args = #[v0, v1] := by cases args; simp_all
  obtain ⟨rfl, rfl⟩ := trodVars_none hV
  obtain ⟨l0, h0⟩ := open_actss (hval 0 52 v0 rfl rfl) g0 (fun n hn => by simpa using List.all_eq_true.1 hsz n (DataW.weights_mem_each (j := 0) (t := 52) rfl rfl n hn))
  obtain ⟨l1, h1, rfl, rfl, rfl⟩ := open_row Tryd.underlying25 Tryd.underlying5 cells5 (hval 1 25 v1 rfl rfl) cells25 g1
  clear hA0 hval0
  have hlt := hW'.lt
  refine (walk W (tabsXKAPs_of_laid hL) v0 l0 h0 l1 h1).mono fun e W' ⟨he, hb⟩ => ?_
  subst he
  have hargs : DataW.TrodAll enc Tryd.prog W' 0 (fun b => decide (b < W.heap.size)) true _ _ _ _ := (trodAll_cons_mk (Below.trod laidOut (by kernel_rfl) (of_decide_eq_true (by kernel_rfl)) g0 hb (fun x hx => hlt x (by simp [hx]))) (trodAll_cons_mk (shut_row Tryd.underlying25 Tryd.underlying5 cells5 cells25 h1) trodAll_mk0))
  simp only [List.append_nil] at hW' hargs
  exact ⟨_, rfl, post_law hW' (trodAll_cons_mk (shut_bool Tryd.underlying4 _) trodAll_mk0) hargs rfl hb⟩
theorem over : Rows.slotsPlaysRow.holds Tryd.pinned (OpenSpec.ofChange Rows.slotsPlaysSpec) :=
  OpenClaim.holds_of_cond 6 Tryd.f6 rfl rfl rfl rfl rfl rfl rfl ⟨rfl, rfl, rfl, rfl, rfl⟩ rfl rfl rfl rfl rfl (by kernel_rfl) Tryd.func6 (by kernel_rfl)
    (of_decide_eq_true (by kernel_rfl)) (by unfold Func.isWrapper; first | (rw [if_pos (by decide +kernel)]; kernel_rfl) | (rw [if_neg (by decide +kernel)]; exact ⟨rfl, rfl⟩))
    (fun os started H enc _ F => by rw [OpenClaim.pre_eq_preRow]; exact lifted os started H enc F)

/-- The given statement. -/
theorem proved : Rows.SlotsPlaysCardSaid :=
  Claim7.holds_tied_plain_at .later [] _ _ _ _
    over (fun _ h => by cases h) (by kernel_rfl) (fun _ h => by cases h) slotsPlays_row_tie rfl ⟨rfl, rfl⟩ (by kernel_rfl) rfl
    (fun f fn hf hfn => by
      obtain rfl : f = 6 := Option.some.inj ((show Tryd.prog.funcNamed "reliquary/reliquarylaw12.SlotsPlays" = some 6 by kernel_rfl).symm.trans hf) |>.symm
      obtain rfl : fn = Tryd.f6 := (Option.some.inj (Tryd.func6.symm.trans hfn)).symm
      exact ⟨by kernel_rfl, fun j t ht => by
        rw [Tryd.params6] at ht
        have hm : t ∈ [52, 25] := by simpa using Array.mem_of_getElem? ht
        have hall : ([52, 25].all fun u => !Tryd.prog.wantsStandIn u) = true := by kernel_rfl
        exact (show Tryd.prog.wantsStandIn t = false by simpa using List.all_eq_true.1 hall t hm)⟩)
    (by kernel_rfl)
end Go.Proofs.YtbepchikngoknaaDoor.slotsPlays

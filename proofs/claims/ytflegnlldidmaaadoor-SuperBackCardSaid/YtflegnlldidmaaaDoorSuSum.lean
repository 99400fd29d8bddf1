/- The sums of what is laid of a geometry, the program's and the document's: contracts. Written by gen_susum.py. Own work. -/
import Derived.Test.YtflegnlldidmaaaDoorSuPut
import Derived.Test.YtflegnlldidmaaaDoorSuPutR
import Derived.Test.YtflegnlldidmaaaDoorFillTo
import Derived.Test.YtflegnlldidmaaaDoorShaB
import Derived.Test.YtflegnlldidmaaaDoorShaD
import Derived.Great.BuildSlice
namespace Go.Proofs.YtflegnlldidmaaaDoor
open Go.ChangeShapes Go.WideShapes Go.ChangeAt Go.RowKit
open SM SU
/-- The sum of what is laid; the zero sum, if there is none. -/
def SU.sum (C P : Int) : List Nat := if may C P = true then sha (laid C.toNat P.toNat) else List.replicate 32 0
theorem zeroSu (w : World) : (zeroValue 31).run Tryd.prog w = .ok (.agg (row8 (List.replicate 32 0)).toArray) w := by kernel_rfl
theorem builtSu : Tryd.prog.built 31 [] = some (row8 (List.replicate 32 0)).toArray := by kernel_rfl
set_option maxRecDepth 100000 in
set_option maxHeartbeats 1000000 in
theorem susum_any (C P : Int) (w : World) (ht : TabP w) : Calls Tryd.prog 8 #[.agg #[.int .i64 C, .int .i64 P]] w fun e w' => e = .returned (.agg (row8 (sum C P)).toArray) ∧ Below w.heap.size w w' := by
  obtain ⟨D0, hD0⟩ : ∃ D, D = row8 (List.replicate 32 0) := ⟨_, rfl⟩
  have hz : ∀ w, (zeroValue 31).run Tryd.prog w = .ok (.agg D0.toArray) w := by rw [hD0]; exact zeroSu
  have hbu : Tryd.prog.built 31 [] = some D0.toArray := by rw [hD0]; exact builtSu
  have hd0 : D0.length = 32 := by rw [hD0, row8_len, List.length_replicate]
  have HD := Lib.hid hD0
  have W1 := Lib.hid ((Below.refl w.heap.size w).alloc (Nat.le_refl _) (.cells [Value.int .i64 C, .int .i64 P].toArray 23))
  have W2 := Lib.hid (W1.out.alloc W1.out.size (.cells D0.toArray 31))
  have T2 := Lib.hid ((Blk.new w 23 [.int .i64 C, .int .i64 P] _ rfl).alloc (.cells D0.toArray 31))
  have R2 := Lib.hid (Blk.new (w.alloc (.cells [Value.int .i64 C, .int .i64 P].toArray 23)) 31 D0 (w.heap.size + 1) (by simp))
  have HP := Lib.hid (fun W => suput_any C P W)
  have HTP := Lib.hid ht
  clear hD0 ht
  cases hm : may C P with
  | true =>
    obtain ⟨c, p, rfl, rfl, h⟩ := may_nat hm
    obtain ⟨M, hM⟩ : ∃ M, M = sha (laid c p) := ⟨_, rfl⟩
    rw [show sum c p = M by rw [hM]; unfold sum; rw [hm]; rfl]
    have M32 := Lib.hid (show (row8 M).length = 32 by rw [row8_len, hM]; exact (sha_bytes _).1)
    have HPL := Lib.hid (show (laid c p).length ≤ 1152921504606846976 by rw [laid_len]; decide)
    have HM := Lib.hid hM
    rw [(put_yes hm).1, (put_yes hm).2] at HP
    
    
    clear hM hm h
    go_enter Tryd.func8, Tryd.ntmps8
    go_wp2_with (first
      | (refine wpList_load_mid rfl 23 (.tmp 1) rfl w.heap.size 0 rfl [.int .i64 (c : Int), .int .i64 (p : Int)] _ T2.out.range Tryd.underlying23 rfl infoGeo ?_)
      | (go_at_call 6; (with_reducible refine (HP.out _).mono ?_); rintro e w3 ⟨v, rfl, o3, b3⟩; obtain ⟨pa, pc, rfl, _⟩ := o3.rd.shape; rw [laid_len] at o3 ⊢; have W3 := Lib.hid (W2.out.on b3); have R3 := Lib.hid (R2.out.below b3 R2.out.lt); have HO := Lib.hid (of_one_at (w := w3) rfl o3.rd (HTP.out.below W3.out) HPL.out HM.out); clear o3 b3)
      | (go_at_call 22; (with_reducible refine HO.out.mono ?_); rintro e w4 ⟨rfl, b4⟩; have W4 := Lib.hid (W3.out.on b4); have R4 := Lib.hid (R3.out.below b4 R3.out.lt); clear b4)
      | (refine wpList_store_blk rfl 31 (.tmp 2) (.tmp 15) rfl (w.heap.size + 1) 0 (row8 M) rfl rfl 31 D0 R4.out (by rw [M32.out, hd0]; exact Nat.le_refl _) (by rw [M32.out]; exact infoS) (row8_one _) ?_; intro w5 b5 g5; rw [splice_all _ _ (by rw [M32.out, hd0])] at b5; have U5 := Lib.hid b5; have W5 := Lib.hid (W4.out.grown g5 W4.out.size (fun g hg => by have := Option.some.inj hg; omega)); clear b5 g5))
    exact bodyPost_ret (results_mid rfl _ _ (w.heap.size + 1) (row8 M) _ rfl U5.out.range Tryd.underlying31 rfl (by rw [M32.out]; exact infoS)) rfl ⟨rfl, W5.out⟩
  | false =>
    rw [show sum C P = List.replicate 32 0 by unfold sum; rw [hm]; rfl]
    rw [(put_no hm).1, (put_no hm).2] at HP
    clear hm
    rw [← HD.out]
    go_enter Tryd.func8, Tryd.ntmps8
    go_wp2_with ((fail_if_success (with_reducible show bodyPost _ _ _ _ _ _)); first
      | (refine wpList_load_mid rfl 23 (.tmp 1) rfl w.heap.size 0 rfl [.int .i64 C, .int .i64 P] _ T2.out.range Tryd.underlying23 rfl infoGeo ?_)
      | (go_at_call 6; (with_reducible refine (HP.out _).mono ?_); rintro e w3 ⟨v, rfl, o3, b3⟩; obtain ⟨pa, pc, rfl, _⟩ := o3.rd.shape; have W3 := Lib.hid (W2.out.on b3); have R3 := Lib.hid (R2.out.below b3 R2.out.lt); clear o3 b3)
      | (refine wpList_buildTo rfl 31 _ rfl (some 12) rfl D0.toArray (Eq.trans (b := Tryd.prog.built 31 []) (by kernel_rfl) hbu) ?_)
      | (refine wpList_store_blk rfl 31 (.tmp 2) (.tmp 12) rfl (w.heap.size + 1) 0 D0 rfl rfl 31 D0 R3.out (by rw [hd0]; exact Nat.le_refl _) (by rw [hd0]; exact infoS) (by rw [HD.out]; exact row8_one _) ?_; intro w5 b5 g5; rw [splice_all _ _ (by rfl)] at b5; have U5 := Lib.hid b5; have W5 := Lib.hid (W3.out.grown g5 W3.out.size (fun g hg => by have := Option.some.inj hg; omega)); clear b5 g5))
    exact bodyPost_ret (results_mid rfl _ _ (w.heap.size + 1) D0 _ rfl U5.out.range Tryd.underlying31 rfl (by rw [hd0]; exact infoS)) rfl ⟨rfl, W5.out⟩
set_option maxRecDepth 100000 in
set_option maxHeartbeats 1000000 in
theorem rsusum_any (C P : Int) (w : World) (ht : Tab w) : Calls Tryd.prog 9 #[.agg #[.int .i64 C, .int .i64 P]] w fun e w' => e = .returned (.agg (row8 (sum C P)).toArray) ∧ Below w.heap.size w w' := by
  obtain ⟨D0, hD0⟩ : ∃ D, D = row8 (List.replicate 32 0) := ⟨_, rfl⟩
  have hz : ∀ w, (zeroValue 31).run Tryd.prog w = .ok (.agg D0.toArray) w := by rw [hD0]; exact zeroSu
  have hbu : Tryd.prog.built 31 [] = some D0.toArray := by rw [hD0]; exact builtSu
  have hd0 : D0.length = 32 := by rw [hD0, row8_len, List.length_replicate]
  have HD := Lib.hid hD0
  have W1 := Lib.hid ((Below.refl w.heap.size w).alloc (Nat.le_refl _) (.cells [Value.int .i64 C, .int .i64 P].toArray 23))
  have W2 := Lib.hid (W1.out.alloc W1.out.size (.cells D0.toArray 31))
  have T2 := Lib.hid ((Blk.new w 23 [.int .i64 C, .int .i64 P] _ rfl).alloc (.cells D0.toArray 31))
  have R2 := Lib.hid (Blk.new (w.alloc (.cells [Value.int .i64 C, .int .i64 P].toArray 23)) 31 D0 (w.heap.size + 1) (by simp))
  have HP := Lib.hid (fun W => rsuput_any C P W)
  have HTP := Lib.hid ht
  clear hD0 ht
  cases hm : may C P with
  | true =>
    obtain ⟨c, p, rfl, rfl, h⟩ := may_nat hm
    obtain ⟨M, hM⟩ : ∃ M, M = sha (laid c p) := ⟨_, rfl⟩
    rw [show sum c p = M by rw [hM]; unfold sum; rw [hm]; rfl]
    have M32 := Lib.hid (show (row8 M).length = 32 by rw [row8_len, hM]; exact (sha_bytes _).1)
    have HPL := Lib.hid (show (laid c p).length ≤ 1152921504606846976 by rw [laid_len]; decide)
    have HM := Lib.hid hM
    rw [(put_yes hm).1, (put_yes hm).2] at HP
    have HO := Lib.hid (fun W (v : Value) (hW : Below w.heap.size w W) (hv : Rd W v (laid c p)) => rof_any (laid c p) (by rw [laid_len]; decide) v W hv (HTP.out.below hW))
    rw [← hM] at HO
    clear hM hm h
    go_enter Tryd.func9, Tryd.ntmps9
    go_wp2_with (first
      | (refine wpList_load_mid rfl 23 (.tmp 1) rfl w.heap.size 0 rfl [.int .i64 (c : Int), .int .i64 (p : Int)] _ T2.out.range Tryd.underlying23 rfl infoGeo ?_)
      | (go_at_call 7; (with_reducible refine (HP.out _).mono ?_); rintro e w3 ⟨v, rfl, o3, b3⟩; obtain ⟨pa, pc, rfl, _⟩ := o3.rd.shape; rw [laid_len] at o3 ⊢; have W3 := Lib.hid (W2.out.on b3); have R3 := Lib.hid (R2.out.below b3 R2.out.lt); have V3 := Lib.hid o3.rd; clear o3 b3)
      | (go_at_call 23; (with_reducible refine (HO.out w3 _ W3.out V3.out).mono ?_); rintro e w4 ⟨rfl, b4⟩; have W4 := Lib.hid (W3.out.on b4); have R4 := Lib.hid (R3.out.below b4 R3.out.lt); clear b4)
      | (refine wpList_store_blk rfl 31 (.tmp 2) (.tmp 14) rfl (w.heap.size + 1) 0 (row8 M) rfl rfl 31 D0 R4.out (by rw [M32.out, hd0]; exact Nat.le_refl _) (by rw [M32.out]; exact infoS) (row8_one _) ?_; intro w5 b5 g5; rw [splice_all _ _ (by rw [M32.out, hd0])] at b5; have U5 := Lib.hid b5; have W5 := Lib.hid (W4.out.grown g5 W4.out.size (fun g hg => by have := Option.some.inj hg; omega)); clear b5 g5))
    exact bodyPost_ret (results_mid rfl _ _ (w.heap.size + 1) (row8 M) _ rfl U5.out.range Tryd.underlying31 rfl (by rw [M32.out]; exact infoS)) rfl ⟨rfl, W5.out⟩
  | false =>
    rw [show sum C P = List.replicate 32 0 by unfold sum; rw [hm]; rfl]
    rw [(put_no hm).1, (put_no hm).2] at HP
    clear hm
    rw [← HD.out]
    go_enter Tryd.func9, Tryd.ntmps9
    go_wp2_with ((fail_if_success (with_reducible show bodyPost _ _ _ _ _ _)); first
      | (refine wpList_load_mid rfl 23 (.tmp 1) rfl w.heap.size 0 rfl [.int .i64 C, .int .i64 P] _ T2.out.range Tryd.underlying23 rfl infoGeo ?_)
      | (go_at_call 7; (with_reducible refine (HP.out _).mono ?_); rintro e w3 ⟨v, rfl, o3, b3⟩; obtain ⟨pa, pc, rfl, _⟩ := o3.rd.shape; have W3 := Lib.hid (W2.out.on b3); have R3 := Lib.hid (R2.out.below b3 R2.out.lt); clear o3 b3)
      | (refine wpList_buildTo rfl 31 _ rfl (some 12) rfl D0.toArray (Eq.trans (b := Tryd.prog.built 31 []) (by kernel_rfl) hbu) ?_)
      | (refine wpList_store_blk rfl 31 (.tmp 2) (.tmp 12) rfl (w.heap.size + 1) 0 D0 rfl rfl 31 D0 R3.out (by rw [hd0]; exact Nat.le_refl _) (by rw [hd0]; exact infoS) (by rw [HD.out]; exact row8_one _) ?_; intro w5 b5 g5; rw [splice_all _ _ (by rfl)] at b5; have U5 := Lib.hid b5; have W5 := Lib.hid (W3.out.grown g5 W3.out.size (fun g hg => by have := Option.some.inj hg; omega)); clear b5 g5))
    exact bodyPost_ret (results_mid rfl _ _ (w.heap.size + 1) D0 _ rfl U5.out.range Tryd.underlying31 rfl (by rw [hd0]; exact infoS)) rfl ⟨rfl, W5.out⟩
end Go.Proofs.YtflegnlldidmaaaDoor

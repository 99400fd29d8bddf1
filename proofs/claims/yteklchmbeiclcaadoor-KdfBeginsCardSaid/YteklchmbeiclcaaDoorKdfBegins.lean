/- KdfBegins: for any passphrase and salt: what is shorter is a beginning of what is longer, or it is told why not; and the law's closed case holds. No condition but that the program's table holds its constants when the call begins. -/
import Derived.Test.YteklchmbeiclcaaDoorRows
import Derived.Test.YteklchmbeiclcaaDoorKdfLaws
import Derived.Test.YteklchmbeiclcaaDoorMem
import Derived.Test.YteklchmbeiclcaaDoorShaC
import Derived.Test.YteklchmbeiclcaaDoorTie
import Derived.Test.YteklchmbeiclcaaDoorCards
import Derived.SevenTiedAt
import Derived.WalkKit
import Derived.ProofKit
import Derived.OpenShut
import Derived.SizedLaws
import Derived.Carry
import Derived.Deep.DeepHandedRow
import Derived.Deep.DeepWitnessRowRef
namespace Go.Proofs.YteklchmbeiclcaaDoor.kdfBegins
open Go.ChangeShapes Go.WideShapes Go.ChangeAt Go.RowKit

theorem own : ownKnob Tryd.prog.godebug = none := by kernel_rfl
theorem cells37 : Tryd.prog.cellsOf 37 = 2 := by kernel_rfl
theorem cells36 : Tryd.prog.cellsOf 36 = 1 := by kernel_rfl
set_option linter.unusedVariables false in
set_option maxHeartbeats 4000000 in
set_option maxRecDepth 100000 in
theorem walk (w : World) (ht : TabP w) (v0 : Value) (l0 : List Nat) (h0 : Rd w v0 l0) (v1 : Value) (l1 : List Nat) (h1 : Rd w v1 l1) (l2 : List Int) (h2 : IntRow .u16 2 l2) :
    Calls Tryd.prog 5 #[v0, v1, .agg (rowI .u16 l2).toArray] w fun e w' => e = .returned (.bool true) ∧ Below w.heap.size w w' := by
  obtain ⟨x, y, rfl, wx, wy⟩ := h2.two
  obtain ⟨na, hna, rfl⟩ : ∃ n : Nat, n < 65536 ∧ x = (n : Int) := by
    have k : 0 ≤ x ∧ x ≤ 65535 := by simpa [Lit.wf, IntKind.min, IntKind.max, IntKind.signed, IntKind.bits] using wx
    exact ⟨x.toNat, by omega, by omega⟩
  obtain ⟨nb, hnb, rfl⟩ : ∃ n : Nat, n < 65536 ∧ y = (n : Int) := by
    have k : 0 ≤ y ∧ y ≤ 65535 := by simpa [Lit.wf, IntKind.min, IntKind.max, IntKind.signed, IntKind.bits] using wy
    exact ⟨y.toNat, by omega, by omega⟩
  obtain ⟨m, hm⟩ : ∃ m, m = na % 200 := ⟨_, rfl⟩
  obtain ⟨n, hn⟩ : ∃ n, n = nb % 200 := ⟨_, rfl⟩
  have hmI : ((na : Nat) : Int) % 200 = (m : Int) := by omega
  have hnI : ((nb : Nat) : Int) % 200 = (n : Int) := by omega
  have hm2 : m < 200 := by omega
  have hn2 : n < 200 := by omega
  obtain ⟨a0, c0, rfl, _⟩ := h0.shape
  obtain ⟨a1, c1, rfl, _⟩ := h1.shape
  rw [show (rowI .u16 [((na : Nat) : Int), ((nb : Nat) : Int)]).toArray = #[.int .u16 (na : Int), .int .u16 (nb : Int)] from rfl]
  have HT := Lib.hid ht
  have n1 := Blk.new w 37 [.int .u16 (na : Int), .int .u16 (nb : Int)] _ rfl
  have x0 := n1.cell 0 _ rfl
  have x1 := n1.cell 1 _ rfl
  have w1 := ((Below.refl w.heap.size w).alloc (Nat.le_refl _) (.cells #[.int .u16 (na : Int), .int .u16 (nb : Int)] 37))
  have B0 := Lib.hid w1
  obtain ⟨E, hE⟩ : ∃ E, E = SM.kerr l0 l1 (1 + (n : Int) % 4) (m : Int) := ⟨_, rfl⟩
  have hE2 : SM.kerr l0 l1 (1 + (n : Int) % 4) ((m : Int) + (n : Int)) = E := by
    rw [hE]; unfold SM.kerr
    by_cases q : 512 < l0.length ∨ 1024 < l1.length
    · rw [if_pos q, if_pos q]
    · rw [if_neg q, if_neg q, if_neg (by omega), if_neg (by omega)]
  obtain ⟨X, hX⟩ : ∃ X, X = SM.kres l0 l1 (1 + (n : Int) % 4) (m : Int) := ⟨_, rfl⟩
  obtain ⟨Y, hY⟩ : ∃ X, X = SM.kres l0 l1 (1 + (n : Int) % 4) ((m : Int) + (n : Int)) := ⟨_, rfl⟩
  have HP1 := Lib.hid (fun W (hW : Below w.heap.size w W) => kderive_any l0 l1 (1 + (n : Int) % 4) (m : Int) _ _ W (h0.below hW) (h1.below hW) (ht.below hW))
  have HP2 := Lib.hid (fun W (hW : Below w.heap.size w W) => kderive_any l0 l1 (1 + (n : Int) % 4) ((m : Int) + (n : Int)) _ _ W (h0.below hW) (h1.below hW) (ht.below hW))
  rw [← hE, ← hX] at HP1
  rw [hE2, ← hY] at HP2
  have HHE := Lib.hid hE
  have HHE2 := Lib.hid hE2
  have HHX := Lib.hid hX
  have HHY := Lib.hid hY
  clear h0 h1 h2 ht n1 w1 hE hE2 hX hY hm hn
  go_enter Tryd.func5, Tryd.ntmps5
  go_upto_region 1 with (fail)
  go_big_quiet (fail)
  rw [hmI, hnI]
  have B1 := Lib.hid (below_dN B0.out nq)
  generalize (w.alloc (.cells #[.int .u16 (na : Int), .int .u16 (nb : Int)] 37)).drewN nq = w1 at *
  clear B0 x0 x1 hmI hnI
  by_cases hlong : 512 < l0.length ∨ 1024 < l1.length
  · have hE5 : E = 5 := by rw [HHE.out]; unfold SM.kerr; rw [if_pos hlong]
    subst hE5
    have hX0 : X = [] := by rw [HHX.out, kres_no _ _ _ _ (by rw [← HHE.out]; decide)]
    subst hX0
    go_wp2_with (first
      | (go_at_call 10; (with_reducible refine (HP1.out _ B1.out).mono ?_); rintro e w2 ⟨x2, rfl, r2, b2⟩; obtain ⟨ax, cx, rfl, _⟩ := r2.shape; have B2 := Lib.hid (B1.out.on b2); clear r2 b2)
      | (go_at_call 10; (with_reducible refine (HP2.out _ B2.out).mono ?_); rintro e w3 ⟨y3, rfl, r3, b3⟩; have B3 := Lib.hid (B2.out.on b3); clear r3 b3)
      | (go_at_call 9; (with_reducible refine (kawake_any _ (HT.out.below B3.out)).mono ?_); rintro e w4 ⟨rfl, b4⟩; have B4 := Lib.hid (B3.out.on b4); clear b4))
    go_ret
    exact ⟨rfl, B4.out⟩
  · have hE0 : E = 0 := by rw [HHE.out]; exact kerr_ok _ _ _ _ (by omega) (by omega) (by omega) (by omega) (by omega) (by omega)
    subst hE0
    have hX1 : X = SM.kder l0 l1 (1 + (n : Int) % 4).toNat m := by rw [HHX.out, kres_ok _ _ _ _ HHE.out.symm]; simp
    have hY1 : Y = SM.kder l0 l1 (1 + (n : Int) % 4).toNat (m + n) := by
      rw [HHY.out, kres_ok _ _ _ _ HHE2.out, show ((m : Int) + (n : Int)).toNat = m + n by omega]
    have HXL := Lib.hid (show X.length = m by rw [hX1, SM.kder_len])
    have HYL := Lib.hid (show Y.length = m + n by rw [hY1, SM.kder_len])
    have HYX := Lib.hid (show Y.take m = X by rw [hX1, hY1]; exact SM.kder_begins _ _ _ _ _)
    clear hX1 hY1
    go_upto_region 6 with (first
      | (go_at_call 10; (with_reducible refine (HP1.out _ B1.out).mono ?_); rintro e w2 ⟨x2, rfl, r2, b2⟩; obtain ⟨ax, cx, rfl, _⟩ := r2.shape; have B2 := Lib.hid (B1.out.on b2); have R2 := Lib.hid r2; rw [HXL.out] at R2 ⊢; clear r2 b2)
      | (go_at_call 10; (with_reducible refine (HP2.out _ B2.out).mono ?_); rintro e w3 ⟨y3, rfl, r3, b3⟩; obtain ⟨ay, cy, rfl, hcy⟩ := r3.shape; have B3 := Lib.hid (B2.out.on b3); have RX3 := Lib.hid (R2.out.below b3); have RY3 := Lib.hid r3; have HCY := Lib.hid hcy; rw [HYL.out] at RY3 HCY ⊢; clear r3 b3 hcy))
    have HT3 := Lib.hid (HT.out.below B3.out)
    have rc := RY3.out.take m (by rw [HYL.out]; omega)
    rw [HYX.out] at rc
    have RC3 := Lib.hid rc
    clear rc
    refine wp_region_g (by kernel_rfl) 29 (by decide) (by kernel_rfl) (by kernel_rfl) (by kernel_rfl) (w3.heap.size) (Nat.le_refl _) [.val (.int .i64 0), .val (.bool true), .val (.bool true), .val (.slice ax m cx), .val (.int .i64 (m : Int)), .val (.int .i64 (m : Int)), .val (.bool true), .val (.bool true), .val (.bool true), .val (.slice ay (m + n) cy), .val (.int .i64 ((m : Int) + (n : Int))), .val (.int .i64 (m : Int)), .val (.int .i64 (n : Int)), .val (.int .i64 ((m : Int) + (n : Int))), .val (.bool true), .val (.bool true), .val (.bool true), .val (.slice ay (m + n) cy), .val (.int .i64 (m : Int)), .val (.slice ay m cy), .val (.string (bstr X)), .val (.slice ax m cx), .val (.string (bstr X)), .val (.bool true), .val (.bool true), .val (.bool true), .val (.bool true), .val (.bool true), .val (.bool true)] (fun _ => 29) ?_ ?_
    · refine ⟨?_, ?_, ?_, ?_, ?_, ?_, ?_, ?_, ?_, ?_, ?_, ?_, ?_, ?_, ?_, ?_, ?_, ?_, ?_, ?_, ?_, ?_, ?_, ?_, ?_, ?_, ?_, ?_, ?_, trivial⟩
      · intro a w' hF hB hd
        have e12 : a.eval (.tmp 12) = .int .i64 0 := hF 12 (by decide +kernel)
        exact doesG_val rfl (ex_move rfl e12) rfl rfl
      · intro a w' hF hB hd
        have e60 : a.eval (.tmp 60) = .int .i64 0 := hd 0 (by decide +kernel) (.inr (by decide))
        exact doesG_val rfl (ex_binOp rfl e60 rfl (by go_simp) (by go_simp)) rfl rfl
      · intro a w' hF hB hd
        have e61 : a.eval (.tmp 61) = .bool true := hd 1 (by decide +kernel) (.inr (by decide))
        exact doesG_val rfl (ex_move rfl e61) rfl rfl
      · intro a w' hF hB hd
        have e62 : a.eval (.tmp 62) = .bool true := hd 2 (by decide +kernel) (.inr (by decide))
        have e9 : a.eval (.tmp 9) = .slice ax m cx := hF 9 (by decide +kernel)
        exact doesG_val (wanted_of rfl (yielded_of rfl e62)) (ex_move rfl e9) rfl rfl
      · intro a w' hF hB hd
        have e62 : a.eval (.tmp 62) = .bool true := hd 2 (by decide +kernel) (.inr (by decide))
        have e63 : a.eval (.tmp 63) = .slice ax m cx := hd 3 (by decide +kernel) (.inr (by decide))
        have f63 : a.tmps[63]?.getD undef = .slice ax m cx := by rw [← Array.getD_eq_getD_getElem?]; exact e63
        exact doesG_val (wanted_of rfl (yielded_of rfl e62)) (v := .int .i64 (m : Int)) (by unfold execOp; go_simp) rfl rfl
      · intro a w' hF hB hd
        have e62 : a.eval (.tmp 62) = .bool true := hd 2 (by decide +kernel) (.inr (by decide))
        have e7 : a.eval (.tmp 7) = .int .i64 (m : Int) := hF 7 (by decide +kernel)
        exact doesG_val (wanted_of rfl (yielded_of rfl e62)) (ex_move rfl e7) rfl rfl
      · intro a w' hF hB hd
        have e62 : a.eval (.tmp 62) = .bool true := hd 2 (by decide +kernel) (.inr (by decide))
        have e64 : a.eval (.tmp 64) = .int .i64 (m : Int) := hd 4 (by decide +kernel) (.inr (by decide))
        have e65 : a.eval (.tmp 65) = .int .i64 (m : Int) := hd 5 (by decide +kernel) (.inr (by decide))
        exact doesG_val (wanted_of rfl (yielded_of rfl e62)) (ex_binOp rfl e64 e65 (by go_simp) (by go_simp)) rfl rfl
      · intro a w' hF hB hd
        have e62 : a.eval (.tmp 62) = .bool true := hd 2 (by decide +kernel) (.inr (by decide))
        have e66 : a.eval (.tmp 66) = .bool true := hd 6 (by decide +kernel) (.inr (by decide))
        exact doesG_val rfl (ex_pick rfl e62 (by simp [e66])) rfl rfl
      · intro a w' hF hB hd
        have e67 : a.eval (.tmp 67) = .bool true := hd 7 (by decide +kernel) (.inr (by decide))
        exact doesG_val rfl (ex_move rfl e67) rfl rfl
      · intro a w' hF hB hd
        have e68 : a.eval (.tmp 68) = .bool true := hd 8 (by decide +kernel) (.inr (by decide))
        have e11 : a.eval (.tmp 11) = .slice ay (m + n) cy := hF 11 (by decide +kernel)
        exact doesG_val (wanted_of rfl (yielded_of rfl e68)) (ex_move rfl e11) rfl rfl
      · intro a w' hF hB hd
        have e68 : a.eval (.tmp 68) = .bool true := hd 8 (by decide +kernel) (.inr (by decide))
        have e69 : a.eval (.tmp 69) = .slice ay (m + n) cy := hd 9 (by decide +kernel) (.inr (by decide))
        have f69 : a.tmps[69]?.getD undef = .slice ay (m + n) cy := by rw [← Array.getD_eq_getD_getElem?]; exact e69
        exact doesG_val (wanted_of rfl (yielded_of rfl e68)) (v := .int .i64 ((m : Int) + (n : Int))) (by unfold execOp; go_simp) rfl rfl
      · intro a w' hF hB hd
        have e68 : a.eval (.tmp 68) = .bool true := hd 8 (by decide +kernel) (.inr (by decide))
        have e7 : a.eval (.tmp 7) = .int .i64 (m : Int) := hF 7 (by decide +kernel)
        exact doesG_val (wanted_of rfl (yielded_of rfl e68)) (ex_move rfl e7) rfl rfl
      · intro a w' hF hB hd
        have e68 : a.eval (.tmp 68) = .bool true := hd 8 (by decide +kernel) (.inr (by decide))
        have e8 : a.eval (.tmp 8) = .int .i64 (n : Int) := hF 8 (by decide +kernel)
        exact doesG_val (wanted_of rfl (yielded_of rfl e68)) (ex_move rfl e8) rfl rfl
      · intro a w' hF hB hd
        have e68 : a.eval (.tmp 68) = .bool true := hd 8 (by decide +kernel) (.inr (by decide))
        have e71 : a.eval (.tmp 71) = .int .i64 (m : Int) := hd 11 (by decide +kernel) (.inr (by decide))
        have e72 : a.eval (.tmp 72) = .int .i64 (n : Int) := hd 12 (by decide +kernel) (.inr (by decide))
        exact doesG_val (wanted_of rfl (yielded_of rfl e68)) (ex_binOp rfl e71 e72 (by go_simp) (by go_simp; exact wraps_i64' _ (by omega) (by omega))) rfl rfl
      · intro a w' hF hB hd
        have e68 : a.eval (.tmp 68) = .bool true := hd 8 (by decide +kernel) (.inr (by decide))
        have e70 : a.eval (.tmp 70) = .int .i64 ((m : Int) + (n : Int)) := hd 10 (by decide +kernel) (.inr (by decide))
        have e73 : a.eval (.tmp 73) = .int .i64 ((m : Int) + (n : Int)) := hd 13 (by decide +kernel) (.inr (by decide))
        exact doesG_val (wanted_of rfl (yielded_of rfl e68)) (ex_binOp rfl e70 e73 (by go_simp) (by go_simp)) rfl rfl
      · intro a w' hF hB hd
        have e68 : a.eval (.tmp 68) = .bool true := hd 8 (by decide +kernel) (.inr (by decide))
        have e74 : a.eval (.tmp 74) = .bool true := hd 14 (by decide +kernel) (.inr (by decide))
        exact doesG_val rfl (ex_pick rfl e68 (by simp [e74])) rfl rfl
      · intro a w' hF hB hd
        have e75 : a.eval (.tmp 75) = .bool true := hd 15 (by decide +kernel) (.inr (by decide))
        exact doesG_val rfl (ex_move rfl e75) rfl rfl
      · intro a w' hF hB hd
        have e76 : a.eval (.tmp 76) = .bool true := hd 16 (by decide +kernel) (.inr (by decide))
        have e11 : a.eval (.tmp 11) = .slice ay (m + n) cy := hF 11 (by decide +kernel)
        exact doesG_val (wanted_of rfl (yielded_of rfl e76)) (ex_move rfl e11) rfl rfl
      · intro a w' hF hB hd
        have e76 : a.eval (.tmp 76) = .bool true := hd 16 (by decide +kernel) (.inr (by decide))
        have e7 : a.eval (.tmp 7) = .int .i64 (m : Int) := hF 7 (by decide +kernel)
        exact doesG_val (wanted_of rfl (yielded_of rfl e76)) (ex_move rfl e7) rfl rfl
      · intro a w' hF hB hd
        have e76 : a.eval (.tmp 76) = .bool true := hd 16 (by decide +kernel) (.inr (by decide))
        have e77 : a.eval (.tmp 77) = .slice ay (m + n) cy := hd 17 (by decide +kernel) (.inr (by decide))
        have e78 : a.eval (.tmp 78) = .int .i64 (m : Int) := hd 18 (by decide +kernel) (.inr (by decide))
        have f78 : a.tmps[78]?.getD undef = .int .i64 (m : Int) := by rw [← Array.getD_eq_getD_getElem?]; exact e78
        have q2 : (m : Int) ≤ (m : Int) + (n : Int) := by omega
        have q3 : (m : Int) ≤ (cy : Int) := by have := HCY.out; omega
        exact doesG_val (wanted_of rfl (yielded_of rfl e76)) (v := .slice ay m cy) (by unfold execOp; simp only [e77]; go_simp) rfl rfl
      · intro a w' hF hB hd
        have e76 : a.eval (.tmp 76) = .bool true := hd 16 (by decide +kernel) (.inr (by decide))
        have e79 : a.eval (.tmp 79) = .slice ay m cy := hd 19 (by decide +kernel) (.inr (by decide))
        exact doesG_val (wanted_of rfl (yielded_of rfl e76)) (ex_convert rfl e79 ((RC3.out.below hB).str)) rfl rfl
      · intro a w' hF hB hd
        have e76 : a.eval (.tmp 76) = .bool true := hd 16 (by decide +kernel) (.inr (by decide))
        have e9 : a.eval (.tmp 9) = .slice ax m cx := hF 9 (by decide +kernel)
        exact doesG_val (wanted_of rfl (yielded_of rfl e76)) (ex_move rfl e9) rfl rfl
      · intro a w' hF hB hd
        have e76 : a.eval (.tmp 76) = .bool true := hd 16 (by decide +kernel) (.inr (by decide))
        have e81 : a.eval (.tmp 81) = .slice ax m cx := hd 21 (by decide +kernel) (.inr (by decide))
        exact doesG_val (wanted_of rfl (yielded_of rfl e76)) (ex_convert rfl e81 ((RX3.out.below hB).str)) rfl rfl
      · intro a w' hF hB hd
        have e76 : a.eval (.tmp 76) = .bool true := hd 16 (by decide +kernel) (.inr (by decide))
        have e80 : a.eval (.tmp 80) = .string (bstr X) := hd 20 (by decide +kernel) (.inr (by decide))
        have e82 : a.eval (.tmp 82) = .string (bstr X) := hd 22 (by decide +kernel) (.inr (by decide))
        exact doesG_val (wanted_of rfl (yielded_of rfl e76)) (ex_binOp rfl e80 e82 (by go_simp) (by go_simp)) rfl rfl
      · intro a w' hF hB hd
        have e76 : a.eval (.tmp 76) = .bool true := hd 16 (by decide +kernel) (.inr (by decide))
        have e83 : a.eval (.tmp 83) = .bool true := hd 23 (by decide +kernel) (.inr (by decide))
        exact doesG_val rfl (ex_pick rfl e76 (by simp [e83])) rfl rfl
      · intro a w' hF hB hd
        have e84 : a.eval (.tmp 84) = .bool true := hd 24 (by decide +kernel) (.inr (by decide))
        exact doesG_val rfl (ex_move rfl e84) rfl rfl
      · intro a w' hF hB hd
        have e85 : a.eval (.tmp 85) = .bool true := hd 25 (by decide +kernel) (.inr (by decide))
        exact doesG_call (wanted_of rfl (yielded_of rfl e85)) (ex_call (vs := #[]) rfl (by simp) (by go_simp)) rfl ((kawake_any w' (HT3.out.below hB)).mono fun e w2 hh => ⟨_, hh.1, rfl, hh.2⟩)
      · intro a w' hF hB hd
        have e85 : a.eval (.tmp 85) = .bool true := hd 25 (by decide +kernel) (.inr (by decide))
        have e86 : a.eval (.tmp 86) = .bool true := hd 26 (by decide +kernel) (.inr (by decide))
        exact doesG_val rfl (ex_pick rfl e85 (by simp [e86])) rfl rfl
      · intro a w' hF hB hd
        have e87 : a.eval (.tmp 87) = .bool true := hd 27 (by decide +kernel) (.inr (by decide))
        exact doesG_val rfl (ex_assign rfl e87) rfl rfl
    · intro vs w4 hb hv hap
      have e2 : vs 28 = .bool true := hv 28 (by decide) (by decide)
      simp only [List.take_succ_cons, List.take_zero, List.drop_succ_cons, List.drop_zero, putOps, Act.put, List.setIfInBounds_toArray, List.set_cons_zero, List.set_cons_succ, e2]
      have HB := Lib.hid (B3.out.on hb)
      clear hv hap e2 hb
      go_wp2_with fail
      go_ret
      exact ⟨rfl, HB.out⟩
set_option maxRecDepth 100000 in
theorem reads (os : Os) {H : Type} (enc : TypeId × Value → H) : ∃ places, DataW.whole enc Tryd.prog ((World.doorLaid Tryd.prog 400 os).forCall (fun _ _ => 0) ⟨#[], #[.slice none 0 0, .slice none 0 0, .agg (rowI .u16 (List.replicate 2 0)).toArray], []⟩).memory Tryd.f5.params.toList Rows.kdfBeginsSpec.vars false (#[.slice none 0 0, .slice none 0 0, .agg (rowI .u16 (List.replicate 2 0)).toArray] : Array Value).toList 8 = some ([.nil, .nil, litI .u16 (List.replicate 2 0)], [], places) :=
  ⟨[], by kernel_rfl⟩
set_option linter.unusedVariables false in
set_option maxHeartbeats 1000000 in
set_option maxRecDepth 100000 in
theorem lifted (os : Os) (started : os.Started) (H : Type) (enc : TypeId × Value → H) (F : Stop.Interp) :
    ReturnsInHanded {} Tryd.checked os 5 .any ((OpenSpec.ofChange Rows.kdfBeginsSpec).preRow enc Tryd.prog Tryd.f5 Rows.kdfBeginsRow.domain false laidP) (((OpenSpec.ofChange Rows.kdfBeginsSpec).at F).post enc Tryd.prog Tryd.f5 false true false false) := by
  obtain ⟨places, hx⟩ := reads os enc
  refine returnsInHanded_of_row (C := Tryd.checked) (s := OpenSpec.ofChange Rows.kdfBeginsSpec) own started (by kernel_rfl) Tryd.func5
    (witness_row_atRef (enc := enc) (C := Tryd.checked) false (World.doorLaid Tryd.prog 400 os) #[.slice none 0 0, .slice none 0 0, .agg (rowI .u16 (List.replicate 2 0)).toArray] rfl (by kernel_rfl) (by kernel_rfl) (by kernel_rfl)
      (OpenSpec.preRow_of_cond 8 hx (by kernel_rfl) (fun k hk => by cases hk) (by kernel_rfl) (doorP_met os _))) ?_
  intro W base args ds gs before hval0 hW _ hcond hsz0 hL _ _
  have hsz : (DataW.weightsEach Tryd.prog (Tryd.f5.params.toList ++ Rows.kdfBeginsSpec.plain.varTypes Tryd.prog) (ds ++ gs)).all (· ≤ reachBytes) = true := hsz0
  clear hsz0
  have hval : ∀ (j : Nat) t v, Tryd.f5.params[j]? = some t → args[j]? = some v → Value.okWide Tryd.prog W .any base t v := hval0
  have hW' := hW
  obtain ⟨p, q, hA0, hV, rfl, _, _⟩ := hW
  have hA : DataW.TrodAll enc Tryd.prog W 0 (fun _ => true) true Tryd.f5.params.toList args.toList ds p := hA0
  rw [Tryd.params5] at hA hval hsz
  obtain ⟨v0, vs0, d0, ds0, p0, q0, hargs, rfl, rfl, g0, r0⟩ := trodAll_cons hA
  obtain ⟨v1, vs1, d1, ds1, p1, q1, rfl, rfl, rfl, g1, r1⟩ := trodAll_cons r0
  obtain ⟨v2, vs2, d2, ds2, p2, q2, rfl, rfl, rfl, g2, r2⟩ := trodAll_cons r1
  obtain ⟨rfl, rfl, rfl⟩ := trodAll_nil r2
  obtain rfl : args = #[v0, v1, v2] := by cases args; simp_all
  obtain ⟨rfl, rfl⟩ := trodVars_none hV
  obtain ⟨l0, h0⟩ := open_bytes (hval 0 22 v0 rfl rfl) g0 (fun elems spare e => sized_slice hsz (j := 0) (t := 22) (e := 5) rfl (by rw [← e]; rfl) Tryd.underlying22)
  obtain ⟨l1, h1⟩ := open_bytes (hval 1 22 v1 rfl rfl) g1 (fun elems spare e => sized_slice hsz (j := 1) (t := 22) (e := 5) rfl (by rw [← e]; rfl) Tryd.underlying22)
  obtain ⟨l2, h2, rfl, rfl, rfl⟩ := open_arr Tryd.underlying37 Tryd.underlying36 cells36 (hval 2 37 v2 rfl rfl) cells37 g2
  clear hA0 hval0
  have hlt := hW'.lt
  refine (walk W (tabP_of_laid hL) v0 l0 h0 v1 l1 h1 l2 h2).mono fun e W' ⟨he, hb⟩ => ?_
  subst he
  have hargs : DataW.TrodAll enc Tryd.prog W' 0 (fun b => decide (b < W.heap.size)) true _ _ _ _ := (trodAll_cons_mk (Below.trod laidOut (by kernel_rfl) (of_decide_eq_true (by kernel_rfl)) g0 hb (fun x hx => hlt x (by simp [hx]))) (trodAll_cons_mk (Below.trod laidOut (by kernel_rfl) (of_decide_eq_true (by kernel_rfl)) g1 hb (fun x hx => hlt x (by simp [hx]))) (trodAll_cons_mk (shut_arr Tryd.underlying37 Tryd.underlying36 cells36 cells37 h2) trodAll_mk0)))
  simp only [List.append_nil] at hW' hargs
  exact ⟨_, rfl, post_law hW' (trodAll_cons_mk (shut_bool Tryd.underlying4 _) trodAll_mk0) hargs rfl hb⟩

theorem over : Rows.kdfBeginsRow.holds Tryd.pinned (OpenSpec.ofChange Rows.kdfBeginsSpec) :=
  OpenClaim.holds_of_cond 5 Tryd.f5 rfl rfl rfl rfl rfl rfl rfl ⟨rfl, rfl, rfl, rfl, rfl⟩ rfl rfl rfl rfl rfl (by kernel_rfl) Tryd.func5 (by kernel_rfl)
    (of_decide_eq_true (by kernel_rfl)) (by unfold Func.isWrapper; first | (rw [if_pos (by decide +kernel)]; kernel_rfl) | (rw [if_neg (by decide +kernel)]; exact ⟨rfl, rfl⟩))
    (fun os started H enc _ F => by rw [OpenClaim.pre_eq_preRow]; exact lifted os started H enc F)

/-- The given statement. -/
theorem proved : Rows.KdfBeginsCardSaid :=
  Claim7.holds_tied_plain_at .later [] _ _ _ _
    over (fun _ h => by cases h) (by kernel_rfl) (fun _ h => by cases h) kdfBegins_row_tie rfl ⟨rfl, rfl⟩ (by kernel_rfl) rfl
    (fun f fn hf hfn => by
      obtain rfl : f = 5 := Option.some.inj ((show Tryd.prog.funcNamed "reliquary/reliquarylaw05.KdfBegins" = some 5 by kernel_rfl).symm.trans hf) |>.symm
      obtain rfl : fn = Tryd.f5 := (Option.some.inj (Tryd.func5.symm.trans hfn)).symm
      exact ⟨by kernel_rfl, fun j t ht => by
        rw [Tryd.params5] at ht
        have hm : t ∈ [22, 22, 37] := by simpa using Array.mem_of_getElem? ht
        have hall : ([22, 22, 37].all fun u => !Tryd.prog.wantsStandIn u) = true := by kernel_rfl
        exact (show Tryd.prog.wantsStandIn t = false by simpa using List.all_eq_true.1 hall t hm)⟩)
    (by kernel_rfl)
end Go.Proofs.YteklchmbeiclcaaDoor.kdfBegins

/- Texts of 16 subjects in one file: SuPut, SuSum, ShaFast, SpSums, SpNew, SpQH, SpTame, SpKnown, SpLA, SpLB, SpTu, LaidX, DoorWrap, DoorSpace, Reads, OkLong. Own work. -/
import Derived.Test.YtjalknpeecgllaaGreatDoorMt12
import Derived.Test.YtjalknpeecgllaaGreatDoorMt10
import Derived.Test.YtjalknpeecgllaaGreatDoorMt2
import Derived.Test.YtjalknpeecgllaaGreatDoorMt7
import Derived.Test.YtjalknpeecgllaaGreatDoorMt1
import Derived.Test.YtjalknpeecgllaaGreatDoorMt5
import Derived.Test.YtjalknpeecgllaaGreatDoorMt6
import Derived.Great.BuildSlice
import Derived.Test.YtjalknpeecgllaaGreatDoorMt11
import Derived.Test.YtjalknpeecgllaaGreatDoorMt9
import Derived.Test.YtjalknpeecgllaaGreatDoorMt0
import Derived.Test.YtjalknpeecgllaaGreatDoorRows
import Derived.LaidLaws
import Derived.LaidHandle
import Derived.Lay
import Derived.Test.YtjalknpeecgllaaGreatDoorMt4
import Derived.ProofKit
import Derived.LaidMore
import Derived.OpenShut
import Derived.Stop.Joined
import Derived.Lib.LaidTab
import Derived.LaidSub
import Derived.ChangeFn
import Derived.WideWitness
section
namespace Go.Proofs.YtjalknpeecgllaaGreatDoor
open Go.ChangeShapes Go.WideShapes Go.ChangeAt Go.RowKit
open SU
set_option maxHeartbeats 400000 in
theorem suput_no (C P : Int) (h : may C P = false) (w : World) : Calls Tryz.prog 77 #[.agg #[.int .i64 C, .int .i64 P]] w fun e w' => e = .returned (.tuple #[.slice none 0 0, .int .i64 2]) /\ Below w.heap.size w w' := by
  have X1 := Lib.hid (Blk.new w 33 [.int .i64 C, .int .i64 P] _ rfl)
  have W1 := Lib.hid ((Below.refl w.heap.size w).alloc (Nat.le_refl _) (.cells [Value.int .i64 C, .int .i64 P].toArray 33))
  have HM := Lib.hid (fun W => sumay_any C P W)
  rw [h] at HM
  clear h
  go_enter Tryz.func77, Tryz.ntmps77
  go_wp2_with (first
    | (refine wpList_load_mid rfl 33 (.tmp 1) rfl w.heap.size 0 rfl [.int .i64 C, .int .i64 P] _ X1.out.range Tryz.underlying33 rfl infoGeo ?_)
    | (go_at_call 109; (with_reducible refine (HM.out _).mono ?_); rintro e w2 ⟨rfl, b2⟩; have W2 := Lib.hid (W1.out.on b2); clear b2))
  go_ret2
  exact ⟨rfl, W2.out⟩
set_option maxRecDepth 100000 in
set_option maxHeartbeats 1000000 in
theorem suput_ok (c p : Nat) (h : 1 <= c /\ c <= 64 /\ 1 <= p /\ p <= 2) (w : World) : Calls Tryz.prog 77 #[.agg #[.int .i64 (c : Int), .int .i64 (p : Int)]] w fun e w' => ∃ v, e = .returned (.tuple #[v, .int .i64 0]) /\ Own w' w.heap.size v (laid c p) /\ Below w.heap.size w w' := by
  have X1 := Lib.hid (Blk.new w 33 [.int .i64 (c : Int), .int .i64 (p : Int)] _ rfl)
  have W1 := Lib.hid ((Below.refl w.heap.size w).alloc (Nat.le_refl _) (.cells [Value.int .i64 (c : Int), .int .i64 (p : Int)].toArray 33))
  have HM := Lib.hid (fun W => sumay_any c p W)
  rw [may_iff.2 (by omega)] at HM
  have ac : IntKind.u16.wrap (c : Int) = (c : Int) := by rw [IntKind.wrap_u16]; omega
  have ap : IntKind.u8.wrap (p : Int) = (p : Int) := by rw [IntKind.wrap_u8]; omega
  have HPT := Lib.hid (fun W => put16_any c (by omega) W)
  have HCC := Lib.hid (fun W v (hv : Rds W v [head9, [1], be c 2, [p]]) => concat_any [head9, [1], be c 2, [p]] (by rw [raw_flat, raw_len]; decide) v W hv)
  have HPD := Lib.hid (fun W v (hv : Rd W v (raw c p)) => (show Calls Tryz.prog 94 #[v, .int .i64 512] W fun e w' => e = .returned (.tuple #[.slice (some ⟨W.heap.size, 0, none⟩) 512 512, .int .i64 0]) /\ Own w' W.heap.size (.slice (some ⟨W.heap.size, 0, none⟩) 512 512) (laid c p) /\ Below W.heap.size W w' from pad_ok W v (raw c p) 512 hv (by decide) (by rw [raw_len]; decide)))
  have P256 := Lib.hid (show p < 256 by omega)
  clear h
  go_enter Tryz.func77, Tryz.ntmps77
  go_upto_region 3 with (first
    | (refine wpList_load_mid rfl 33 (.tmp 1) rfl w.heap.size 0 rfl [.int .i64 (c : Int), .int .i64 (p : Int)] _ X1.out.range Tryz.underlying33 rfl infoGeo ?_)
    | (go_at_call 109; (with_reducible refine (HM.out _).mono ?_); rintro e w2 ⟨rfl, b2⟩; have W2 := Lib.hid (W1.out.on b2); have X2 := Lib.hid (X1.out.below b2 X1.out.lt); clear b2))
  refine wp_region_c (by kernel_rfl) 12 (by decide) (by kernel_rfl) (by kernel_rfl) (by kernel_rfl) w2.heap.size rfl [.lit head9, .rd head9, .rd [1], .val (.pointer (some ⟨w.heap.size, 0, none⟩)), .val (.int .i64 (c : Int)), .val (.int .u16 (c : Int)), .rd (be c 2), .val (.pointer (some ⟨w.heap.size, 1, none⟩)), .val (.int .i64 (p : Int)), .val (.int .u8 (p : Int)), .rd [p], .rds [head9, [1], be c 2, [p]]] ?_ ?_
  . refine ⟨?_, ?_, ?_, ?_, ?_, ?_, ?_, ?_, ?_, ?_, ?_, ?_, trivial⟩
    . intro a w' hF hB hd
      refine doesC_wp hB.below.size rfl fun K hK => ?_
      unfold Oper.wp execOp
      go_simp
      exact hK _ _ ⟨_, rfl, hB.below.size, (own_new w' head9 (small_bytes (by decide)) (by decide) rfl (Nat.le_refl _)).rd, by simp⟩ ((Below.refl _ _).alloc (Nat.le_refl _) _)
    . intro a w' hF hB hd
      exact doesC_mark rfl (.tmp 8) rfl head9 (hd 0 (by decide +kernel))
    . intro a w' hF hB hd
      refine doesC_wp hB.below.size rfl fun K hK => ?_
      unfold Oper.wp execOp
      go_simp
      exact hK _ _ (own_new w' [1] (small_bytes (by decide)) (by decide) rfl (Nat.le_refl _)).rd ((Below.refl _ _).alloc (Nat.le_refl _) _)
    . intro a w' hF hB hd
      have e1 : a.eval (.tmp 1) = .pointer (some ⟨w.heap.size, 0, none⟩) := hF 1 (by decide +kernel)
      exact doesC_val rfl (v := .pointer (some ⟨w.heap.size, 0, none⟩)) (by unfold execOp; simp only [e1]; go_simp) rfl
    . intro a w' hF hB hd
      have e11 : a.eval (.tmp 11) = .pointer (some ⟨w.heap.size, 0, none⟩) := hd 3 (by decide +kernel)
      have c0 := (X2.out.below hB.below X2.out.lt).cell 0 _ rfl
      exact doesC_val rfl (v := .int .i64 (c : Int)) (by unfold execOp; simp only [e11]; go_simp) rfl
    . intro a w' hF hB hd
      have e12 : a.eval (.tmp 12) = .int .i64 (c : Int) := hd 4 (by decide +kernel)
      exact doesC_val rfl (ex_convert rfl e12 (by go_simp)) rfl
    . intro a w' hF hB hd
      have e13 : a.eval (.tmp 13) = .int .u16 (c : Int) := hd 5 (by decide +kernel)
      exact doesC_call hB.below.size rfl (ex_call (vs := #[.int .u16 (c : Int)]) rfl (by simp only [List.map_toArray, List.map_cons, List.map_nil, e13]) (by go_simp)) ((HPT.out w').mono fun e w3 hh => by
        obtain ⟨v, rfl, ho, hb⟩ := hh
        exact ⟨v, rfl, ho.rd, hb⟩)
    . intro a w' hF hB hd
      have e1 : a.eval (.tmp 1) = .pointer (some ⟨w.heap.size, 0, none⟩) := hF 1 (by decide +kernel)
      exact doesC_val rfl (v := .pointer (some ⟨w.heap.size, 1, none⟩)) (by unfold execOp; simp only [e1]; go_simp) rfl
    . intro a w' hF hB hd
      have e15 : a.eval (.tmp 15) = .pointer (some ⟨w.heap.size, 1, none⟩) := hd 7 (by decide +kernel)
      have c1 := (X2.out.below hB.below X2.out.lt).cell 1 _ rfl
      exact doesC_val rfl (v := .int .i64 (p : Int)) (by unfold execOp; simp only [e15]; go_simp) rfl
    . intro a w' hF hB hd
      have e16 : a.eval (.tmp 16) = .int .i64 (p : Int) := hd 8 (by decide +kernel)
      exact doesC_val rfl (ex_convert rfl e16 (by go_simp)) rfl
    . intro a w' hF hB hd
      have e17 : a.eval (.tmp 17) = .int .u8 (p : Int) := hd 9 (by decide +kernel)
      have f17 : a.tmps[17]?.getD undef = .int .u8 (p : Int) := by rw [<- Array.getD_eq_getD_getElem?]; exact e17
      refine doesC_wp hB.below.size rfl fun K hK => ?_
      unfold Oper.wp execOp
      go_simp
      exact hK _ _ (own_new w' [p] (fun k => by cases k with | zero => exact P256.out | succ k => exact Nat.zero_lt_succ _) (by simp) rfl (Nat.le_refl _)).rd ((Below.refl _ _).alloc (Nat.le_refl _) _)
    . intro a w' hF hB hd
      have e9 : Rd w' (a.eval (.tmp 9)) head9 := hd 1 (by decide +kernel)
      have e10 : Rd w' (a.eval (.tmp 10)) [1] := hd 2 (by decide +kernel)
      have e14 : Rd w' (a.eval (.tmp 14)) (be c 2) := hd 6 (by decide +kernel)
      have e18 : Rd w' (a.eval (.tmp 18)) [p] := hd 10 (by decide +kernel)
      obtain ⟨a9, c9, q9, _⟩ := e9.shape
      obtain ⟨a10, c10, q10, _⟩ := e10.shape
      obtain ⟨a14, c14, q14, _⟩ := e14.shape
      obtain ⟨a18, c18, q18, _⟩ := e18.shape
      rw [q9] at e9
      rw [q10] at e10
      rw [q14] at e14
      rw [q18] at e18
      rw [be_len] at q14 e14
      have f9 : a.tmps[9]?.getD undef = .slice a9 9 c9 := by rw [<- Array.getD_eq_getD_getElem?]; exact q9
      have f10 : a.tmps[10]?.getD undef = .slice a10 1 c10 := by rw [<- Array.getD_eq_getD_getElem?]; exact q10
      have f14 : a.tmps[14]?.getD undef = .slice a14 2 c14 := by rw [<- Array.getD_eq_getD_getElem?]; exact q14
      have f18 : a.tmps[18]?.getD undef = .slice a18 1 c18 := by rw [<- Array.getD_eq_getD_getElem?]; exact q18
      have R := Lib.hid (rds_four e9 e10 e14 e18 rfl)
      clear q9 q10 q14 q18 e9 e10 e14 e18 hd
      refine doesC_wp hB.below.size rfl fun K hK => ?_
      unfold Oper.wp execOp
      go_simp
      exact hK _ _ R.out ((Below.refl _ _).alloc (Nat.le_refl _) _)
  . intro vs w3 hB hv
    have e19 : Rds w3 (vs 11) [head9, [1], be c 2, [p]] := hv 11 (by decide)
    have E := Lib.hid e19
    have W3 := Lib.hid (W2.out.trans (hB.below.mono W2.out.size))
    obtain ⟨a19, c19, q19', _⟩ := e19.shape
    have q19 : vs 11 = .slice a19 4 c19 := q19'
    clear hv hB e19 q19'
    rw [q19] at E
    simp only [List.take_succ_cons, List.take_zero, List.drop_succ_cons, List.drop_zero, putOps, Act.put, List.setIfInBounds_toArray, List.set_cons_zero, List.set_cons_succ, q19]
    clear q19
    generalize vs 0 = y0
    generalize vs 1 = y1
    generalize vs 2 = y2
    generalize vs 3 = y3
    generalize vs 4 = y4
    generalize vs 5 = y5
    generalize vs 6 = y6
    generalize vs 7 = y7
    generalize vs 8 = y8
    generalize vs 9 = y9
    generalize vs 10 = y10
    have HC3 := Lib.hid (HCC.out w3 _ E.out)
    go_wp2_with (first
      | (go_at_call 110; (with_reducible refine HC3.out.mono ?_); rintro e w4 ⟨v4, rfl, o4, b4⟩; rw [raw_flat] at o4; have W4 := Lib.hid (W3.out.on b4); have HP4 := Lib.hid (HPD.out w4 v4 o4.rd); obtain ⟨a4, c4, rfl, _⟩ := o4.rd.shape; rw [raw_len] at HP4 ⊢; clear o4 b4)
      | (go_at_call 94; (with_reducible refine HP4.out.mono ?_); rintro e w5 ⟨rfl, o5, b5⟩; have W5 := Lib.hid (W4.out.on b5); have O5 := Lib.hid (o5.lower W4.out.size); clear o5 b5))
    go_ret2
    exact ⟨_, rfl, O5.out, W5.out⟩
theorem suput_any (C P : Int) (w : World) : Calls Tryz.prog 77 #[.agg #[.int .i64 C, .int .i64 P]] w fun e w' => ∃ v, e = .returned (.tuple #[v, .int .i64 (perr C P)]) /\ Own w' w.heap.size v (put C P) /\ Below w.heap.size w w' := by
  cases hm : may C P with
  | true =>
    obtain ⟨c, p, rfl, rfl, h⟩ := may_nat hm
    rw [(put_yes hm).1, (put_yes hm).2]
    exact suput_ok c p h w
  | false =>
    rw [(put_no hm).1, (put_no hm).2]
    exact (suput_no C P hm w).mono fun e w' hh => ⟨_, hh.1, (own_nil w').lower hh.2.size, hh.2⟩
end Go.Proofs.YtjalknpeecgllaaGreatDoor
end

section
namespace Go.Proofs.YtjalknpeecgllaaGreatDoor
open Go.ChangeShapes Go.WideShapes Go.ChangeAt Go.RowKit
open SM SU
def SU.sum (C P : Int) : List Nat := if may C P = true then sha (laid C.toNat P.toNat) else List.replicate 32 0
theorem zeroSu (w : World) : (zeroValue 47).run Tryz.prog w = .ok (.agg (row8 (List.replicate 32 0)).toArray) w := by kernel_rfl
theorem builtSu : Tryz.prog.built 47 [] = some (row8 (List.replicate 32 0)).toArray := by kernel_rfl
set_option maxRecDepth 100000 in
set_option maxHeartbeats 1000000 in
theorem susum_any (C P : Int) (w : World) (ht : TabP w) : Calls Tryz.prog 38 #[.agg #[.int .i64 C, .int .i64 P]] w fun e w' => e = .returned (.agg (row8 (sum C P)).toArray) /\ Below w.heap.size w w' := by
  obtain ⟨D0, hD0⟩ : ∃ D, D = row8 (List.replicate 32 0) := ⟨_, rfl⟩
  have hz : ∀ w, (zeroValue 47).run Tryz.prog w = .ok (.agg D0.toArray) w := by rw [hD0]; exact zeroSu
  have hbu : Tryz.prog.built 47 [] = some D0.toArray := by rw [hD0]; exact builtSu
  have hd0 : D0.length = 32 := by rw [hD0, row8_len, List.length_replicate]
  have HD := Lib.hid hD0
  have W1 := Lib.hid ((Below.refl w.heap.size w).alloc (Nat.le_refl _) (.cells [Value.int .i64 C, .int .i64 P].toArray 33))
  have W2 := Lib.hid (W1.out.alloc W1.out.size (.cells D0.toArray 47))
  have T2 := Lib.hid ((Blk.new w 33 [.int .i64 C, .int .i64 P] _ rfl).alloc (.cells D0.toArray 47))
  have R2 := Lib.hid (Blk.new (w.alloc (.cells [Value.int .i64 C, .int .i64 P].toArray 33)) 47 D0 (w.heap.size + 1) (by simp))
  have HP := Lib.hid (fun W => suput_any C P W)
  have HTP := Lib.hid ht
  clear hD0 ht
  cases hm : may C P with
  | true =>
    obtain ⟨c, p, rfl, rfl, h⟩ := may_nat hm
    obtain ⟨M, hM⟩ : ∃ M, M = sha (laid c p) := ⟨_, rfl⟩
    rw [show sum c p = M by rw [hM]; unfold sum; rw [hm]; rfl]
    have M32 := Lib.hid (show (row8 M).length = 32 by rw [row8_len, hM]; exact (sha_bytes _).1)
    have HPL := Lib.hid (show (laid c p).length <= 1152921504606846976 by rw [laid_len]; decide)
    have HM := Lib.hid hM
    rw [(put_yes hm).1, (put_yes hm).2] at HP
    
    
    clear hM hm h
    go_enter Tryz.func38, Tryz.ntmps38
    go_wp2_with (first
      | (refine wpList_load_mid rfl 33 (.tmp 1) rfl w.heap.size 0 rfl [.int .i64 (c : Int), .int .i64 (p : Int)] _ T2.out.range Tryz.underlying33 rfl infoGeo ?_)
      | (go_at_call 77; (with_reducible refine (HP.out _).mono ?_); rintro e w3 ⟨v, rfl, o3, b3⟩; obtain ⟨pa, pc, rfl, _⟩ := o3.rd.shape; rw [laid_len] at o3 ⊢; have W3 := Lib.hid (W2.out.on b3); have R3 := Lib.hid (R2.out.below b3 R2.out.lt); have HO := Lib.hid (of_one_at (w := w3) rfl o3.rd (HTP.out.below W3.out) HPL.out HM.out); clear o3 b3)
      | (go_at_call 54; (with_reducible refine HO.out.mono ?_); rintro e w4 ⟨rfl, b4⟩; have W4 := Lib.hid (W3.out.on b4); have R4 := Lib.hid (R3.out.below b4 R3.out.lt); clear b4)
      | (refine wpList_store_blk rfl 47 (.tmp 2) (.tmp 15) rfl (w.heap.size + 1) 0 (row8 M) rfl rfl 47 D0 R4.out (by rw [M32.out, hd0]; exact Nat.le_refl _) (by rw [M32.out]; exact infoS) (row8_one _) ?_; intro w5 b5 g5; rw [splice_all _ _ (by rw [M32.out, hd0])] at b5; have U5 := Lib.hid b5; have W5 := Lib.hid (W4.out.grown g5 W4.out.size (fun g hg => by have := Option.some.inj hg; omega)); clear b5 g5))
    exact bodyPost_ret (results_mid rfl _ _ (w.heap.size + 1) (row8 M) _ rfl U5.out.range Tryz.underlying47 rfl (by rw [M32.out]; exact infoS)) rfl ⟨rfl, W5.out⟩
  | false =>
    rw [show sum C P = List.replicate 32 0 by unfold sum; rw [hm]; rfl]
    rw [(put_no hm).1, (put_no hm).2] at HP
    clear hm
    rw [<- HD.out]
    go_enter Tryz.func38, Tryz.ntmps38
    go_wp2_with ((fail_if_success (with_reducible show bodyPost _ _ _ _ _ _)); first
      | (refine wpList_load_mid rfl 33 (.tmp 1) rfl w.heap.size 0 rfl [.int .i64 C, .int .i64 P] _ T2.out.range Tryz.underlying33 rfl infoGeo ?_)
      | (go_at_call 77; (with_reducible refine (HP.out _).mono ?_); rintro e w3 ⟨v, rfl, o3, b3⟩; obtain ⟨pa, pc, rfl, _⟩ := o3.rd.shape; have W3 := Lib.hid (W2.out.on b3); have R3 := Lib.hid (R2.out.below b3 R2.out.lt); clear o3 b3)
      | (refine wpList_buildTo rfl 47 _ rfl (some 12) rfl D0.toArray (Eq.trans (b := Tryz.prog.built 47 []) (by kernel_rfl) hbu) ?_)
      | (refine wpList_store_blk rfl 47 (.tmp 2) (.tmp 12) rfl (w.heap.size + 1) 0 D0 rfl rfl 47 D0 R3.out (by rw [hd0]; exact Nat.le_refl _) (by rw [hd0]; exact infoS) (by rw [HD.out]; exact row8_one _) ?_; intro w5 b5 g5; rw [splice_all _ _ (by rfl)] at b5; have U5 := Lib.hid b5; have W5 := Lib.hid (W3.out.grown g5 W3.out.size (fun g hg => by have := Option.some.inj hg; omega)); clear b5 g5))
    exact bodyPost_ret (results_mid rfl _ _ (w.heap.size + 1) D0 _ rfl U5.out.range Tryz.underlying47 rfl (by rw [hd0]; exact infoS)) rfl ⟨rfl, W5.out⟩
end Go.Proofs.YtjalknpeecgllaaGreatDoor
end

section
namespace Go.Proofs.YtjalknpeecgllaaGreatDoor
open SM
namespace FT
def seq {α : Type} (n : Nat) (k : Nat -> α) : α := Nat.rec (k 0) (fun m _ => k (Nat.succ m)) n
theorem seq_eq {α : Type} (n : Nat) (k : Nat -> α) : seq n k = k n := by cases n <;> rfl
def force : List Nat -> (List Nat -> List Nat) -> List Nat
  | [], k => k []
  | x :: l, k => seq x fun y => force l fun m => k (y :: m)
theorem force_eq : ∀ (l : List Nat) (k : List Nat -> List Nat), force l k = k l
  | [], _ => rfl
  | x :: l, k => by
    unfold force
    rw [seq_eq, force_eq l]
def ws : Nat -> List Nat -> List Nat
  | n + 1, [x0, x1, x2, x3, x4, x5, x6, x7, x8, x9, x10, x11, x12, x13, x14, x15] => seq ((s1 x14 + x9 + s0 x1 + x0) % 4294967296) fun y => x0 :: ws n [x1, x2, x3, x4, x5, x6, x7, x8, x9, x10, x11, x12, x13, x14, x15, y]
  | _, v => v
def xs : List Nat -> List Nat -> List Nat -> List Nat
  | w :: l, k :: m, [a, b, c, d, e, f, g, h] => seq ((h + S1 e + ch e f g + k + w) % 4294967296) fun t => seq ((t + (S0 a + mj a b c) % 4294967296) % 4294967296) fun a' => seq ((d + t) % 4294967296) fun e' => xs l m [a', a, b, c, e', e, f, g]
  | _, _, x => x
def w16 (b : List Nat) : List Nat := [be4 b 0, be4 b 4, be4 b 8, be4 b 12, be4 b 16, be4 b 20, be4 b 24, be4 b 28, be4 b 32, be4 b 36, be4 b 40, be4 b 44, be4 b 48, be4 b 52, be4 b 56, be4 b 60]
def add8 : List Nat -> List Nat -> List Nat
  | x :: l, y :: m => ((x + y) % 4294967296) :: add8 l m
  | _, _ => []
def fblk (h b : List Nat) : List Nat := force (w16 b) fun v => force (ws 48 v) fun w => force (add8 h (xs w kk h)) id
def fst : List Nat -> List Nat -> Nat -> List Nat
  | h, _, 0 => h
  | h, t, n + 1 => force (t.take 64) fun b => force (t.drop 64) fun r => force (fblk h b) fun g => fst g r n
def fsha (l : List Nat) : List Nat := force (text l) fun t => out (fst h0 t (t.length / 64))
theorem wTo_len (b : List Nat) : ∀ t, (wTo b t).length = 64
  | 0 => by unfold wTo; rw [List.length_replicate]
  | t + 1 => by unfold wTo; rw [List.length_set]; exact wTo_len b t
theorem wTo_keep (b : List Nat) (t k : Nat) (hk : k < t) : ∀ n, gb (wTo b (t + n)) k = gb (wTo b t) k
  | 0 => rfl
  | n + 1 => by
    rw [<- wTo_keep b t k hk n]
    show gb ((wTo b (t + n)).set (t + n) _) k = _
    by_cases h : t + n < (wTo b (t + n)).length
    . rw [gb_set _ _ _ _ h, if_neg (by omega)]
    . rw [List.set_eq_of_length_le (by omega)]
theorem w_at (b : List Nat) {t : Nat} (ht : t < 64) : gb (wTo b 64) t = if t < 16 then be4 b (4 * t) else wn (wTo b t) t := by
  have h := wTo_keep b (t + 1) t (by omega) (63 - t)
  rw [show t + 1 + (63 - t) = 64 by omega] at h
  rw [h]
  show gb ((wTo b t).set t _) t = _
  rw [gb_set _ _ _ _ (by rw [wTo_len]; omega), if_pos rfl]
theorem w_high (b : List Nat) {t : Nat} (ht : t + 16 < 64) : gb (wTo b 64) (t + 16) = (s1 (gb (wTo b 64) (t + 14)) + gb (wTo b 64) (t + 9) + s0 (gb (wTo b 64) (t + 1)) + gb (wTo b 64) t) % 4294967296 := by
  have keep : ∀ k, k < t + 16 -> gb (wTo b 64) k = gb (wTo b (t + 16)) k := fun k hk => by
    have h := wTo_keep b (t + 16) k hk (48 - t)
    rw [show t + 16 + (48 - t) = 64 by omega] at h
    exact h
  rw [w_at b ht, if_neg (by omega), keep (t + 14) (by omega), keep (t + 9) (by omega), keep (t + 1) (by omega), keep t (by omega)]
  unfold wn
  rw [show t + 16 - 2 = t + 14 by omega, show t + 16 - 7 = t + 9 by omega, show t + 16 - 15 = t + 1 by omega, show t + 16 - 16 = t by omega]
theorem ws_all (W : Nat -> Nat) (hW : ∀ t, t + 16 < 64 -> W (t + 16) = (s1 (W (t + 14)) + W (t + 9) + s0 (W (t + 1)) + W t) % 4294967296) : ∀ n t, t + n = 48 -> ws n ((List.range 16).map fun i => W (t + i)) = (List.range (n + 16)).map fun i => W (t + i)
  | 0, t, _ => by
    rw [Nat.zero_add]
    unfold ws
    rfl
  | n + 1, t, h => by
    have e : (List.range 16).map (fun i => W (t + i)) = [W (t + 0), W (t + 1), W (t + 2), W (t + 3), W (t + 4), W (t + 5), W (t + 6), W (t + 7), W (t + 8), W (t + 9), W (t + 10), W (t + 11), W (t + 12), W (t + 13), W (t + 14), W (t + 15)] := rfl
    rw [e]
    unfold ws
    rw [seq_eq, Nat.add_zero, <- hW t (by omega)]
    have q := ws_all W hW n (t + 1) (by omega)
    have e2 : (List.range 16).map (fun i => W (t + 1 + i)) = [W (t + 1), W (t + 2), W (t + 3), W (t + 4), W (t + 5), W (t + 6), W (t + 7), W (t + 8), W (t + 9), W (t + 10), W (t + 11), W (t + 12), W (t + 13), W (t + 14), W (t + 15), W (t + 16)] := by
      show [_, _, _, _, _, _, _, _, _, _, _, _, _, _, _, _] = _
      simp only [Nat.add_assoc]
    rw [e2] at q
    rw [q, show List.range (n + 1 + 16) = 0 :: (List.range (n + 16)).map Nat.succ by rw [show n + 1 + 16 = (n + 16) + 1 by omega]; exact List.range_succ_eq_map, List.map_cons, List.map_map, Nat.add_zero]
    refine congrArg (List.cons _) (List.map_congr_left fun i _ => ?_)
    show _ = W (t + (i + 1))
    rw [show t + 1 + i = t + (i + 1) by omega]
theorem list_gb (l : List Nat) (n : Nat) (h : l.length = n) : (List.range n).map (fun i => gb l i) = l := by
  refine List.ext_getElem? fun i => ?_
  rw [List.getElem?_map]
  by_cases hi : i < n
  . rw [List.getElem?_range hi, List.getElem?_eq_getElem (by omega)]
    show some (gb l i) = _
    unfold gb
    rw [List.getD_eq_getElem?_getD, List.getElem?_eq_getElem (by omega)]
    rfl
  . rw [List.getElem?_eq_none (by rw [List.length_range]; omega), List.getElem?_eq_none (by omega)]
    rfl
theorem ws_eq (b : List Nat) : ws 48 (w16 b) = wTo b 64 := by
  have h := ws_all (gb (wTo b 64)) (fun t ht => w_high b ht) 48 0 rfl
  have e : w16 b = (List.range 16).map fun i => gb (wTo b 64) (0 + i) := by
    have q : ∀ i, i < 16 -> gb (wTo b 64) (0 + i) = be4 b (4 * i) := fun i hi => by rw [Nat.zero_add, w_at b (by omega), if_pos hi]
    rw [show (List.range 16).map (fun i => gb (wTo b 64) (0 + i)) = (List.range 16).map fun i => be4 b (4 * i) from List.map_congr_left fun i hi => q i (List.mem_range.1 hi)]
    rfl
  rw [e, h]
  simp only [Nat.zero_add]
  exact list_gb _ 64 (wTo_len b 64)
theorem eight {l : List Nat} (h : l.length = 8) : ∃ a b c d e f g i, l = [a, b, c, d, e, f, g, i] := by
  match l, h with
  | [a, b, c, d, e, f, g, i], _ => exact ⟨a, b, c, d, e, f, g, i, rfl⟩
theorem xs_all {h : List Nat} (hh : Words 8 h) (w : List Nat) (hw : w.length = 64) : ∀ n t, t + n = 64 -> xs (w.drop t) (kk.drop t) (xTo h w t) = xTo h w 64
  | 0, t, e => by
    obtain rfl : t = 64 := by omega
    rw [List.drop_of_length_le (by omega), List.drop_of_length_le (by decide)]
    rfl
  | n + 1, t, e => by
    have q := xs_all hh w hw n (t + 1) (by omega)
    have hk : kk.length = 64 := by decide
    rw [List.drop_eq_getElem_cons (by omega : t < w.length), List.drop_eq_getElem_cons (by omega : t < kk.length)]
    have gw : w[t] = gb w t := by unfold gb; rw [List.getD_eq_getElem?_getD, List.getElem?_eq_getElem (by omega)]; rfl
    have gk : kk[t] = gb kk t := by unfold gb; rw [List.getD_eq_getElem?_getD, List.getElem?_eq_getElem (by omega)]; rfl
    rw [gw, gk]
    have hx : xTo h w (t + 1) = rnd (xTo h w t) (gb kk t) (gb w t) := rfl
    rw [hx] at q
    obtain ⟨a, b, c, d, e, f, g, i, hl⟩ := eight (xTo_w (w := w) hh t).1
    rw [hl] at q ⊢
    unfold xs
    rw [seq_eq, seq_eq, seq_eq]
    exact q
theorem add8_eq {h x : List Nat} (hh : h.length = 8) (hx : x.length = 8) : add8 h x = aTo h x 8 := by
  obtain ⟨a, b, c, d, e, f, g, i, rfl⟩ := eight hh
  obtain ⟨a', b', c', d', e', f', g', i', rfl⟩ := eight hx
  rfl
theorem fblk_eq {h : List Nat} (hh : Words 8 h) (b : List Nat) : fblk h b = blk h b := by
  unfold fblk blk
  rw [force_eq, force_eq, force_eq, ws_eq]
  have q := xs_all hh (wTo b 64) (wTo_len b 64) 64 0 rfl
  rw [List.drop_zero, List.drop_zero] at q
  rw [show xs (wTo b 64) kk h = xTo h (wTo b 64) 64 from q, add8_eq hh.1 (xTo_w hh 64).1]
  rfl
theorem stTo_w (t : List Nat) : ∀ n, Words 8 (stTo t n)
  | 0 => h0_w
  | n + 1 => blk_w (stTo_w t n)
theorem fst_all (t : List Nat) : ∀ n i, fst (stTo t i) (t.drop (64 * i)) n = stTo t (i + n)
  | 0, i => by unfold fst; rfl
  | n + 1, i => by
    unfold fst
    rw [force_eq, force_eq, force_eq, fblk_eq (stTo_w t i), List.drop_drop, show 64 * i + 64 = 64 * (i + 1) by omega]
    have q := fst_all t n (i + 1)
    rw [show i + (n + 1) = i + 1 + n by omega, <- q]
    rfl
theorem fsha_eq (l : List Nat) : fsha l = sha l := by
  unfold fsha sha
  rw [force_eq]
  have q := fst_all (text l) ((text l).length / 64) 0
  rw [Nat.mul_zero, List.drop_zero, Nat.zero_add] at q
  rw [<- q]
  rfl
end FT
end Go.Proofs.YtjalknpeecgllaaGreatDoor
end

section
namespace Go.Proofs.YtjalknpeecgllaaGreatDoor
open SM
def SU.some (n k p : Nat) : Bool := (List.range n).all fun c => (FT.fsha (SU.laid (c + k) p)).any (· != 0)
theorem SU.some_1_1 : SU.some 8 1 1 = true := by decide +kernel
theorem SU.some_9_1 : SU.some 8 9 1 = true := by decide +kernel
theorem SU.some_17_1 : SU.some 8 17 1 = true := by decide +kernel
theorem SU.some_25_1 : SU.some 8 25 1 = true := by decide +kernel
theorem SU.some_33_1 : SU.some 8 33 1 = true := by decide +kernel
theorem SU.some_41_1 : SU.some 8 41 1 = true := by decide +kernel
theorem SU.some_49_1 : SU.some 8 49 1 = true := by decide +kernel
theorem SU.some_57_1 : SU.some 8 57 1 = true := by decide +kernel
theorem SU.some_1_2 : SU.some 8 1 2 = true := by decide +kernel
theorem SU.some_9_2 : SU.some 8 9 2 = true := by decide +kernel
theorem SU.some_17_2 : SU.some 8 17 2 = true := by decide +kernel
theorem SU.some_25_2 : SU.some 8 25 2 = true := by decide +kernel
theorem SU.some_33_2 : SU.some 8 33 2 = true := by decide +kernel
theorem SU.some_41_2 : SU.some 8 41 2 = true := by decide +kernel
theorem SU.some_49_2 : SU.some 8 49 2 = true := by decide +kernel
theorem SU.some_57_2 : SU.some 8 57 2 = true := by decide +kernel
theorem SU.some_at {n k p c : Nat} (h : SU.some n k p = true) (h1 : k <= c) (h2 : c < k + n) : sha (SU.laid c p) ≠ List.replicate 32 0 := fun q => by
  have g := List.all_eq_true.1 h (c - k) (List.mem_range.2 (by omega))
  rw [show c - k + k = c by omega, FT.fsha_eq, q] at g
  revert g
  decide
theorem SU.some_any {c p : Nat} (hc : 1 <= c /\ c <= 64) (hp : 1 <= p /\ p <= 2) : sha (SU.laid c p) ≠ List.replicate 32 0 := by
  rcases (show p = 1 \/ p = 2 by omega) with rfl | rfl
  . rcases (show c < 9 \/ (9 <= c /\ c < 17) \/ (17 <= c /\ c < 25) \/ (25 <= c /\ c < 33) \/ (33 <= c /\ c < 41) \/ (41 <= c /\ c < 49) \/ (49 <= c /\ c < 57) \/ 57 <= c by omega) with h | h | h | h | h | h | h | h
    . exact SU.some_at SU.some_1_1 hc.1 h
    . exact SU.some_at SU.some_9_1 h.1 h.2
    . exact SU.some_at SU.some_17_1 h.1 h.2
    . exact SU.some_at SU.some_25_1 h.1 h.2
    . exact SU.some_at SU.some_33_1 h.1 h.2
    . exact SU.some_at SU.some_41_1 h.1 h.2
    . exact SU.some_at SU.some_49_1 h.1 h.2
    . exact SU.some_at SU.some_57_1 h (by omega)
  . rcases (show c < 9 \/ (9 <= c /\ c < 17) \/ (17 <= c /\ c < 25) \/ (25 <= c /\ c < 33) \/ (33 <= c /\ c < 41) \/ (41 <= c /\ c < 49) \/ (49 <= c /\ c < 57) \/ 57 <= c by omega) with h | h | h | h | h | h | h | h
    . exact SU.some_at SU.some_1_2 hc.1 h
    . exact SU.some_at SU.some_9_2 h.1 h.2
    . exact SU.some_at SU.some_17_2 h.1 h.2
    . exact SU.some_at SU.some_25_2 h.1 h.2
    . exact SU.some_at SU.some_33_2 h.1 h.2
    . exact SU.some_at SU.some_41_2 h.1 h.2
    . exact SU.some_at SU.some_49_2 h.1 h.2
    . exact SU.some_at SU.some_57_2 h (by omega)
theorem SU.sum_zero {C P : Int} : SU.sum C P = List.replicate 32 0 ↔ SU.may C P = false := by
  unfold SU.sum
  cases h : SU.may C P with
  | false => exact ⟨fun _ => rfl, fun _ => by rw [if_neg (by decide)]⟩
  | true =>
    rw [if_pos rfl]
    have hm := SU.may_iff.1 h
    exact ⟨fun q => absurd q (SU.some_any (by omega) (by omega)), fun q => by cases q⟩
end Go.Proofs.YtjalknpeecgllaaGreatDoor
end

section
namespace Go.Proofs.YtjalknpeecgllaaGreatDoor
open Go.ChangeShapes Go.WideShapes Go.ChangeAt Go.RowKit
open RT XM AM SM
def SP.fresh (cl per : Nat) (K : List Nat) : SP.Sp := ⟨cl, per, klabel K [100, 97, 116, 97, 32, 111, 110, 101], klabel K [100, 97, 116, 97, 32, 116, 119, 111], klabel K [116, 97, 103]⟩
theorem SP.fresh_ok {cl per : Nat} (hc : 1 <= cl /\ cl <= 64) (hp : 1 <= per /\ per <= 2) (K : List Nat) : SP.Ok (SP.fresh cl per K) := ⟨hc, hp, sha_bytes _, sha_bytes _, sha_bytes _⟩
end Go.Proofs.YtjalknpeecgllaaGreatDoor
end

section
namespace Go.Proofs.YtjalknpeecgllaaGreatDoor
open Go.ChangeShapes Go.WideShapes Go.ChangeAt Go.RowKit
open RT XM AM SM
theorem SU.sum_bytes (C P : Int) : Bytes 32 (SU.sum C P) := by
  unfold SU.sum
  split
  . exact sha_bytes _
  . exact bytes_zero 32
def sppz : List Value := .pointer none :: .int .i64 0 :: .int .i64 0 :: .pointer none :: row8 (List.replicate 32 0)
theorem sppz_len : sppz.length = 36 := rfl
theorem built_spp0 (a b c e : Value) : Tryz.prog.built 103 [(0, a), (1, b), (2, c), (3, e)] = Instr.fill (#[(0, 1), (1, 2), (3, 1), (4, 32)][·]?) sppz.toArray [(0, a), (1, b), (2, c), (3, e)] := by kernel_rfl
theorem built_spp (d x cl per : Nat) {T : List Nat} (hT : T.length = 32) : Tryz.prog.built 103 [(0, .pointer (some ⟨d, 0, none⟩)), (1, .agg [Value.int .i64 (cl : Int), .int .i64 (per : Int)].toArray), (2, .pointer (some ⟨x, 0, none⟩)), (3, .agg (row8 T).toArray)] = some (.pointer (some ⟨d, 0, none⟩) :: .int .i64 (cl : Int) :: .int .i64 (per : Int) :: .pointer (some ⟨x, 0, none⟩) :: row8 T).toArray := by
  have hT8 : (row8 T).length = 32 := by rw [row8_len, hT]
  have e1 : splice sppz 0 [Value.pointer (some ⟨d, 0, none⟩)] = .pointer (some ⟨d, 0, none⟩) :: .int .i64 0 :: .int .i64 0 :: .pointer none :: row8 (List.replicate 32 0) := rfl
  have e2 : splice (Value.pointer (some ⟨d, 0, none⟩) :: .int .i64 0 :: .int .i64 0 :: .pointer none :: row8 (List.replicate 32 0)) 1 [Value.int .i64 (cl : Int), .int .i64 (per : Int)] = .pointer (some ⟨d, 0, none⟩) :: .int .i64 (cl : Int) :: .int .i64 (per : Int) :: .pointer none :: row8 (List.replicate 32 0) := rfl
  have e3 : splice (Value.pointer (some ⟨d, 0, none⟩) :: .int .i64 (cl : Int) :: .int .i64 (per : Int) :: .pointer none :: row8 (List.replicate 32 0)) 3 [Value.pointer (some ⟨x, 0, none⟩)] = .pointer (some ⟨d, 0, none⟩) :: .int .i64 (cl : Int) :: .int .i64 (per : Int) :: .pointer (some ⟨x, 0, none⟩) :: row8 (List.replicate 32 0) := rfl
  have e4 : splice (Value.pointer (some ⟨d, 0, none⟩) :: .int .i64 (cl : Int) :: .int .i64 (per : Int) :: .pointer (some ⟨x, 0, none⟩) :: row8 (List.replicate 32 0)) 4 (row8 T) = .pointer (some ⟨d, 0, none⟩) :: .int .i64 (cl : Int) :: .int .i64 (per : Int) :: .pointer (some ⟨x, 0, none⟩) :: row8 T := by
    unfold splice
    rw [hT8]
    show _ :: _ :: _ :: _ :: (row8 T ++ []) = _
    rw [List.append_nil]
  rw [built_spp0, fill_step _ 0 0 1 rfl (.pointer (some ⟨d, 0, none⟩)) [.pointer (some ⟨d, 0, none⟩)] rfl rfl sppz (by rw [sppz_len]; decide), e1,
    fill_step _ 1 1 2 rfl (.agg [Value.int .i64 (cl : Int), .int .i64 (per : Int)].toArray) [.int .i64 (cl : Int), .int .i64 (per : Int)] rfl rfl _ (by exact (by decide : 3 <= 36)), e2,
    fill_step _ 2 3 1 rfl (.pointer (some ⟨x, 0, none⟩)) [.pointer (some ⟨x, 0, none⟩)] rfl rfl _ (by exact (by decide : 4 <= 36)), e3,
    fill_step _ 3 4 32 rfl (.agg (row8 T).toArray) (row8 T) rfl hT8 _ (by exact (by decide : 36 <= 36)), e4, fill_nil]
set_option maxRecDepth 100000 in
set_option maxHeartbeats 4000000 in
theorem spcnew_ok (d cl per : Nat) (hc : 1 <= cl /\ cl <= 64) (hp : 1 <= per /\ per <= 2) (K : List Nat) (hK : Bytes 32 K) (w : World) (tx : TabX w) (tp : TabP w) : Calls Tryz.prog 12 #[.pointer (some ⟨d, 0, none⟩), .agg #[.int .i64 (cl : Int), .int .i64 (per : Int)], .agg (row8 K).toArray] w fun e w' => ∃ s, e = .returned (.pointer (some ⟨s, 0, none⟩)) /\ Spa (fun k => w.heap.size <= k /\ k < w'.heap.size) w' s d (SP.fresh cl per K) /\ Below w.heap.size w w' := by
  have hmay : SU.may (cl : Int) (per : Int) = true := SU.may_iff.2 (by omega)
  have b1 : Bytes 32 (SP.fresh cl per K).one := sha_bytes _
  have b2 : Bytes 32 (SP.fresh cl per K).two := sha_bytes _
  have b3 : Bytes 32 (SP.fresh cl per K).tag := sha_bytes _
  have HL1 := Lib.hid (fun W (hW : Below w.heap.size w W) => (show Calls Tryz.prog 40 #[.agg (row8 K).toArray, .string { data := #[100, 97, 116, 97, 32, 111, 110, 101] }] W fun e w' => e = .returned (.agg (row8 (SP.fresh cl per K).one).toArray) /\ Below W.heap.size W w' from klabel_any K hK { data := #[100, 97, 116, 97, 32, 111, 110, 101] } (by decide) W (tp.below hW)))
  have HL2 := Lib.hid (fun W (hW : Below w.heap.size w W) => (show Calls Tryz.prog 40 #[.agg (row8 K).toArray, .string { data := #[100, 97, 116, 97, 32, 116, 119, 111] }] W fun e w' => e = .returned (.agg (row8 (SP.fresh cl per K).two).toArray) /\ Below W.heap.size W w' from klabel_any K hK { data := #[100, 97, 116, 97, 32, 116, 119, 111] } (by decide) W (tp.below hW)))
  have HL3 := Lib.hid (fun W (hW : Below w.heap.size w W) => (show Calls Tryz.prog 40 #[.agg (row8 K).toArray, .string { data := #[116, 97, 103] }] W fun e w' => e = .returned (.agg (row8 (SP.fresh cl per K).tag).toArray) /\ Below W.heap.size W w' from klabel_any K hK { data := #[116, 97, 103] } (by decide) W (tp.below hW)))
  have HXN := Lib.hid (fun W (hW : Below w.heap.size w W) => xt_newN (SP.fresh cl per K).one (SP.fresh cl per K).two b1 b2 W (tx.below hW))
  have HBU := Lib.hid (fun x => (show Tryz.prog.built 103 [(0, .pointer (some ⟨d, 0, none⟩)), (1, .agg [Value.int .i64 (cl : Int), .int .i64 (per : Int)].toArray), (2, .pointer (some ⟨x, 0, none⟩)), (3, .agg (row8 (SP.fresh cl per K).tag).toArray)] = some (spp d x (SP.fresh cl per K)).toArray from built_spp d x cl per b3.1))
  obtain ⟨GC, hGC⟩ : ∃ x, x = [Value.int .i64 ((cl : Int)), .int .i64 ((per : Int))] := ⟨_, rfl⟩
  rw [show (#[Value.int .i64 ((cl : Int)), .int .i64 ((per : Int))] : Array Value) = GC.toArray by rw [hGC]]
  have GC2 := Lib.hid (show GC.length = 2 by rw [hGC]; rfl)
  rw [<- hGC] at HBU
  have HSU := Lib.hid (fun W (hW : Below w.heap.size w W) => susum_any ((cl : Int)) ((per : Int)) W (tp.below hW))
  rw [show (#[Value.int .i64 ((cl : Int)), .int .i64 ((per : Int))] : Array Value) = GC.toArray by rw [hGC]] at HSU
  obtain ⟨D0, hD0⟩ : ∃ D, D = row8 (List.replicate 32 0) := ⟨_, rfl⟩
  have hbu : Tryz.prog.built 47 [] = some D0.toArray := by rw [hD0]; exact builtSu
  have HEQ := Lib.hid (fun W => run_eql_sum (SU.sum_bytes ((cl : Int)) ((per : Int))) (bytes_zero 32) W)
  rw [<- hD0, decide_eq_false (fun q => by rw [SU.sum_zero.1 q] at hmay; cases hmay)] at HEQ
  obtain ⟨SU0, hSU⟩ : ∃ x, x = row8 (SU.sum ((cl : Int)) ((per : Int))) := ⟨_, rfl⟩
  rw [<- hSU] at HEQ HSU
  have KC32 := Lib.hid (show (row8 K).length = 32 by rw [row8_len]; exact hK.1)
  obtain ⟨KC, hKC⟩ : ∃ x, x = row8 K := ⟨_, rfl⟩
  obtain ⟨L1, h1⟩ : ∃ x, x = row8 (SP.fresh cl per K).one := ⟨_, rfl⟩
  obtain ⟨L2, h2⟩ : ∃ x, x = row8 (SP.fresh cl per K).two := ⟨_, rfl⟩
  obtain ⟨L3, h3⟩ : ∃ x, x = row8 (SP.fresh cl per K).tag := ⟨_, rfl⟩
  rw [<- hKC] at HL1 HL2 HL3 KC32 ⊢
  rw [<- h1] at HL1 HXN
  rw [<- h2] at HL2 HXN
  rw [<- h3] at HL3 HBU
  obtain ⟨w1, hw1⟩ : ∃ x, x = (w.alloc (.cells GC.toArray 33)).alloc (.cells KC.toArray 23) := ⟨_, rfl⟩
  have W1 := Lib.hid (show Below w.heap.size w w1 by rw [hw1]; exact ((Below.refl w.heap.size w).alloc (Nat.le_refl _) (.cells GC.toArray 33)).alloc (by simp) _)
  have G1 := Lib.hid (show Blk w1 w.heap.size 33 GC by rw [hw1]; exact (Blk.new w 33 GC _ rfl).alloc _)
  have K1 := Lib.hid (show Blk w1 (w.heap.size + 1) 23 KC by rw [hw1]; exact Blk.new _ 23 KC (w.heap.size + 1) (by simp))
  clear hGC hD0 hSU hKC h1 h2 h3 b1 b2 b3 hmay hc hp hK tx tp
  go_enter Tryz.func12, Tryz.ntmps12
  go_upto_region 1 with fail
  rw [<- hw1]
  clear hw1
  go_upto_region 3 with (first
      | ((with_reducible show wpList _ _ _ (Oper.mk _ (.load _ (.tmp 4)) _ _ _ _ :: _) _ _); refine wpList_load_wanted rfl 33 (.tmp 4) rfl w.heap.size 0 rfl GC _ G1.out.range Tryz.underlying33 rfl (by rw [GC2.out]; exact infoGeoP) ?_)
      | (go_at_call 38; (with_reducible refine (HSU.out _ W1.out).mono ?_); rintro e w2 ⟨rfl, b2⟩; have W2 := Lib.hid (W1.out.on b2); have G2 := Lib.hid (G1.out.below b2 G1.out.lt); have K2 := Lib.hid (K1.out.below b2 K1.out.lt); clear b2)
      | ((with_reducible show wpList _ _ _ (Oper.mk (some 12) (.build _ _) _ _ _ _ :: _) _ _); refine wpList_wanted rfl (.agg D0.toArray) (ex_build0 rfl hbu) ?_)
      | ((with_reducible show wpList _ _ _ (Oper.mk (some 13) (.binOp _ _ _ _ _) _ _ _ _ :: _) _ _); refine wpList_wanted rfl (.bool false) (ex_binOp (x := .tmp 11) (y := .tmp 12) (b := .eql) (t := 47) rfl rfl rfl (run_eqGuard_agg _ _ _ _ _ _ _ eqTypeS) (HEQ.out _)) ?_))
  obtain ⟨w5, hw5⟩ : ∃ x, x = w2 := ⟨_, rfl⟩
  rw [<- hw5] at W2 G2 K2 ⊢
  clear W1 G1 K1 hw5
  refine wp_region_l (by kernel_rfl) 10 (by decide) (by kernel_rfl) (by kernel_rfl) (by kernel_rfl) [.val (.pointer (some ⟨d, 0, none⟩)), .val (.agg GC.toArray), .val (.agg KC.toArray), .val (.agg L1.toArray), .val (.agg KC.toArray), .val (.agg L2.toArray), ⟨fun v W => ∃ x c e, v = .pointer (some ⟨x, 0, none⟩) /\ (w.heap.size <= x /\ w.heap.size <= c /\ w.heap.size <= e) /\ Blk W x 133 [.pointer (some ⟨c, 0, none⟩), .pointer (some ⟨e, 0, none⟩)] /\ Cph W c (SP.fresh cl per K).one /\ Cph W e (SP.fresh cl per K).two, fun h k => by obtain ⟨x, c, e, h0, h1, h2, h3, h4⟩ := h; exact ⟨x, c, e, h0, h1, h2.below k h2.lt, h3.below k, h4.below k⟩⟩, .val (.agg KC.toArray), .val (.agg L3.toArray), ⟨fun v W => ∃ x c e, v = .agg (spp d x (SP.fresh cl per K)).toArray /\ (w.heap.size <= x /\ w.heap.size <= c /\ w.heap.size <= e) /\ Blk W x 133 [.pointer (some ⟨c, 0, none⟩), .pointer (some ⟨e, 0, none⟩)] /\ Cph W c (SP.fresh cl per K).one /\ Cph W e (SP.fresh cl per K).two, fun h k => by obtain ⟨x, c, e, h0, h1, h2, h3, h4⟩ := h; exact ⟨x, c, e, h0, h1, h2.below k h2.lt, h3.below k, h4.below k⟩⟩] ?_ ?_
  . refine ⟨?_, ?_, ?_, ?_, ?_, ?_, ?_, ?_, ?_, ?_, trivial⟩
    . intro a w' hF hB hd
      have e0 : a.eval (.tmp 0) = .pointer (some ⟨d, 0, none⟩) := hF 0 (by decide +kernel)
      exact doesL_val rfl (ex_move rfl e0) rfl
    . intro a w' hF hB hd
      have e4 : a.eval (.tmp 4) = .pointer (some ⟨w.heap.size, 0, none⟩) := hF 4 (by decide +kernel)
      exact doesL_val rfl (ex_load_part 33 (.tmp 4) rfl w.heap.size 0 e4 GC _ ((G2.out.below hB G2.out.lt).range) Tryz.underlying33 rfl (by rw [GC2.out]; exact infoGeoP)) rfl
    . intro a w' hF hB hd
      have e5 : a.eval (.tmp 5) = .pointer (some ⟨(w.heap.size + 1), 0, none⟩) := hF 5 (by decide +kernel)
      exact doesL_val rfl (ex_load_part 23 (.tmp 5) rfl (w.heap.size + 1) 0 e5 KC _ ((K2.out.below hB K2.out.lt).range) Tryz.underlying23 rfl (by rw [KC32.out]; exact infoKeyP)) rfl
    . intro a w' hF hB hd
      have e17 : a.eval (.tmp 17) = .agg KC.toArray := hd 2 (by decide +kernel)
      exact doesL_call rfl (ex_call (vs := #[.agg KC.toArray, .string { data := #[100, 97, 116, 97, 32, 111, 110, 101] }]) rfl (by simp only [List.map_toArray, List.map_cons, List.map_nil, e17]; rfl) (by go_simp)) ((HL1.out w' (W2.out.on hB)).mono fun e w3 hh => ⟨_, hh.1, rfl, hh.2⟩)
    . intro a w' hF hB hd
      have e5 : a.eval (.tmp 5) = .pointer (some ⟨(w.heap.size + 1), 0, none⟩) := hF 5 (by decide +kernel)
      exact doesL_val rfl (ex_load_part 23 (.tmp 5) rfl (w.heap.size + 1) 0 e5 KC _ ((K2.out.below hB K2.out.lt).range) Tryz.underlying23 rfl (by rw [KC32.out]; exact infoKeyP)) rfl
    . intro a w' hF hB hd
      have e19 : a.eval (.tmp 19) = .agg KC.toArray := hd 4 (by decide +kernel)
      exact doesL_call rfl (ex_call (vs := #[.agg KC.toArray, .string { data := #[100, 97, 116, 97, 32, 116, 119, 111] }]) rfl (by simp only [List.map_toArray, List.map_cons, List.map_nil, e19]; rfl) (by go_simp)) ((HL2.out w' (W2.out.on hB)).mono fun e w3 hh => ⟨_, hh.1, rfl, hh.2⟩)
    . intro a w' hF hB hd
      have e18 : a.eval (.tmp 18) = .agg L1.toArray := hd 3 (by decide +kernel)
      have e20 : a.eval (.tmp 20) = .agg L2.toArray := hd 5 (by decide +kernel)
      exact doesL_call rfl (ex_call (vs := #[.agg L1.toArray, .agg L2.toArray]) rfl (by simp only [List.map_toArray, List.map_cons, List.map_nil, e18, e20]) (by go_simp)) ((HXN.out w' (W2.out.on hB)).mono fun r w3 hh => by obtain ⟨x, c, e, h1, he, h2, h3, h4, hb⟩ := hh; have hs := (W2.out.on hB).size; exact ⟨_, he, ⟨x, c, e, rfl, ⟨by omega, by omega, by omega⟩, h2, h3, h4⟩, hb⟩)
    . intro a w' hF hB hd
      have e5 : a.eval (.tmp 5) = .pointer (some ⟨(w.heap.size + 1), 0, none⟩) := hF 5 (by decide +kernel)
      exact doesL_val rfl (ex_load_part 23 (.tmp 5) rfl (w.heap.size + 1) 0 e5 KC _ ((K2.out.below hB K2.out.lt).range) Tryz.underlying23 rfl (by rw [KC32.out]; exact infoKeyP)) rfl
    . intro a w' hF hB hd
      have e22 : a.eval (.tmp 22) = .agg KC.toArray := hd 7 (by decide +kernel)
      exact doesL_call rfl (ex_call (vs := #[.agg KC.toArray, .string { data := #[116, 97, 103] }]) rfl (by simp only [List.map_toArray, List.map_cons, List.map_nil, e22]; rfl) (by go_simp)) ((HL3.out w' (W2.out.on hB)).mono fun e w3 hh => ⟨_, hh.1, rfl, hh.2⟩)
    . intro a w' hF hB hd
      have e15 : a.eval (.tmp 15) = .pointer (some ⟨d, 0, none⟩) := hd 0 (by decide +kernel)
      have e16 : a.eval (.tmp 16) = .agg GC.toArray := hd 1 (by decide +kernel)
      have e23 : a.eval (.tmp 23) = .agg L3.toArray := hd 8 (by decide +kernel)
      obtain ⟨x, c, e, e21, hx⟩ : ∃ x c e, a.eval (.tmp 21) = .pointer (some ⟨x, 0, none⟩) /\ (w.heap.size <= x /\ w.heap.size <= c /\ w.heap.size <= e) /\ Blk w' x 133 [.pointer (some ⟨c, 0, none⟩), .pointer (some ⟨e, 0, none⟩)] /\ Cph w' c (SP.fresh cl per K).one /\ Cph w' e (SP.fresh cl per K).two := hd 6 (by decide +kernel)
      exact doesL_val rfl (ex_build rfl (by simp only [List.map_toArray, List.map_cons, List.map_nil, e15, e16, e21, e23]; exact HBU.out x)) ⟨x, c, e, rfl, hx⟩
  . intro vs w4 hB hv
    obtain ⟨x, c, e, e24, hx⟩ : ∃ x c e, vs 9 = .agg (spp d x (SP.fresh cl per K)).toArray /\ (w.heap.size <= x /\ w.heap.size <= c /\ w.heap.size <= e) /\ Blk w4 x 133 [.pointer (some ⟨c, 0, none⟩), .pointer (some ⟨e, 0, none⟩)] /\ Cph w4 c (SP.fresh cl per K).one /\ Cph w4 e (SP.fresh cl per K).two := hv 9 (by decide)
    obtain ⟨NS, hNS⟩ : ∃ y, y = spp d x (SP.fresh cl per K) := ⟨_, rfl⟩
    rw [<- hNS] at e24
    simp only [List.take_succ_cons, List.take_zero, List.drop_succ_cons, List.drop_zero, putOps, Act.put, List.setIfInBounds_toArray, List.set_cons_zero, List.set_cons_succ, e24]
    have W4 := Lib.hid (W2.out.on hB)
    have HX := Lib.hid hx
    have HNS := Lib.hid hNS
    clear hv e24 hB hx hNS
    generalize vs 0 = z0
    generalize vs 1 = z1
    generalize vs 2 = z2
    generalize vs 3 = z3
    generalize vs 4 = z4
    generalize vs 5 = z5
    generalize vs 6 = z6
    generalize vs 7 = z7
    generalize vs 8 = z8
    go_wp2_with fail
    go_ret
    have ba := (Below.refl w4.heap.size w4).alloc (Nat.le_refl _) (.cells NS.toArray 103)
    refine ⟨w4.heap.size, rfl, ⟨x, c, e, ⟨⟨W4.out.size, by simp⟩, ⟨HX.out.1.1, ?_⟩, ⟨HX.out.1.2.1, ?_⟩, ⟨HX.out.1.2.2, ?_⟩⟩, ?_, HX.out.2.1.below ba HX.out.2.1.lt, HX.out.2.2.1.below ba, HX.out.2.2.2.below ba⟩, W4.out.alloc W4.out.size _⟩
    . have := HX.out.2.1.lt; simp; omega
    . have := HX.out.2.2.1.lt; simp; omega
    . have := HX.out.2.2.2.lt; simp; omega
    . rw [<- HNS.out]; exact Blk.new w4 103 NS _ rfl
end Go.Proofs.YtjalknpeecgllaaGreatDoor
end

section
namespace Go.Proofs.YtjalknpeecgllaaGreatDoor
open RT XM AM DM
namespace SP
structure Few (S : DS) (n : Nat) : Prop where
  ok : DM.Ok S
  steps : S.steps <= n
  loose : S.loose.length <= 4 * n
  after : S.after <= 9223372036854775807
theorem Few.tame {S : DS} {n : Nat} (h : Few S n) (hn : n <= 1000) : Tame S := ⟨h.ok, by have := h.steps; omega, by have := h.loose; omega, h.after⟩
theorem Few.beg : Few SP.beg 0 := ⟨SP.beg_ok, by rw [SP.beg_eq]; exact Nat.zero_le _, by rw [SP.beg_eq]; exact Nat.zero_le _, by rw [SP.beg_eq]; show 0 <= _; omega⟩
theorem step_after (d x : DS) (n : Nat) (h1 : d.after <= n) (h2 : x.after <= n) : (DM.step d x).1.after <= n := by
  unfold DM.step
  split
  . exact h2
  . split
    . show x.after - 1 <= n; omega
    . show (if d.done then x else d).after <= n
      split
      . exact h2
      . exact h1
theorem Few.write {S : DS} {n : Nat} (h : Few S n) (a : Int) {b : List Nat} (hb : ∀ k, gb b k < 256) (hl : b.length <= 1024) : Few (DM.write S a b).1 (n + 1) := by
  refine ⟨h.ok.write a b hb, ?_, ?_, ?_⟩
  . have := DM.write_steps S a b; have := h.steps; omega
  . have := DM.write_loose S a b; have := h.loose; omega
  . unfold DM.write
    split
    . exact h.after
    . split
      . exact h.after
      . split
        . exact h.after
        . exact step_after _ _ _ h.after h.after
theorem Few.edit {S : DS} {n : Nat} (h : Few S n) (a : Int) {b : List Nat} (hb : ∀ k, gb b k < 256) : Few (DM.edit S a b) n := by
  refine ⟨h.ok.edit a b hb, ?_, ?_, ?_⟩
  . unfold DM.edit; split <;> exact h.steps
  . unfold DM.edit; split <;> exact h.loose
  . unfold DM.edit; split <;> exact h.after
theorem Few.load {S : DS} {n : Nat} (h : Few S n) {b : List Nat} (hb : ∀ k, gb b k < 256) : Few (DM.load S b) n := by
  refine ⟨h.ok.load b hb, ?_, ?_, ?_⟩
  . unfold DM.load; split <;> exact h.steps
  . unfold DM.load
    split
    . exact h.loose
    . exact Nat.zero_le _
  . unfold DM.load; split <;> exact h.after
theorem Few.lay {S : DS} {m : Nat} (h : Few S m) (p : Sp) (n : Nat) {b : List Nat} (hb : ∀ k, gb b k < 256) (hl : b.length <= 1024) : Few (SP.lay p S n b).1 (m + 1) := h.write _ hb hl
theorem sealed_byte {p : Sp} (hp : Ok p) (n : Nat) (b : List Nat) : ∀ k, gb (sealed p n b) k < 256 := by
  unfold sealed xseal
  exact sealTo_byte (keys_bytes hp.one) (keys_bytes hp.two) _ _ _
theorem sealed_len3 {s : Sp} (hs : Ok s) (n : Nat) {b : List Nat} (hb : b.length = size s) : (sealed s n b).length = size s := by
  unfold sealed xseal
  rw [sealTo_len (keys_bytes hs.one) (keys_bytes hs.two), hb]
  unfold size
  omega
theorem size_le {p : Sp} (hp : Ok p) : size p <= 1024 := by unfold size; have := hp.per; omega
theorem padTo_byte' {l : List Nat} (n : Nat) (h : ∀ k, gb l k < 256) (k : Nat) : gb (padTo l n) k < 256 := gb_app l _ h (bytes_zero _).2 k
theorem ones_byte3 : ∀ (ps : List Pg), (∀ p ∈ ps, Pok p) -> ∀ k, gb (ones ps) k < 256 := by
  intro ps
  induction ps with
  | nil => intro _ k; show gb [] k < 256; rw [gb_nil]; omega
  | cons a r ih =>
    intro h k
    show gb (one a ++ ones r) k < 256
    exact gb_app _ _ (fun j => gb_app _ _ (be_byte _ _) (h a (by simp)).2.2 j) (ih (fun p hp => h p (by simp [hp]))) k
end SP
end Go.Proofs.YtjalknpeecgllaaGreatDoor
end

section
namespace Go.Proofs.YtjalknpeecgllaaGreatDoor
open RT XM AM SM
namespace SP
def aK : List Nat := 1 :: List.replicate 31 0
theorem aK_ok : Bytes 32 aK := ⟨by decide, fun k => by
  unfold gb aK
  rw [List.getD_eq_getElem?_getD]
  cases k with
  | zero => decide
  | succ k =>
    rw [List.getElem?_cons_succ, List.getElem?_replicate]
    split <;> decide⟩
def aS : Sp := fresh 8 1 aK
theorem aS_ok : Ok aS := fresh_ok (by decide) (by decide) aK
def aB : List Nat := List.replicate 512 0
theorem aB_len : aB.length = size aS := by unfold aB size aS fresh; rw [List.length_replicate]; rfl
theorem aB_byte (k : Nat) : gb aB k < 256 := (bytes_zero 512).2 k
def aC : List Nat := sealed aS 0 aB
theorem aC_len : aC.length = size aS := by
  unfold aC sealed xseal
  rw [sealTo_len (keys_bytes aS_ok.one) (keys_bytes aS_ok.two), aB_len]
  unfold size aS fresh
  omega
set_option maxRecDepth 100000 in
theorem aS_apart : leaf aS 2 aB ≠ List.replicate 32 0 := by decide +kernel
theorem aS_put : putData aS beg 0 aB = ((lay aS beg 0 aC).1, ⟨1, leaf aS 1 aC⟩, 0) := by
  unfold putData
  rw [if_neg (by rw [aB_len]; omega)]
  exact put_room (beg_room rfl (by decide)) aC_len _
theorem aS_back : data aS (lay aS beg 0 aC).1 ⟨1, leaf aS 1 aC⟩ = (aB, 0) :=
  data_back aS_ok aB_byte aB_len (raw_lay aS_ok (beg_room rfl (by decide)) aC_len _)
theorem aS_none : data aS (lay aS beg 0 aC).1 ⟨2, List.replicate 32 0⟩ = ([], 40) := by
  have e : raw aS (lay aS beg 0 aC).1 ⟨2, List.replicate 32 0⟩ = (aB, 0) := by
    rw [raw_other (n := 0) (m := 1) (beg_room rfl (by decide)) (beg_room rfl (by decide)) (by decide) aC_len, raw_room (n := 1) (beg_room rfl (by decide)), beg_seen]
    unfold DM.part aB size aS fresh
    rw [List.drop_replicate, List.take_replicate]
    rfl
  unfold data
  rw [e, if_neg (by simp)]
  show (if leaf aS 2 aB ≠ List.replicate 32 0 then (([], 40) : List Nat × Int) else _) = _
  rw [if_pos aS_apart]
end SP
end Go.Proofs.YtjalknpeecgllaaGreatDoor
end

section
namespace Go.Proofs.YtjalknpeecgllaaGreatDoor
open Go.ChangeShapes Go.WideShapes Go.ChangeAt Go.RowKit
open RT XM AM SM
theorem doesL_make {ops : List Oper} {Q : Exit -> Act -> World -> Prop} {o : Oper} {a : Act} {w : World} {f : Last} (hw : Region.wanted o (yielded ops.toArray a.tmps) = true) (n : Nat) (hn : n <= 140737488355328) (ho : o.op = .makeSlice 46 (.const (.int .i64 (n : Int))) (.const (.int .i64 (n : Int)))) (hf : ∀ v' w', Own w' w.heap.size v' (List.replicate n 0) -> f.holds v' w') : DoesL Tryz.prog ops Q o a w f :=
  doesL_wp hw fun K hK => by
    obtain ⟨w', hr, hown, hb⟩ := run_make_bytes w w.heap.size (Nat.le_refl _) n hn
    unfold Oper.wp execOp
    rw [ho]
    simp only [Act.eval, Sem.run_bind, hr, Result.andThen_ok, Sem.run_pure, Oper.upon_value]
    exact hK _ _ (hf _ _ hown) hb
structure Laid (B : Nat) (w : World) (s d : Nat) (p : SP.Sp) (A : Nat -> Prop) (S : DM.DS) : Prop where
  dev : Dev B A w d S
  spa : Spa (fun k => k < B \/ A k) w s d p
  tabs : PTabs (fun k => k < B \/ A k) w
theorem Laid.below {B : Nat} {w w' : World} {s d : Nat} {p : SP.Sp} {A : Nat -> Prop} {S : DM.DS} (h : Laid B w s d p A S) (hb : Below w.heap.size w w') : Laid B w' s d p A S := ⟨h.dev.below hb, h.spa.below hb, h.tabs.below hb⟩
theorem Laid.own {B : Nat} {w w' : World} {s d : Nat} {p : SP.Sp} {A : Nat -> Prop} {S : DM.DS} (h : Laid B w s d p A S) (hb : Below w.heap.size w w') : Laid B w' s d p (fun k => A k \/ (w.heap.size <= k /\ k < w'.heap.size)) S :=
  ⟨h.dev.own hb, (h.spa.below hb).more (fun _ q => q.imp_right .inl), (h.tabs.below hb).more (fun _ q => q.imp_right .inl)⟩
theorem Laid.went {B : Nat} {w w' : World} {s d : Nat} {p : SP.Sp} {A : Nat -> Prop} {S S' : DM.DS} (h : Laid B w s d p A S) (hd : Dev B A w' d S') (hk : Kept B A w w') : Laid B w' s d p A S' := ⟨hd, h.spa.kept hk (fun _ q => q), h.tabs.kept hk (fun _ q => q)⟩
theorem PTabs.start {w : World} (tx : TabX w) (tu : TabU w) (tp : TabP w) : PTabs (fun k => k < w.heap.size) w := ⟨tx, tu, tp, tx.lt, tu.lt, tp.lt⟩
theorem laid_new {B : Nat} {w w' : World} {s d : Nat} {p : SP.Sp} {A : Nat -> Prop} {S : DM.DS} (hd : Dev B A w d S) (ht : PTabs (fun k => k < B) w) (hs : Spa (fun k => w.heap.size <= k /\ k < w'.heap.size) w' s d p) (hb : Below w.heap.size w w') : Laid B w' s d p (fun k => A k \/ (w.heap.size <= k /\ k < w'.heap.size)) S :=
  ⟨hd.own hb, hs.more (fun _ q => .inr (.inr q)), (ht.below hb).more (fun _ q => .inl q)⟩
set_option maxRecDepth 100000 in
set_option maxHeartbeats 4000000 in
theorem spawake_any (w : World) (tx : TabX w) (tu : TabU w) (tp : TabP w) : Calls Tryz.prog 8 #[] w fun e w' => e = .returned (.bool true) /\ Below w.heap.size w w' := by
  have HB := Lib.hid (begun_any w.heap.size w (Nat.le_refl _))
  have HT := Lib.hid (PTabs.start tx tu tp)
  obtain ⟨aB, hAB⟩ : ∃ x, x = SP.aB := ⟨_, rfl⟩
  have HAB := Lib.hid (show aB = List.replicate 512 0 from hAB)
  have HKB := Lib.hid (show Tryz.prog.built 23 [(0, .int .u8 1)] = some (row8 SP.aK).toArray by kernel_rfl)
  obtain ⟨KC, hKC⟩ : ∃ x, x = row8 SP.aK := ⟨_, rfl⟩
  have HNW := Lib.hid (fun W d (tx : TabX W) (tp : TabP W) => (show Calls Tryz.prog 12 #[.pointer (some ⟨d, 0, none⟩), .agg #[.int .i64 8, .int .i64 1], .agg (row8 SP.aK).toArray] W fun e w' => ∃ s, e = .returned (.pointer (some ⟨s, 0, none⟩)) /\ Spa (fun k => W.heap.size <= k /\ k < w'.heap.size) w' s d SP.aS /\ Below W.heap.size W w' from spcnew_ok d 8 1 (by decide) (by decide) SP.aK SP.aK_ok W tx tp))
  rw [<- hKC] at HNW HKB
  have HPU := Lib.hid (fun W s d A v (h : Laid w.heap.size W s d SP.aS A SP.beg) (hv : Rd W v aB) => (show Calls Tryz.prog 17 #[.pointer (some ⟨s, 0, none⟩), .int .u32 0, v] W fun e w' => e = .returned (.tuple #[.agg (pc ⟨1, SP.leaf SP.aS 1 SP.aC⟩).toArray, .int .i64 0]) /\ Dev w.heap.size A w' d (SP.lay SP.aS SP.beg 0 SP.aC).1 /\ Kept w.heap.size A W w' by
    have q := spcputdata_any SP.aS_ok w.heap.size A SP.beg W h.dev SP.beg_tame h.spa h.tabs 0 (by decide) SP.aB v (by rw [<- hAB]; exact hv)
    rw [SP.aS_put] at q
    exact q))
  have hfew : SP.Few (SP.lay SP.aS SP.beg 0 SP.aC).1 1 := SP.Few.beg.lay SP.aS 0 (SP.sealed_byte SP.aS_ok 0 SP.aB) (by rw [SP.aC_len]; exact SP.size_le SP.aS_ok)
  have hok1 : Pok ⟨1, SP.leaf SP.aS 1 SP.aC⟩ := ⟨by decide, mac_bytes _ _⟩
  have hok2 : Pok ⟨2, List.replicate 32 0⟩ := ⟨by decide, bytes_zero 32⟩
  have HD1 := Lib.hid (fun W s d A (h : Laid w.heap.size W s d SP.aS A (SP.lay SP.aS SP.beg 0 SP.aC).1) => (show Calls Tryz.prog 14 #[.pointer (some ⟨s, 0, none⟩), .agg (pc ⟨1, SP.leaf SP.aS 1 SP.aC⟩).toArray] W fun e w' => ∃ y, e = .returned (.tuple #[y, .int .i64 0]) /\ Rd w' y aB /\ Below W.heap.size W w' by
    have q := spcdata_any SP.aS_ok w.heap.size A _ W h.dev (hfew.tame (by decide)) h.spa ⟨1, SP.leaf SP.aS 1 SP.aC⟩ hok1 h.tabs.x h.tabs.u h.tabs.p
    rw [SP.aS_back] at q
    exact q.mono fun e w' hh => by obtain ⟨y, he, hr, _, hb⟩ := hh; exact ⟨y, he, by rw [hAB]; exact hr, hb⟩))
  have HD2 := Lib.hid (fun W s d A (h : Laid w.heap.size W s d SP.aS A (SP.lay SP.aS SP.beg 0 SP.aC).1) => (show Calls Tryz.prog 14 #[.pointer (some ⟨s, 0, none⟩), .agg (pc ⟨2, List.replicate 32 0⟩).toArray] W fun e w' => ∃ y, e = .returned (.tuple #[y, .int .i64 40]) /\ Below W.heap.size W w' by
    have q := spcdata_any SP.aS_ok w.heap.size A _ W h.dev (hfew.tame (by decide)) h.spa ⟨2, List.replicate 32 0⟩ hok2 h.tabs.x h.tabs.u h.tabs.p
    rw [SP.aS_none] at q
    exact q.mono fun e w' hh => by obtain ⟨y, he, _, _, hb⟩ := hh; exact ⟨y, he, hb⟩))
  have HR2 := Lib.hid (show Tryz.prog.built 49 [(0, .int .u32 2)] = some (pc ⟨2, List.replicate 32 0⟩).toArray by kernel_rfl)
  obtain ⟨R2C, hR2⟩ : ∃ x, x = pc ⟨2, List.replicate 32 0⟩ := ⟨_, rfl⟩
  rw [<- hR2] at HR2 HD2
  have RC33 := Lib.hid (pc_len hok1)
  have RC1 := Lib.hid (one_pg ⟨1, SP.leaf SP.aS 1 SP.aC⟩)
  have HC0 := Lib.hid (show (pc ⟨1, SP.leaf SP.aS 1 SP.aC⟩)[0]? = some (.int .u32 1) from rfl)
  obtain ⟨RC, hRC⟩ : ∃ x, x = pc ⟨1, SP.leaf SP.aS 1 SP.aC⟩ := ⟨_, rfl⟩
  rw [<- hRC] at RC33 RC1 HC0 HPU HD1
  obtain ⟨S1, hS1⟩ : ∃ x, x = (SP.lay SP.aS SP.beg 0 SP.aC).1 := ⟨_, rfl⟩
  rw [<- hS1] at HPU HD1 HD2
  obtain ⟨S0, hS0⟩ : ∃ x, x = SP.beg := ⟨_, rfl⟩
  rw [<- hS0] at HB HPU
  obtain ⟨AS, hAS⟩ : ∃ x, x = SP.aS := ⟨_, rfl⟩
  rw [<- hAS] at HNW HPU HD1 HD2
  obtain ⟨RZ, hRZ⟩ : ∃ x, x = pc ND.zp := ⟨_, rfl⟩
  have hz : ∀ w, (zeroValue 49).run Tryz.prog w = .ok (.agg RZ.toArray) w := by rw [hRZ]; exact zeroRfP
  have RZ33 := Lib.hid (show RZ.length = 33 by rw [hRZ]; exact pc_len ND.zp_ok)
  obtain ⟨SB, hSB⟩ : ∃ x, x = bstr aB := ⟨_, rfl⟩
  have HSB := Lib.hid hSB
  clear hAB hKC hfew hok1 hok2 hR2 hRC hS1 hS0 hAS hRZ hSB tx tu tp
  go_enter Tryz.func8, Tryz.ntmps8
  go_upto_region 5 with (first
    | (go_at_call 13; (with_reducible refine HB.out.mono ?_); rintro e w1 ⟨d, rfl, d1, b1⟩; have D1 := Lib.hid d1; have W1 := Lib.hid b1; have T1 := Lib.hid (HT.out.below b1); clear d1 b1)
    | ((with_reducible show wpList _ _ _ (Oper.mk (some 9) (.build _ _) _ _ _ _ :: _) _ _); refine wpList_wanted rfl (.agg #[.int .i64 8, .int .i64 1]) (ex_build rfl (by kernel_rfl)) ?_)
    | ((with_reducible show wpList _ _ _ (Oper.mk (some 10) (.build _ _) _ _ _ _ :: _) _ _); refine wpList_wanted rfl (.agg KC.toArray) (ex_build rfl (by simp only [List.map_toArray, List.map_cons, List.map_nil]; exact HKB.out)) ?_)
    | (go_at_call 12; refine (HNW.out w1 d T1.out.x T1.out.p).mono ?_; rintro e w2 ⟨s, rfl, hs, b2⟩; have L2 := Lib.hid (laid_new D1.out T1.out hs b2); have W2 := Lib.hid (W1.out.on b2); clear hs b2)
    | ((with_reducible show wpList _ _ _ (Oper.mk (some 14) (.makeSlice _ _ _) _ _ _ _ :: _) _ _); refine wpList_make_bytes rfl _ _ rfl w2.heap.size 512 (by decide) rfl rfl (Nat.le_refl _) ?_; intro w3 o3 b3; have O3 := Lib.hid o3; have L3 := Lib.hid (L2.out.below b3); have W3 := Lib.hid (W2.out.on b3); clear o3 b3)
    | (go_at_call 17; refine (HPU.out w3 s d _ _ L3.out (by have q := O3.out.rd; rw [<- HAB.out] at q; exact q)).mono ?_; rintro e w4 ⟨rfl, d4, k4⟩; have L4 := Lib.hid (L3.out.went d4 k4); have W4 := Lib.hid (k4.below W3.out W3.out.size); clear d4 k4)
    | ((with_reducible show wpList _ _ _ (Oper.mk _ (.store _ (.tmp 2) (.tmp 16)) _ _ _ _ :: _) _ _); refine wpList_store_blk rfl 49 (.tmp 2) (.tmp 16) rfl w4.heap.size 0 RC rfl rfl 49 RZ (Blk.new w4 49 RZ _ rfl) (by have := RC33.out; have := RZ33.out; omega) (by rw [RC33.out]; exact infoRfQ) RC1.out ?_; intro w5 b' g'; rw [splice_all _ _ (by rw [RC33.out, RZ33.out])] at b'; have bb := alloc_turn (Below.refl _ _) g'; obtain ⟨rb, hrb⟩ : ∃ x, x = w4.heap.size := ⟨_, rfl⟩; rw [<- hrb] at b' ⊢; have R5a := Lib.hid b'; have L5 := Lib.hid (L4.out.below bb); have W5 := Lib.hid (W4.out.on bb); clear b' g' bb hrb)
    | ((with_reducible show wpList _ _ _ (Oper.mk _ (.load _ (.tmp 2)) _ _ _ _ :: _) _ _); refine wpList_load_mid rfl 49 (.tmp 2) rfl rb 0 rfl RC _ R5a.out.range Tryz.underlying49 rfl (by rw [RC33.out]; exact infoRfQ) ?_)
    | (go_at_call 14; first
      | ((with_reducible refine (HD1.out w5 s d _ L5.out).mono ?_); rintro e w6 ⟨y, rfl, ry, b6⟩; obtain ⟨ya, yc, rfl, _⟩ := ry.shape; have RY6 := Lib.hid ry; have L6 := Lib.hid (L5.out.below b6); have W6 := Lib.hid (W5.out.on b6); have R6 := Lib.hid (R5a.out.below b6 R5a.out.lt); clear ry b6)
      | ((with_reducible refine (HD2.out w6 s d _ L6.out).mono ?_); rintro e w7 ⟨u, rfl, b7⟩; have RY5 := Lib.hid (RY6.out.below b7); have W7 := Lib.hid (W6.out.on b7); have R5 := Lib.hid (R6.out.below b7 R6.out.lt); clear b7))
    | ((with_reducible show wpList _ _ _ (Oper.mk (some 26) (.build _ _) _ _ _ _ :: _) _ _); refine wpList_wanted rfl (.agg R2C.toArray) (ex_build rfl (by simp only [List.map_toArray, List.map_cons, List.map_nil]; exact HR2.out)) ?_))
  clear HPU HD1 HD2 HNW HB L2 L3 L4 L5 L6 R5a R6 RY6
  refine wp_region_l (by kernel_rfl) 32 (by decide) (by kernel_rfl) (by kernel_rfl) (by kernel_rfl) [.val (.pointer (some ⟨s, 0, none⟩)), .val (.bool true), .val (.bool true), .val (.pointer (some ⟨rb, 0, none⟩)), .val (.int .u32 1), .val (.bool true), .val (.bool true), .val (.bool true), .val (.int .i64 0), .val (.bool true), .val (.bool true), .val (.bool true), .val (.int .i64 0), .val (.bool true), .val (.bool true), .val (.bool true), .val (.slice ya aB.length yc), .val (.string SB), ⟨fun v W => Rd W v (aB), fun h k => h.below k⟩, .val (.string SB), .val (.bool true), .val (.bool true), .val (.bool true), .val (.int .i64 40), .val (.bool true), .val (.bool true), .val (.bool true), .val (.bool true), .val (.bool true), .val (.bool true), .val (.bool true), .val (.bool true)] ?_ ?_
  . refine ⟨?_, ?_, ?_, ?_, ?_, ?_, ?_, ?_, ?_, ?_, ?_, ?_, ?_, ?_, ?_, ?_, ?_, ?_, ?_, ?_, ?_, ?_, ?_, ?_, ?_, ?_, ?_, ?_, ?_, ?_, ?_, ?_, trivial⟩
    . intro a w' hF hB hd
      have e1 : a.eval (.tmp 1) = .pointer (some ⟨s, 0, none⟩) := hF 1 (by decide +kernel)
      exact doesL_val rfl (ex_move rfl e1) rfl
    . intro a w' hF hB hd
      have e30 : a.eval (.tmp 30) = .pointer (some ⟨s, 0, none⟩) := hd 0 (by decide +kernel)
      exact doesL_val rfl (ex_binOp rfl e30 rfl (by go_simp) (by go_simp)) rfl
    . intro a w' hF hB hd
      have e31 : a.eval (.tmp 31) = .bool true := hd 1 (by decide +kernel)
      exact doesL_val rfl (ex_move rfl e31) rfl
    . intro a w' hF hB hd
      have e32 : a.eval (.tmp 32) = .bool true := hd 2 (by decide +kernel)
      have e2 : a.eval (.tmp 2) = .pointer (some ⟨rb, 0, none⟩) := hF 2 (by decide +kernel)
      exact doesL_val (wanted_of rfl (yielded_of rfl e32)) (ex_fieldAddr rfl e2 (by go_simp)) rfl
    . intro a w' hF hB hd
      have e32 : a.eval (.tmp 32) = .bool true := hd 2 (by decide +kernel)
      have e33 : a.eval (.tmp 33) = .pointer (some ⟨rb, 0, none⟩) := hd 3 (by decide +kernel)
      have cc := (R5.out.below hB R5.out.lt).cell 0 _ HC0.out
      exact doesL_val (wanted_of rfl (yielded_of rfl e32)) (v := .int .u32 1) (by unfold execOp; simp only [e33]; go_simp) rfl
    . intro a w' hF hB hd
      have e32 : a.eval (.tmp 32) = .bool true := hd 2 (by decide +kernel)
      have e34 : a.eval (.tmp 34) = .int .u32 1 := hd 4 (by decide +kernel)
      exact doesL_val (wanted_of rfl (yielded_of rfl e32)) (ex_binOp rfl e34 rfl (by go_simp) (by go_simp)) rfl
    . intro a w' hF hB hd
      have e32 : a.eval (.tmp 32) = .bool true := hd 2 (by decide +kernel)
      have e35 : a.eval (.tmp 35) = .bool true := hd 5 (by decide +kernel)
      exact doesL_val rfl (ex_pick rfl e32 (by simp [e35])) rfl
    . intro a w' hF hB hd
      have e36 : a.eval (.tmp 36) = .bool true := hd 6 (by decide +kernel)
      exact doesL_val rfl (ex_move rfl e36) rfl
    . intro a w' hF hB hd
      have e37 : a.eval (.tmp 37) = .bool true := hd 7 (by decide +kernel)
      have e3 : a.eval (.tmp 3) = .int .i64 0 := hF 3 (by decide +kernel)
      exact doesL_val (wanted_of rfl (yielded_of rfl e37)) (ex_move rfl e3) rfl
    . intro a w' hF hB hd
      have e37 : a.eval (.tmp 37) = .bool true := hd 7 (by decide +kernel)
      have e38 : a.eval (.tmp 38) = .int .i64 0 := hd 8 (by decide +kernel)
      exact doesL_val (wanted_of rfl (yielded_of rfl e37)) (ex_binOp rfl e38 rfl (by go_simp) (by go_simp)) rfl
    . intro a w' hF hB hd
      have e37 : a.eval (.tmp 37) = .bool true := hd 7 (by decide +kernel)
      have e39 : a.eval (.tmp 39) = .bool true := hd 9 (by decide +kernel)
      exact doesL_val rfl (ex_pick rfl e37 (by simp [e39])) rfl
    . intro a w' hF hB hd
      have e40 : a.eval (.tmp 40) = .bool true := hd 10 (by decide +kernel)
      exact doesL_val rfl (ex_move rfl e40) rfl
    . intro a w' hF hB hd
      have e41 : a.eval (.tmp 41) = .bool true := hd 11 (by decide +kernel)
      have e5 : a.eval (.tmp 5) = .int .i64 0 := hF 5 (by decide +kernel)
      exact doesL_val (wanted_of rfl (yielded_of rfl e41)) (ex_move rfl e5) rfl
    . intro a w' hF hB hd
      have e41 : a.eval (.tmp 41) = .bool true := hd 11 (by decide +kernel)
      have e42 : a.eval (.tmp 42) = .int .i64 0 := hd 12 (by decide +kernel)
      exact doesL_val (wanted_of rfl (yielded_of rfl e41)) (ex_binOp rfl e42 rfl (by go_simp) (by go_simp)) rfl
    . intro a w' hF hB hd
      have e41 : a.eval (.tmp 41) = .bool true := hd 11 (by decide +kernel)
      have e43 : a.eval (.tmp 43) = .bool true := hd 13 (by decide +kernel)
      exact doesL_val rfl (ex_pick rfl e41 (by simp [e43])) rfl
    . intro a w' hF hB hd
      have e44 : a.eval (.tmp 44) = .bool true := hd 14 (by decide +kernel)
      exact doesL_val rfl (ex_move rfl e44) rfl
    . intro a w' hF hB hd
      have e45 : a.eval (.tmp 45) = .bool true := hd 15 (by decide +kernel)
      have e4 : a.eval (.tmp 4) = .slice ya aB.length yc := hF 4 (by decide +kernel)
      exact doesL_val (wanted_of rfl (yielded_of rfl e45)) (ex_move rfl e4) rfl
    . intro a w' hF hB hd
      have e45 : a.eval (.tmp 45) = .bool true := hd 15 (by decide +kernel)
      have e46 : a.eval (.tmp 46) = .slice ya aB.length yc := hd 16 (by decide +kernel)
      exact doesL_val (wanted_of rfl (yielded_of rfl e45)) (ex_convert (x := .tmp 46) rfl e46 (by rw [HSB.out]; exact (RY5.out.below hB).str)) rfl
    . intro a w' hF hB hd
      have e45 : a.eval (.tmp 45) = .bool true := hd 15 (by decide +kernel)
      exact doesL_make (wanted_of rfl (yielded_of rfl e45)) 512 (by decide) rfl (fun v' w2 ho => by have q := ho.rd; rw [<- HAB.out] at q; exact q)
    . intro a w' hF hB hd
      have e45 : a.eval (.tmp 45) = .bool true := hd 15 (by decide +kernel)
      have e48 : Rd w' (a.eval (.tmp 48)) (aB) := hd 18 (by decide +kernel)
      exact doesL_val (wanted_of rfl (yielded_of rfl e45)) (ex_convert (x := .tmp 48) rfl rfl (by rw [HSB.out]; exact (e48).str)) rfl
    . intro a w' hF hB hd
      have e45 : a.eval (.tmp 45) = .bool true := hd 15 (by decide +kernel)
      have e47 : a.eval (.tmp 47) = .string SB := hd 17 (by decide +kernel)
      have e49 : a.eval (.tmp 49) = .string SB := hd 19 (by decide +kernel)
      exact doesL_val (wanted_of rfl (yielded_of rfl e45)) (ex_binOp rfl e47 e49 (by go_simp) (by go_simp)) rfl
    . intro a w' hF hB hd
      have e45 : a.eval (.tmp 45) = .bool true := hd 15 (by decide +kernel)
      have e50 : a.eval (.tmp 50) = .bool true := hd 20 (by decide +kernel)
      exact doesL_val rfl (ex_pick rfl e45 (by simp [e50])) rfl
    . intro a w' hF hB hd
      have e51 : a.eval (.tmp 51) = .bool true := hd 21 (by decide +kernel)
      exact doesL_val rfl (ex_move rfl e51) rfl
    . intro a w' hF hB hd
      have e52 : a.eval (.tmp 52) = .bool true := hd 22 (by decide +kernel)
      have e7 : a.eval (.tmp 7) = .int .i64 40 := hF 7 (by decide +kernel)
      exact doesL_val (wanted_of rfl (yielded_of rfl e52)) (ex_move rfl e7) rfl
    . intro a w' hF hB hd
      have e52 : a.eval (.tmp 52) = .bool true := hd 22 (by decide +kernel)
      have e53 : a.eval (.tmp 53) = .int .i64 40 := hd 23 (by decide +kernel)
      exact doesL_val (wanted_of rfl (yielded_of rfl e52)) (ex_binOp rfl e53 rfl (by go_simp) (by go_simp)) rfl
    . intro a w' hF hB hd
      have e52 : a.eval (.tmp 52) = .bool true := hd 22 (by decide +kernel)
      have e54 : a.eval (.tmp 54) = .bool true := hd 24 (by decide +kernel)
      exact doesL_val rfl (ex_pick rfl e52 (by simp [e54])) rfl
    . intro a w' hF hB hd
      have e55 : a.eval (.tmp 55) = .bool true := hd 25 (by decide +kernel)
      exact doesL_val rfl (ex_move rfl e55) rfl
    . intro a w' hF hB hd
      have e56 : a.eval (.tmp 56) = .bool true := hd 26 (by decide +kernel)
      exact doesL_val rfl (ex_pick rfl e56 (rfl)) rfl
    . intro a w' hF hB hd
      have e57 : a.eval (.tmp 57) = .bool true := hd 27 (by decide +kernel)
      exact doesL_val rfl (ex_move rfl e57) rfl
    . intro a w' hF hB hd
      have e58 : a.eval (.tmp 58) = .bool true := hd 28 (by decide +kernel)
      exact doesL_val rfl (ex_pick rfl e58 (rfl)) rfl
    . intro a w' hF hB hd
      have e59 : a.eval (.tmp 59) = .bool true := hd 29 (by decide +kernel)
      exact doesL_val rfl (ex_move rfl e59) rfl
    . intro a w' hF hB hd
      have e60 : a.eval (.tmp 60) = .bool true := hd 30 (by decide +kernel)
      exact doesL_val rfl (ex_pick rfl e60 (rfl)) rfl
  . intro vs w9 hB hv
    have e61 : vs 31 = .bool true := hv 31 (by decide)
    simp only [List.take_succ_cons, List.take_zero, List.drop_succ_cons, List.drop_zero, putOps, Act.put, List.setIfInBounds_toArray, List.set_cons_zero, List.set_cons_succ, e61]
    have W9 := Lib.hid (W7.out.on hB)
    clear hv e61 hB
    generalize vs 0 = z0
    generalize vs 1 = z1
    generalize vs 2 = z2
    generalize vs 3 = z3
    generalize vs 4 = z4
    generalize vs 5 = z5
    generalize vs 6 = z6
    generalize vs 7 = z7
    generalize vs 8 = z8
    generalize vs 9 = z9
    generalize vs 10 = z10
    generalize vs 11 = z11
    generalize vs 12 = z12
    generalize vs 13 = z13
    generalize vs 14 = z14
    generalize vs 15 = z15
    generalize vs 16 = z16
    generalize vs 17 = z17
    generalize vs 18 = z18
    generalize vs 19 = z19
    generalize vs 20 = z20
    generalize vs 21 = z21
    generalize vs 22 = z22
    generalize vs 23 = z23
    generalize vs 24 = z24
    generalize vs 25 = z25
    generalize vs 26 = z26
    generalize vs 27 = z27
    generalize vs 28 = z28
    generalize vs 29 = z29
    generalize vs 30 = z30
    go_wp2_with fail
    go_ret
    exact ⟨rfl, W9.out⟩
end Go.Proofs.YtjalknpeecgllaaGreatDoor
end

section
namespace Go.Proofs.YtjalknpeecgllaaGreatDoor
open Go.ChangeShapes Go.WideShapes Go.ChangeAt Go.RowKit
open RT XM AM SM
theorem Rd.kept0 {B : Nat} {A : Nat -> Prop} {w w' : World} {v : Value} {l : List Nat} (h : Rd w v l) (k : Kept B A w w') (hne : 0 < l.length -> ∀ g, v.ownBlock = some g -> g < B \/ A g) : Rd w' v l := by
  by_cases h0 : 0 < l.length
  . exact h.kept k (hne h0)
  . refine ⟨h.byte, h.fits, ?_⟩
    rcases h.form with q | ⟨ad, cap, e, hc, _⟩
    . exact .inl q
    . exact .inr ⟨ad, cap, e, hc, fun j hj => absurd hj (by omega)⟩
theorem Laid.own2 {B : Nat} {w w' : World} {s d : Nat} {p : SP.Sp} {A : Nat -> Prop} {S : DM.DS} (h : Laid B w s d p A S) (hb : Below w.heap.size w w') : ∃ A', Laid B w' s d p A' S /\ (∀ k, A k -> A' k) /\ (∀ k, w.heap.size <= k -> k < w'.heap.size -> A' k) :=
  ⟨_, h.own hb, fun _ q => .inl q, fun _ q1 q2 => .inr ⟨q1, q2⟩⟩
section
variable {B : Nat} {w : World} {s d : Nat} {p : SP.Sp} {A : Nat -> Prop} {S : DM.DS} {m : Nat}
theorem laid_putdata (hp : SP.Ok p) (h : Laid B w s d p A S) (f : SP.Few S m) (hm : m <= 1000) (n : Nat) (hn : n < 4294967296) (b : List Nat) (v : Value) (hv : Rd w v b) : Calls Tryz.prog 17 #[.pointer (some ⟨s, 0, none⟩), .int .u32 (n : Int), v] w fun e w' => e = .returned (.tuple #[.agg (pc (SP.putData p S n b).2.1).toArray, .int .i64 (SP.putData p S n b).2.2]) /\ Laid B w' s d p A (SP.putData p S n b).1 /\ Kept B A w w' :=
  (spcputdata_any hp B A S w h.dev (f.tame hm) h.spa h.tabs n hn b v hv).mono fun _ _ hh => ⟨hh.1, h.went hh.2.1 hh.2.2, hh.2.2⟩
theorem laid_putpage (hp : SP.Ok p) (h : Laid B w s d p A S) (f : SP.Few S m) (hm : m <= 1000) (n : Nat) (hn : n < 4294967296) (b : List Nat) (v : Value) (hv : Rd w v b) : Calls Tryz.prog 19 #[.pointer (some ⟨s, 0, none⟩), .int .u32 (n : Int), v] w fun e w' => e = .returned (.tuple #[.agg (pc (SP.putPage p S n b).2.1).toArray, .int .i64 (SP.putPage p S n b).2.2]) /\ Laid B w' s d p A (SP.putPage p S n b).1 /\ Kept B A w w' :=
  (spcputpage_any hp B A S w h.dev (f.tame hm) h.spa h.tabs n hn b v hv).mono fun _ _ hh => ⟨hh.1, h.went hh.2.1 hh.2.2, hh.2.2⟩
theorem laid_putnode (hp : SP.Ok p) (h : Laid B w s d p A S) (f : SP.Few S m) (hm : m <= 1000) (n : Nat) (hn : n < 4294967296) (x : List Pg) (hx : ND.Nok x) : Calls Tryz.prog 18 #[.pointer (some ⟨s, 0, none⟩), .int .u32 (n : Int), .agg (pcs x).toArray] w fun e w' => e = .returned (.tuple #[.agg (pc (SP.putNode p S n x).2.1).toArray, .int .i64 (SP.putNode p S n x).2.2]) /\ Laid B w' s d p A (SP.putNode p S n x).1 /\ Kept B A w w' :=
  (spcputnode_any hp B A S w h.dev (f.tame hm) h.spa h.tabs n hn x hx).mono fun _ _ hh => ⟨hh.1, h.went hh.2.1 hh.2.2, hh.2.2⟩
theorem laid_data (hp : SP.Ok p) (h : Laid B w s d p A S) (f : SP.Few S m) (hm : m <= 1000) (r : Pg) (hr : Pok r) : Calls Tryz.prog 14 #[.pointer (some ⟨s, 0, none⟩), .agg (pc r).toArray] w fun e w' => ∃ y, e = .returned (.tuple #[y, .int .i64 (SP.data p S r).2]) /\ Rd w' y (SP.data p S r).1 /\ NewB w y /\ Below w.heap.size w w' :=
  spcdata_any hp B A S w h.dev (f.tame hm) h.spa r hr h.tabs.x h.tabs.u h.tabs.p
theorem laid_page (hp : SP.Ok p) (h : Laid B w s d p A S) (f : SP.Few S m) (hm : m <= 1000) (r : Pg) (hr : Pok r) : Calls Tryz.prog 16 #[.pointer (some ⟨s, 0, none⟩), .agg (pc r).toArray] w fun e w' => ∃ y, e = .returned (.tuple #[y, .int .i64 (SP.page p S r).2]) /\ Own w' w.heap.size y (SP.page p S r).1 /\ Below w.heap.size w w' :=
  spcpage_any hp B A S w h.dev (f.tame hm) h.spa r hr h.tabs.p
theorem laid_node (hp : SP.Ok p) (h : Laid B w s d p A S) (f : SP.Few S m) (hm : m <= 1000) (r : Pg) (hr : Pok r) : Calls Tryz.prog 15 #[.pointer (some ⟨s, 0, none⟩), .agg (pc r).toArray] w fun e w' => e = .returned (.tuple #[.agg (pcs (SP.node p S r).1).toArray, .int .i64 (SP.node p S r).2]) /\ Below w.heap.size w w' :=
  spcnode_any hp B A S w h.dev (f.tame hm) h.spa r hr h.tabs.p
end
def SP.Roomy (p : SP.Sp) (S : DM.DS) : Prop := ∀ n, n <= 23 -> SP.Room p S n
theorem SP.Roomy.beg {p : SP.Sp} (h : p.per = 1) : SP.Roomy p SP.beg := fun _ hn => SP.beg_room h hn
theorem SP.Roomy.lay {p : SP.Sp} {S : DM.DS} (h : SP.Roomy p S) {n : Nat} (hn : n <= 23) {b : List Nat} (hb : b.length = SP.size p) : SP.Roomy p (SP.lay p S n b).1 := fun m hm => (h n hn).lay (h m hm) hb
theorem SP.putData_room {p : SP.Sp} (hp : SP.Ok p) {S : DM.DS} {n : Nat} (h : SP.Room p S n) (hn : n <= 65535) {b : List Nat} (hb : b.length = SP.size p) : SP.putData p S n b = ((SP.lay p S n (SP.sealed p n b)).1, ⟨n + 1, SP.leaf p (n + 1) (SP.sealed p n b)⟩, 0) := by
  unfold SP.putData
  rw [if_neg (by omega)]
  exact SP.put_room h (SP.sealed_len3 hp n hb) _
theorem SP.putPage_room {p : SP.Sp} {S : DM.DS} {n : Nat} (h : SP.Room p S n) {b : List Nat} (hb : b.length <= SP.size p) : SP.putPage p S n b = ((SP.lay p S n (padTo b (SP.size p))).1, ⟨n + 1, SP.psum (padTo b (SP.size p))⟩, 0) := by
  unfold SP.putPage
  rw [if_neg (by omega)]
  exact SP.put_room h (by rw [padTo_len]; omega) _
theorem SP.putNode_room {p : SP.Sp} (hp : SP.Ok p) {S : DM.DS} {n : Nat} (h : SP.Room p S n) {x : List Pg} (hx : ND.Nok x) : SP.putNode p S n x = ((SP.lay p S n (SP.nodeBytes p x)).1, ⟨n + 1, SP.nsum (SP.nodeBytes p x)⟩, 0) := SP.put_room h (SP.nodeBytes_len hp hx) _
end Go.Proofs.YtjalknpeecgllaaGreatDoor
end

section
namespace Go.Proofs.YtjalknpeecgllaaGreatDoor
open Go.ChangeShapes Go.WideShapes Go.ChangeAt Go.RowKit
open RT XM AM SM DM
namespace SP
theorem laid_one {s : List Nat} {k x : Nat} (h : k < s.length) : DM.laid s k [x] = s.set k x := by
  unfold DM.laid
  rw [if_neg (by simp), show k - s.length = 0 by omega, List.replicate_zero, List.append_nil, List.length_singleton]
  rw [List.set_eq_take_append_cons_drop, if_pos h]
  simp
theorem edit_one {S : DS} {k x : Nat} (h : k < S.seen.length) (hm : S.seen.length <= S.most) : DM.edit S (k : Int) [x] = { S with seen := S.seen.set k x, safe := DM.laid S.safe k [x] } := by
  unfold DM.edit
  rw [if_neg (by simp only [List.length_singleton]; omega), Int.toNat_natCast, laid_one h]
def kof (off j : Nat) : Nat := 4096 + 512 * j + off
def al (l : List Nat) (off by_ : Nat) : Nat -> List Nat
  | 0 => l
  | j + 1 => (al l off by_ j).set (kof off j) (gb (al l off by_ j) (kof off j) ^^^ by_)
def st (S : DS) (l : List Nat) (off by_ : Nat) : Nat -> DS
  | 0 => S
  | j + 1 => DM.edit (st S l off by_ j) (kof off j : Int) [gb (al l off by_ (j + 1)) (kof off j)]
theorem al_len (l : List Nat) (off by_ : Nat) : ∀ j, (al l off by_ j).length = l.length
  | 0 => rfl
  | j + 1 => by unfold al; rw [List.length_set]; exact al_len l off by_ j
theorem al_byte {l : List Nat} (hl : ∀ k, gb l k < 256) (off : Nat) {by_ : Nat} (hb : by_ < 256) : ∀ j k, gb (al l off by_ j) k < 256
  | 0, k => hl k
  | j + 1, k => by
    unfold al
    by_cases h : kof off j < (al l off by_ j).length
    . rw [gb_set _ _ _ _ h]
      split
      . exact Nat.xor_lt_two_pow (n := 8) (al_byte hl off hb j _) hb
      . exact al_byte hl off hb j k
    . rw [List.set_eq_of_length_le (by omega)]; exact al_byte hl off hb j k
theorem al_at (l : List Nat) (off by_ j : Nat) (h : kof off j < l.length) : gb (al l off by_ (j + 1)) (kof off j) = gb (al l off by_ j) (kof off j) ^^^ by_ := by
  show gb ((al l off by_ j).set _ _) _ = _
  rw [gb_set _ _ _ _ (by rw [al_len]; exact h), if_pos rfl]
structure Up (S : DS) : Prop where
  down : S.down = false
  len : S.seen.length = 16384
  most : S.most = 32768
theorem st_up {S : DS} (h : Up S) {l : List Nat} (hl : S.seen = l) {off : Nat} (ho : off < 512) (by_ : Nat) : ∀ j, j <= 3 -> Up (st S l off by_ j) /\ (st S l off by_ j).seen = al l off by_ j
  | 0, _ => ⟨h, hl⟩
  | j + 1, hj => by
    obtain ⟨u, e⟩ := st_up h hl ho by_ j (by omega)
    have hk : kof off j < (st S l off by_ j).seen.length := by rw [u.len]; unfold kof; omega
    have q := edit_one (x := gb (al l off by_ (j + 1)) (kof off j)) hk (by rw [u.len, u.most]; decide)
    have hk2 : kof off j < l.length := by rw [<- hl, h.len]; unfold kof; omega
    show Up (DM.edit _ _ _) /\ (DM.edit _ _ _).seen = _
    rw [q]
    refine ⟨⟨u.down, by show ((st S l off by_ j).seen.set _ _).length = 16384; rw [List.length_set]; exact u.len, u.most⟩, ?_⟩
    show (st S l off by_ j).seen.set _ _ = al l off by_ (j + 1)
    rw [e, al_at l off by_ j hk2]
    rfl
theorem raw_up {p : Sp} (hp : p.per = 1) {S : DS} (h : Up S) {n : Nat} (hn : n <= 23) (sum : List Nat) : raw p S ⟨n + 1, sum⟩ = (DM.part S.seen (4096 + 512 * n) 512, 0) := by
  unfold raw
  rw [if_neg (by show ¬ (n + 1 = 0 \/ 65536 < n + 1); omega)]
  have e : place p (n + 1 - 1) = 4096 + 512 * n := by unfold place; rw [hp, Nat.add_sub_cancel]; omega
  have e2 : size p = 512 := by unfold size; rw [hp]
  show ((DM.read S (place p (n + 1 - 1) : Int) (size p : Int)).1, told (DM.read S (place p (n + 1 - 1) : Int) (size p : Int)).2) = _
  rw [e, e2]
  unfold DM.read
  rw [h.down, if_neg (by decide), if_neg (by rw [h.len]; omega)]
  rfl
theorem raw_short {p : Sp} (hp : p.per = 1) {S : DS} (hd : S.down = false) (hl : S.seen.length = 4200) {n : Nat} (hn : n <= 23) (sum : List Nat) : raw p S ⟨n + 1, sum⟩ = ([], 40) := by
  unfold raw
  rw [if_neg (by show ¬ (n + 1 = 0 \/ 65536 < n + 1); omega)]
  have e : place p (n + 1 - 1) = 4096 + 512 * n := by unfold place; rw [hp, Nat.add_sub_cancel]; omega
  have e2 : size p = 512 := by unfold size; rw [hp]
  show ((DM.read S (place p (n + 1 - 1) : Int) (size p : Int)).1, told (DM.read S (place p (n + 1 - 1) : Int) (size p : Int)).2) = _
  rw [e, e2]
  unfold DM.read
  rw [hd, if_neg (by decide), if_pos (by rw [hl]; omega)]
  rfl
theorem load_short {S : DS} (h : Up S) {l : List Nat} (hl : l.length = 4200) : DM.load S l = { S with seen := l, safe := l, loose := [] } := by
  unfold DM.load
  rw [if_neg (by rw [h.most, hl]; decide)]
theorem beg_up : Up beg := ⟨by rw [beg_eq]; rfl, by rw [beg_seen, List.length_replicate], beg_most⟩
theorem lay_up {p : Sp} {S : DS} (h : Up S) {n : Nat} (r : Room p S n) {b : List Nat} (hb : b.length = size p) : Up (lay p S n b).1 := by
  have e := lay_seen r hb
  have hs := r.fits
  refine ⟨?_, ?_, ?_⟩
  . rw [lay_room r hb]; exact h.down
  . rw [e.1, laid_same (by rw [hb]; exact hs)]; exact h.len
  . rw [lay_room r hb]; exact h.most
end SP
theorem laid_edit {B : Nat} {w : World} {s d : Nat} {p : SP.Sp} {A : Nat -> Prop} {S : DM.DS} {m : Nat} (h : Laid B w s d p A S) (f : SP.Few S m) (hm : m <= 1000) (k : Int) (hk : -9223372036854775808 <= k /\ k <= 9223372036854775807) (v : Value) (l : List Nat) (hv : Rd w v l) (hl : l.length <= 16777216) (hne : 0 < l.length -> ∀ g, v.ownBlock = some g -> g < B \/ A g) : Calls Tryz.prog 20 #[.pointer (some ⟨d, 0, none⟩), .int .i64 k, v] w fun e w' => e = .returned (.tuple #[]) /\ Laid B w' s d p A (DM.edit S k l) /\ Kept B A w w' :=
  (dev_edit B A d S w h.dev (f.tame hm) k hk v l hv hl hne).mono fun _ _ hh => ⟨hh.1, h.went hh.2.1 hh.2.2, hh.2.2⟩
theorem laid_load {B : Nat} {w : World} {s d : Nat} {p : SP.Sp} {A : Nat -> Prop} {S : DM.DS} {m : Nat} (h : Laid B w s d p A S) (f : SP.Few S m) (hm : m <= 1000) (v : Value) (l : List Nat) (hv : Rd w v l) (hne : 0 < l.length -> ∀ g, v.ownBlock = some g -> g < B \/ A g) : Calls Tryz.prog 23 #[.pointer (some ⟨d, 0, none⟩), v] w fun e w' => e = .returned (.tuple #[]) /\ Laid B w' s d p A (DM.load S l) /\ Kept B A w w' :=
  (dev_load B A d S w h.dev (f.tame hm) v l hv hne).mono fun _ _ hh => ⟨hh.1, h.went hh.2.1 hh.2.2, hh.2.2⟩
theorem laid_bytes {B : Nat} {w : World} {s d : Nat} {p : SP.Sp} {A : Nat -> Prop} {S : DM.DS} {m : Nat} (h : Laid B w s d p A S) (f : SP.Few S m) (hm : m <= 1000) : Calls Tryz.prog 11 #[.pointer (some ⟨d, 0, none⟩)] w fun e w' => ∃ y, e = .returned y /\ Own w' w.heap.size y S.seen /\ Below w.heap.size w w' :=
  dev_bytes B A d S w h.dev (f.tame hm)
theorem own_apartQ {w : World} {g base : Nat} {t : TypeId} {cs : List Value} {v : Value} {l : List Nat} (h : Blk w g t cs) (ho : Own w base v l) (ht : t ≠ 5) : v.ownBlock ≠ some g := fun e => by
  rcases ho.1.2 with ⟨q, _⟩ | ⟨b, cap, cur, q, _, hh, _⟩
  . rw [q] at e; cases e
  . rw [q] at e
    have e2 : b = g := Option.some.inj e
    rw [e2, show w.heap[g]? = _ from h] at hh
    injection hh with hh
    injection hh with _ h2 _
    exact ht h2
theorem Spa.cell {Z : Nat -> Prop} {w w' : World} {s d : Nat} {p : SP.Sp} (h : Spa Z w s d p) {base u : Nat} {v : Value} {l : List Nat} (ho : Own w base v l) (hv : v.ownBlock = some u) (g : w.grownBy w' (some u)) : Spa Z w' s d p := by
  obtain ⟨x, c, e, hz, h1, h2, h3, h4⟩ := h
  have q : ∀ {b : Nat} {t : TypeId} {cs : List Value}, Blk w b t cs -> t ≠ 5 -> some b ≠ some u := fun hb ht e => own_apartQ hb ho ht (hv.trans e.symm)
  exact ⟨x, c, e, hz, h1.grown g (q h1 (by decide)), h2.grown g (q h2 (by decide)), h3.grown g (q h3.2 (by decide)), h4.grown g (q h4.2 (by decide))⟩
theorem Laid.cell {B : Nat} {w w' : World} {s d : Nat} {p : SP.Sp} {A : Nat -> Prop} {S : DM.DS} (h : Laid B w s d p A S) {base u : Nat} {v : Value} {l : List Nat} (ho : Own w base v l) (hv : v.ownBlock = some u) (hA : A u) (g : w.grownBy w' (some u)) (tt : PTabs (fun k => k < B) w') : Laid B w' s d p A S :=
  ⟨h.dev.turn g (fun i e => by rw [<- Option.some.inj e]; exact hA), h.spa.cell ho hv g, tt.more (fun _ q => .inl q)⟩
theorem SP.node_nok {p : SP.Sp} {S : DM.DS} (hS : DM.Ok S) (r : Pg) : ND.Nok (SP.node p S r).1 := by
  unfold SP.node
  split
  . exact ND.zn_ok
  . split
    . rename_i h
      unfold SP.nodeOk at h
      simp only [Bool.and_eq_true] at h
      show ND.Nok (ND.reads _)
      rw [<- (ND.got_yes h.1.2).1]
      exact ND.got_ok (gb_take_byte _ _ (SP.raw_byte hS r))
    . exact ND.zn_ok
end Go.Proofs.YtjalknpeecgllaaGreatDoor
end

section
namespace Go.Proofs.YtjalknpeecgllaaGreatDoor

theorem row_nodup (g m : Nat) : (MemPlace.row ⟨g, 0, none⟩ m).Nodup := by
  unfold MemPlace.row
  refine List.Pairwise.map _ (fun a b hab => ?_) List.nodup_range
  intro q
  injection q with _ q
  simp at q
  exact hab q
theorem laidRun_more {P : Program} {w : World} {fuel : Nat} {a : String} {bs : List String} {da : DataW Unit} {ds : List (String × DataW Unit)} {p q : List MemPlace} (h1 : DataW.laidRun P w fuel [a] = some ([(a, da)], p)) (h2 : DataW.laidRun P w fuel bs = some (ds, q)) :
    DataW.laidRun P w fuel (a :: bs) = some ((a, da) :: ds, p ++ q) := by
  rw [DataW.laidRun] at h1 ⊢
  rw [h2]
  cases e1 : P.globalNamed a with
  | none => rw [e1] at h1; simp at h1
  | some g =>
    rw [e1] at h1
    simp only at h1 ⊢
    cases e2 : (P.globals[g]?).map (·.type) with
    | none => rw [e2] at h1; simp at h1
    | some t =>
      cases e3 : w.var? P a with
      | none => rw [e2, e3] at h1; simp at h1
      | some cs =>
        rw [e2, e3] at h1
        simp only [DataW.laidRun] at h1 ⊢
        cases e4 : DataW.trod (fun _ => ()) P w 0 (fun _ => true) false fuel t cs.toList with
        | none => rw [e4] at h1; simp at h1
        | some x =>
          rw [e4] at h1
          simp only [Option.some.injEq, Prod.mk.injEq, List.append_nil, List.cons.injEq] at h1 ⊢
          obtain ⟨⟨⟨_, h3⟩, _⟩, h4⟩ := h1
          exact ⟨⟨⟨trivial, h3⟩, trivial⟩, by rw [h4]⟩
end Go.Proofs.YtjalknpeecgllaaGreatDoor
namespace Go.Proofs.YtjalknpeecgllaaGreatDoor
abbrev Tabled := (String × DataW Unit) × Nat × Nat
def Tabled.row (x : Tabled) : List MemPlace := MemPlace.row ⟨x.2.1, 0, none⟩ x.2.2
def Tabled.met (P : Program) (w : World) (fuel : Nat) (x : Tabled) : Prop := DataW.laidRun P w fuel [x.1.1] = some ([x.1], x.row) /\ laidRowsB P w x.row = true
theorem laidRun_many {P : Program} {w : World} {fuel : Nat} : ∀ L : List Tabled, (∀ x ∈ L, x.met P w fuel) -> DataW.laidRun P w fuel (L.map (·.1.1)) = some (L.map (·.1), (L.map Tabled.row).flatten)
  | [], _ => rfl
  | x :: L, h => by
    have h1 := (h x (List.mem_cons_self ..)).1
    have h2 := laidRun_many L fun y hy => h y (List.mem_cons_of_mem _ hy)
    exact laidRun_more (da := x.1.2) h1 h2
theorem apart_rows {x y : Tabled} (hne : x.2.1 ≠ y.2.1) : ∀ p ∈ x.row, ∀ q ∈ y.row, p ≠ q := fun p hp q hq e => by
  obtain ⟨i, _, rfl⟩ := MemPlace.mem_row.1 hp
  obtain ⟨j, _, rfl⟩ := MemPlace.mem_row.1 hq
  injection e with e _
  exact hne e
theorem nodup_rows : ∀ L : List Tabled, (L.map (·.2.1)).Nodup -> (L.map Tabled.row).flatten.Nodup
  | [], _ => List.nodup_nil
  | x :: L, h => by
    rw [List.map_cons, List.nodup_cons] at h
    rw [List.map_cons, List.flatten_cons]
    refine List.nodup_append.2 ⟨row_nodup _ _, nodup_rows L h.2, fun p hp q hq => ?_⟩
    obtain ⟨r, hr, hqr⟩ := List.mem_flatten.1 hq
    obtain ⟨y, hy, rfl⟩ := List.mem_map.1 hr
    exact apart_rows (x := x) (y := y) (fun e => h.1 (List.mem_map.2 ⟨y, hy, e.symm⟩)) p hp q hqr
theorem rows_many {P : Program} {w : World} {fuel : Nat} : ∀ L : List Tabled, (∀ x ∈ L, x.met P w fuel) -> laidRowsB P w (L.map Tabled.row).flatten = true
  | [], _ => rfl
  | x :: L, h => by
    have h1 := (h x (List.mem_cons_self ..)).2
    have h2 := rows_many L fun y hy => h y (List.mem_cons_of_mem _ hy)
    rw [List.map_cons, List.flatten_cons]
    unfold laidRowsB at h1 h2 ⊢
    rw [List.all_append, h1, h2]; rfl
theorem laidMet_many {P : Program} {w : World} {fuel : Nat} (L : List Tabled) (h : ∀ x ∈ L, x.met P w fuel) (hd : (L.map (·.2.1)).Nodup) : laidMet P (L.map (·.1)) w :=
  laidMet_of_run fuel (by rw [List.map_map]; exact laidRun_many L h) (decide_eq_true (nodup_rows L hd)) (rows_many L h)
end Go.Proofs.YtjalknpeecgllaaGreatDoor
end

section
namespace Go.Proofs.YtjalknpeecgllaaGreatDoor
open Go.ChangeShapes Go.WideShapes Go.ChangeAt Go.RowKit
theorem cells1_uint64 : Tryz.prog.cellsOf 108 = 1 := by kernel_rfl
theorem cells32_uint64 : Tryz.prog.cellsOf 222 = 32 := by kernel_rfl
def laidX : List (String × DataW Unit) := [("reliquary/aes.boxes", Rows.laid_reliquary_aes_boxes)]
theorem gX : Tryz.prog.globalNamed "reliquary/aes.boxes" = some 4 := by kernel_rfl
theorem tX : (Tryz.prog.globals[4]?).map (·.type) = some 222 := by kernel_rfl
theorem laid_tabX : (Rows.laid_reliquary_aes_boxes : DataW Unit) = Lib.tabData .u64 (AM.wtab.map fun n : Nat => (n : Int)) := by kernel_rfl
theorem lenX : AM.wtab.length = 32 := by kernel_rfl
theorem tabX_of_laid {W : World} (h : laidMetH Tryz.prog laidX W) : TabX W := by
  rw [MakeChecks.laidMetH_plain _ _ _ (by kernel_rfl)] at h
  unfold laidX at h
  rw [laid_tabX] at h
  have ht := Lib.tabIs_of_head gX tX Tryz.underlying222 Tryz.underlying108 cells1_uint64 cells32_uint64 h
  intro t htt
  have hc := ht.cell gX t (by rw [List.length_map, lenX]; exact htt)
  rw [hc]
  unfold gb
  rw [List.getD_eq_getElem?_getD, List.getD_eq_getElem?_getD, List.getElem?_map, List.getElem?_eq_getElem (by rw [lenX]; exact htt)]
  rfl
def tabledP : Tabled := (("reliquary/sha.constants", Rows.laid_reliquary_sha_constants), 1, 64)
theorem metP (os : Os) (args : Array Value) : tabledP.met Tryz.prog ((World.doorLaid Tryz.prog 400 os).forCall (fun _ _ => 0) ⟨#[], args, []⟩).memory 8 := ⟨by kernel_rfl, by kernel_rfl⟩
def tabledX : Tabled := (("reliquary/aes.boxes", Rows.laid_reliquary_aes_boxes), 4, 32)
theorem metX (os : Os) (args : Array Value) : tabledX.met Tryz.prog ((World.doorLaid Tryz.prog 400 os).forCall (fun _ _ => 0) ⟨#[], args, []⟩).memory 8 := ⟨by kernel_rfl, by kernel_rfl⟩
end Go.Proofs.YtjalknpeecgllaaGreatDoor
end

section
namespace Go.Proofs.YtjalknpeecgllaaGreatDoor
open Go.ChangeShapes Go.WideShapes Go.ChangeAt Go.RowKit
def laidU : List (String × DataW Unit) := [("reliquary/aes.unboxes", Rows.laid_reliquary_aes_unboxes)]
theorem gU : Tryz.prog.globalNamed "reliquary/aes.unboxes" = some 3 := by kernel_rfl
theorem tU : (Tryz.prog.globals[3]?).map (·.type) = some 222 := by kernel_rfl
theorem laid_tabU : (Rows.laid_reliquary_aes_unboxes : DataW Unit) = Lib.tabData .u64 (AM.wuntab.map fun n : Nat => (n : Int)) := by kernel_rfl
theorem lenU : AM.wuntab.length = 32 := by kernel_rfl
theorem tabU_of_laid {W : World} (h : laidMetH Tryz.prog laidU W) : TabU W := by
  rw [MakeChecks.laidMetH_plain _ _ _ (by kernel_rfl)] at h
  unfold laidU at h
  rw [laid_tabU] at h
  have ht := Lib.tabIs_of_head gU tU Tryz.underlying222 Tryz.underlying108 cells1_uint64 cells32_uint64 h
  intro t htt
  have hc := ht.cell gU t (by rw [List.length_map, lenU]; exact htt)
  rw [hc]
  unfold gb
  rw [List.getD_eq_getElem?_getD, List.getD_eq_getElem?_getD, List.getElem?_map, List.getElem?_eq_getElem (by rw [lenU]; exact htt)]
  rfl
def tabledU : Tabled := (("reliquary/aes.unboxes", Rows.laid_reliquary_aes_unboxes), 3, 32)
theorem metU (os : Os) (args : Array Value) : tabledU.met Tryz.prog ((World.doorLaid Tryz.prog 400 os).forCall (fun _ _ => 0) ⟨#[], args, []⟩).memory 8 := ⟨by kernel_rfl, by kernel_rfl⟩
def laidXUPs : List (String × DataW Unit) := [("reliquary/aes.boxes", Rows.laid_reliquary_aes_boxes), ("reliquary/aes.unboxes", Rows.laid_reliquary_aes_unboxes), ("reliquary/sha.constants", Rows.laid_reliquary_sha_constants)]
theorem laidXUPs_X : laidXUPs.filter (fun x => x.1 == "reliquary/aes.boxes") = laidX := by
  unfold laidXUPs laidX
  rw [List.filter_cons_of_pos (by decide), List.filter_cons_of_neg (by decide), List.filter_cons_of_neg (by decide)]; rfl
theorem laidXUPs_U : laidXUPs.filter (fun x => x.1 == "reliquary/aes.unboxes") = laidU := by
  unfold laidXUPs laidU
  rw [List.filter_cons_of_neg (by decide), List.filter_cons_of_pos (by decide), List.filter_cons_of_neg (by decide)]; rfl
theorem laidXUPs_P : laidXUPs.filter (fun x => x.1 == "reliquary/sha.constants") = laidP := by
  unfold laidXUPs laidP
  rw [List.filter_cons_of_neg (by decide), List.filter_cons_of_neg (by decide), List.filter_cons_of_pos (by decide)]; rfl
theorem tabsXUPs_of_laid {W : World} (h : laidMetH Tryz.prog laidXUPs W) : TabX W /\ TabU W /\ TabP W := by
  have h0 := h.filter (fun x => x.1 == "reliquary/aes.boxes")
  rw [laidXUPs_X] at h0
  have h1 := h.filter (fun x => x.1 == "reliquary/aes.unboxes")
  rw [laidXUPs_U] at h1
  have h2 := h.filter (fun x => x.1 == "reliquary/sha.constants")
  rw [laidXUPs_P] at h2
  exact ⟨tabX_of_laid h0, tabU_of_laid h1, tabP_of_laid h2⟩
theorem doorXUPs_met (os : Os) (args : Array Value) : laidMetH Tryz.prog laidXUPs ((World.doorLaid Tryz.prog 400 os).forCall (fun _ _ => 0) ⟨#[], args, []⟩).memory := by
  rw [MakeChecks.laidMetH_plain _ _ _ (by kernel_rfl)]
  exact laidMet_many (fuel := 8) [tabledX, tabledU, tabledP] (by
    intro x hx
    simp only [List.mem_cons, List.not_mem_nil, or_false] at hx
    rcases hx with rfl | rfl | rfl
    . exact metX os args
    . exact metU os args
    . exact metP os args) (by decide)
end Go.Proofs.YtjalknpeecgllaaGreatDoor
end

section
namespace Go.Proofs.YtjalknpeecgllaaGreatDoor
open Go.ChangeShapes Go.WideShapes Go.ChangeAt Go.RowKit
theorem trod_row_fuel {H : Type} (f : Nat) {enc : TypeId × Value -> H} {P : Program} {W : World} {base : Nat} {sp : Nat -> Bool} {held : Bool} {t e n : Nat} (hu : P.underlying t = some (.array n e)) (he : P.underlying e = some (.int .u8)) (hc : P.cellsOf e = 1) (hcn : P.cellsOf t = n)
    {l : List Nat} (hl : Bytes n l) : DataW.trod enc P W base sp held (f + 2) t (row8 l) = some (lit8 l, []) := by
  have hlen : (row8 l).length = n := by rw [row8_len]; exact hl.1
  have hm : ((List.range n).mapM fun i => DataW.trod enc P W base sp held (f + 1) e (((row8 l).drop (i * P.cellsOf e)).take (P.cellsOf e))) = some ((List.range n).map fun i => (.lit (.int .u8 ((gb l i : Nat) : Int)), [])) := by
    refine mapM_some_of_get _ _ (by simp) fun i x hx => ?_
    have hin : i < n := by
      rcases Nat.lt_or_ge i n with h | h
      . exact h
      . rw [List.getElem?_eq_none (by simpa using h)] at hx; cases hx
    have hxe : x = i := by simp [hin] at hx; omega
    subst hxe
    rw [hc, Nat.mul_one, List.getElem?_map, List.getElem?_range hin]
    have h1 : ((row8 l).drop x).take 1 = [.int .u8 ((gb l x : Nat) : Int)] := by
      rw [List.drop_eq_getElem_cons (by omega), List.take_succ_cons, List.take_zero]
      have := row8_val l x (by rw [<- row8_len]; omega)
      rw [List.getElem?_eq_getElem (by omega)] at this
      simp at this; rw [this]
    have hw : (Lit.int .u8 ((gb l x : Nat) : Int)).wf = true := by
      have := hl.2 x
      simp [Lit.wf, IntKind.min, IntKind.max, IntKind.signed, IntKind.bits]; omega
    rw [h1]
    simp [DataW.trod, he, hw]
  have hd : ((List.range n).map fun i => (DataW.lit (H := H) (.int .u8 ((gb l i : Nat) : Int)))) = l.map fun k : Nat => .lit (.int .u8 (k : Int)) := by
    apply List.ext_getElem?
    intro i
    rw [List.getElem?_map, List.getElem?_map]
    by_cases hk : i < n
    . have e : l[i]? = some (gb l i) := by
        unfold gb; rw [List.getD_eq_getElem?_getD, List.getElem?_eq_getElem (by rw [hl.1]; exact hk)]; rfl
      rw [List.getElem?_range hk, e]; rfl
    . rw [List.getElem?_eq_none (by simpa using hk), List.getElem?_eq_none (by rw [hl.1]; omega)]; rfl
  unfold DataW.trod
  simp only [hu]
  rw [if_pos (by simp [hlen, hcn])]
  rw [hm]
  simp only [Option.map_some, List.map_map, Function.comp_def]
  rw [hd]
  unfold lit8
  simp
theorem reads_cons {H : Type} {enc : TypeId × Value -> H} {P : Program} {W : World} {base : Nat} {sp : Nat -> Bool} {held : Bool} {fuel t : Nat} {v : Value} {ts : List TypeId} {vs : List Value} {d : DataW H} {ds : List (DataW H)}
    (h : DataW.trod enc P W base sp held fuel t v.cells.toList = some (d, [])) (k : DataW.trodAll enc P W base sp held fuel ts vs = some (ds, [])) : DataW.trodAll enc P W base sp held fuel (t :: ts) (v :: vs) = some (d :: ds, []) := by
  rw [DataW.trodAll, h, k]; rfl
theorem reads_row {H : Type} {enc : TypeId × Value -> H} {P : Program} {W : World} {base : Nat} {sp : Nat -> Bool} {held : Bool} {t e n : Nat} {l : List Nat} {ts : List TypeId} {vs : List Value} {ds : List (DataW H)} (hu : P.underlying t = some (.array n e)) (he : P.underlying e = some (.int .u8)) (hc : P.cellsOf e = 1) (hcn : P.cellsOf t = n) (hl : Bytes n l)
    (k : DataW.trodAll enc P W base sp held 8 ts vs = some (ds, [])) : DataW.trodAll enc P W base sp held 8 (t :: ts) (.agg (row8 l).toArray :: vs) = some (lit8 l :: ds, []) :=
  reads_cons (trod_row_fuel 6 hu he hc hcn hl) k
theorem reads_whole {H : Type} {enc : TypeId × Value -> H} {P : Program} {W : World} {fuel : Nat} {ts : List TypeId} {vs : List Value} {ds : List (DataW H)} (h : DataW.trodAll enc P W 0 (fun _ => true) true fuel ts vs = some (ds, [])) : DataW.whole enc P W ts [] false vs fuel = some (ds, [], []) := by
  unfold DataW.whole
  rw [h]
  rfl
end Go.Proofs.YtjalknpeecgllaaGreatDoor
end

section
namespace Go.Proofs.YtjalknpeecgllaaGreatDoor
open Go.ChangeShapes Go.WideShapes Go.ChangeAt Go.RowKit
theorem okWideB_u8 {P : Program} {w : World} {e : Nat} (he : P.underlying e = some (.int .u8)) (k : Nat) (hk : k < 256) : Cell.okWideB P w e (.int .u8 (k : Int)) = true := by
  unfold Cell.okWideB
  rw [he]
  simp only
  unfold Cell.okRefB
  rw [he]
  simp only
  unfold Cell.okB
  rw [he]
  simp [IntKind.min, IntKind.max, IntKind.signed, IntKind.bits]
  omega
theorem okWideB_row {P : Program} {w : World} {t e n : Nat} (hu : P.underlying t = some (.array n e)) (he : P.underlying e = some (.int .u8)) (hcn : P.cellsOf t = n) (hct : P.cellTypes P.depth t = some (List.replicate n e)) {l : List Nat} (hl : Bytes n l) :
    Value.okWideB P w t (.agg (row8 l).toArray) = true := by
  unfold Value.okWideB
  rw [hu]
  simp only [Bool.and_eq_true, beq_iff_eq]
  refine ⟨by rw [hcn, List.size_toArray, row8_len]; exact hl.1, ?_⟩
  unfold Cell.okWideRowB
  rw [hct]
  simp only [Bool.and_eq_true, beq_iff_eq, List.all_eq_true, List.mem_range, List.length_replicate, List.size_toArray, row8_len, hl.1]
  refine ⟨Nat.mod_self n, fun i hi => ?_⟩
  rw [row8_get l i (by rw [hl.1]; exact hi), Nat.mod_eq_of_lt hi, List.getElem?_replicate, if_pos hi]
  exact okWideB_u8 he _ (hl.2 i)
theorem okInput {P : Program} {w : World} {f : FuncId} {fn : Func} {args : Array Value} (hf : P.funcs[f]? = some fn) (h1 : (P.inits.idxOf? f).isNone = true) (h2 : (fn.body.isSome && !fn.ours && fn.nfree == 0 && args.size == fn.params.size) = true)
    (hall : ∀ (j : Nat) (t : TypeId) (v : Value), fn.params[j]? = some t -> args[j]? = some v -> Value.okWideB P w t v = true) : Input.okWideB P w f ⟨#[], args, []⟩ = true := by
  unfold Input.okWideB
  rw [hf]
  simp only [Bool.and_eq_true, List.all_eq_true, List.mem_range] at h2 ⊢
  refine ⟨⟨⟨fun o ho => by simp at ho, rfl⟩, h1⟩, h2, fun j hj => ?_⟩
  have hs : args.size = fn.params.size := by simpa using h2.2
  have e1 : fn.params[j]? = some (fn.params[j]'hj) := Array.getElem?_eq_getElem hj
  have e2 : args[j]? = some (args[j]'(by omega)) := Array.getElem?_eq_getElem (by omega)
  rw [e1, e2]
  exact hall j _ _ e1 e2
end Go.Proofs.YtjalknpeecgllaaGreatDoor
end

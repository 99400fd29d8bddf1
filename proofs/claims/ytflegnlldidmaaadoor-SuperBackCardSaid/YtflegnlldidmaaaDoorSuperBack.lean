/- SuperBack: a geometry that is laid is read as it was; a byte more, less, or another one, is none, or another geometry; and the law's closed case holds. No condition but that the listed table holds its constants when the call begins. -/
import Derived.Test.YtflegnlldidmaaaDoorRows
import Derived.Test.YtflegnlldidmaaaDoorSuAwake
import Derived.Test.YtflegnlldidmaaaDoorSuSum
import Derived.Test.YtflegnlldidmaaaDoorSuGet
import Derived.Test.YtflegnlldidmaaaDoorSuBackM
import Derived.Test.YtflegnlldidmaaaDoorWpOne
import Derived.Laws.BitsAllLaws
import Derived.Test.YtflegnlldidmaaaDoorShaC
import Derived.Test.YtflegnlldidmaaaDoorTie
import Derived.Test.YtflegnlldidmaaaDoorCards
import Derived.SevenTiedAt
import Derived.Test.YtflegnlldidmaaaDoorGeoArg
import Derived.WalkKit
import Derived.ProofKit
import Derived.OpenShut
import Derived.SizedLaws
import Derived.Carry
import Derived.Deep.DeepHandedRow
import Derived.Deep.DeepWitnessRowRef
namespace Go.Proofs.YtflegnlldidmaaaDoor.superBack
open Go.ChangeShapes Go.WideShapes Go.ChangeAt Go.RowKit
open SM SU
theorem own : ownKnob Tryd.prog.godebug = none := by kernel_rfl
set_option linter.unusedVariables false in
set_option maxHeartbeats 4000000 in
set_option maxRecDepth 100000 in
theorem walk (w : World) (ht : TabP w) (a0 b0 : Int) (w0 : (Lit.int .i64 a0).wf = true) (x0 : (Lit.int .i64 b0).wf = true) (a1 : Int) (w1 : (Lit.int .u16 a1).wf = true) (a2 : Int) (w2 : (Lit.int .u8 a2).wf = true) :
    Calls Tryd.prog 4 #[.agg #[.int .i64 a0, .int .i64 b0], .int .u16 a1, .int .u8 a2] w fun e w' => e = .returned (.bool true) ∧ Below w.heap.size w w' := by
  have ha1 : 0 ≤ a1 ∧ a1 ≤ 65535 := by simpa [Lit.wf, IntKind.min, IntKind.max, IntKind.signed, IntKind.bits] using w1
  have ha2 : 0 ≤ a2 ∧ a2 ≤ 255 := by simpa [Lit.wf, IntKind.min, IntKind.max, IntKind.signed, IntKind.bits] using w2
  obtain ⟨q, hq⟩ : ∃ q : Nat, a1 = (q : Int) := ⟨a1.toNat, by omega⟩
  subst hq
  obtain ⟨y, hy⟩ : ∃ y : Nat, a2 = (y : Int) := ⟨a2.toNat, by omega⟩
  subst hy
  have hy256 : y < 256 := by omega
  have HAW := Lib.hid (fun W => suawake_any W)
  have HTP := Lib.hid ht
  have X0' := Lib.hid (Blk.new w 23 [.int .i64 a0, .int .i64 b0] _ rfl)
  have W0' := Lib.hid ((Below.refl w.heap.size w).alloc (Nat.le_refl _) (.cells #[.int .i64 a0, .int .i64 b0] 23))
  have HPT := Lib.hid (fun W => suput_any a0 b0 W)
  clear ha1 ha2 w1 w2 w0 x0 ht
  show Calls Tryd.prog 4 #[.agg #[.int .i64 a0, .int .i64 b0], .int .u16 (q : Int), .int .u8 (y : Int)] w _
  go_enter Tryd.func4, Tryd.ntmps4
  go_upto_region 1 with (fail)
  obtain ⟨u0, hu0⟩ : ∃ x, x = w.alloc (.cells #[.int .i64 a0, .int .i64 b0] 23) := ⟨_, rfl⟩
  have X0 := Lib.hid (show Blk u0 w.heap.size 23 [.int .i64 a0, .int .i64 b0] by rw [hu0]; exact X0'.out)
  have W0 := Lib.hid (show Below w.heap.size w u0 by rw [hu0]; exact W0'.out)
  rw [← hu0]
  clear hu0 X0' W0'
  cases hm : may a0 b0 with
  | false =>
    obtain ⟨D0, hD0⟩ : ∃ D, D = row8 (List.replicate 32 0) := ⟨_, rfl⟩
    have hbu : Tryd.prog.built 31 [] = some D0.toArray := by rw [hD0]; exact builtSu
    have HSU := Lib.hid (fun W (hW : Below w.heap.size w W) => susum_any a0 b0 W (HTP.out.below hW))
    rw [show sum a0 b0 = List.replicate 32 0 by unfold sum; rw [hm]; rfl] at HSU
    have hss := fun w => run_eql_sum (bytes_zero 32) (bytes_zero 32) w
    simp only [decide_true] at hss
    rw [← hD0] at hss HSU
    rw [(put_no hm).1, (put_no hm).2] at HPT
    clear hD0 hm
    go_wp2_with ((fail_if_success (with_reducible show bodyPost _ _ _ _ _ _)); first
      | (refine wpList_load_mid rfl 23 (.tmp 3) rfl w.heap.size 0 rfl [.int .i64 a0, .int .i64 b0] _ X0.out.range Tryd.underlying23 rfl infoGeo ?_)
      | (go_at_call 6; (with_reducible refine (HPT.out u0).mono ?_); rintro e u1 ⟨v1, rfl, o1, bb⟩; have W1 := Lib.hid (W0.out.on bb); have X1 := Lib.hid (X0.out.below bb X0.out.lt); obtain ⟨va, vc, rfl, _⟩ := o1.rd.shape; clear o1 bb)
      | (refine wpList_wanted rfl (.agg #[.int .i64 a0, .int .i64 b0]) (ex_geo (x := .tmp 3) rfl rfl X1.out) ?_)
      | (go_at_call 8; (with_reducible refine (HSU.out u1 W1.out).mono ?_); rintro e u2 ⟨rfl, bb⟩; have W2 := Lib.hid (W1.out.on bb); have X2 := Lib.hid (X1.out.below bb X1.out.lt); clear bb)
      | (refine wpList_wanted rfl (.agg D0.toArray) (ex_build (t := 31) rfl (Eq.trans (b := Tryd.prog.built 31 []) (by kernel_rfl) hbu)) ?_)
      | (refine wpList_wanted rfl (.bool true) (ex_binOp (b := .eql) (t := 31) (x := .tmp 30) (y := .tmp 31) rfl rfl rfl (run_eqGuard_agg _ _ _ _ _ _ _ eqTypeS) (hss _)) ?_)
      | (go_at_call 10; (with_reducible refine (HAW.out u2).mono ?_); rintro e u3 ⟨rfl, bb⟩; have W3 := Lib.hid (W2.out.on bb); have X3 := Lib.hid (X2.out.below bb X2.out.lt); clear bb))
    go_ret
    exact ⟨rfl, W3.out⟩
  | true =>
    obtain ⟨c, p, rfl, rfl, h1c, h2c, h1p, h2p⟩ := may_nat hm
    obtain ⟨k, hk⟩ : ∃ k, k = q % 512 := ⟨_, rfl⟩
    have hk512 : k < 512 := by rw [hk]; exact Nat.mod_lt _ (by decide)
    obtain ⟨L, hL⟩ : ∃ L, L = laid c p := ⟨_, rfl⟩
    obtain ⟨z, hz⟩ : ∃ z, z = gb L k ^^^ y := ⟨_, rfl⟩
    obtain ⟨x, hx⟩ : ∃ x, x = gb L k := ⟨_, rfl⟩
    obtain ⟨T, hT⟩ : ∃ T, T = turn c p k y := ⟨_, rfl⟩
    have hTL : T = L.set k z := by rw [hT, hz, hL]; rfl
    have L512 := Lib.hid (show L.length = 512 by rw [hL]; exact laid_len c p)
    have L513 := Lib.hid (show (L ++ [0]).length = 513 by rw [List.length_append, L512.out]; rfl)
    have T512 := Lib.hid (show T.length = 512 by rw [hT]; exact turn_len c p k y)
    rw [(put_yes hm).1, (put_yes hm).2, ← hL] at HPT
    have HGL := Lib.hid (fun W v (hv : Rd W v L) => suget_any L v W hv)
    have hgl := got_yes (okB_laid hm)
    rw [(laid_cg (p := p) h2c).1, (laid_cg (p := p) h2c).2, ← hL] at hgl
    rw [hgl.1, hgl.2.1, hgl.2.2] at HGL
    have HGM := Lib.hid (fun W v (hv : Rd W v (L ++ [0])) => suget_any (L ++ [0]) v W hv)
    have hgm := got_no (okB_len (b := L ++ [0]) (by rw [List.length_append, L512.out]; decide))
    rw [hgm.1, hgm.2.1, hgm.2.2] at HGM
    have HGS := Lib.hid (fun W v (hv : Rd W v (L.take 511)) => suget_any (L.take 511) v W hv)
    have hgs := got_no (okB_len (b := L.take 511) (by rw [List.length_take, L512.out]; decide))
    rw [hgs.1, hgs.2.1, hgs.2.2] at HGS
    have HGT := Lib.hid (fun W v (hv : Rd W v T) => suget_any T v W hv)
    obtain ⟨Y1, hY1⟩ : ∃ x, x = SU.gC T := ⟨_, rfl⟩
    obtain ⟨Y2, hY2⟩ : ∃ x, x = SU.gP T := ⟨_, rfl⟩
    obtain ⟨J, hJ⟩ : ∃ x, x = ge T := ⟨_, rfl⟩
    rw [← hY1, ← hY2, ← hJ] at HGT
    -- the three ways: nothing is turned; what is turned is none; what is turned is another one
    have HW := Lib.hid (show (y = 0 ∧ J = 0 ∧ Y1 = (c : Int) ∧ Y2 = (p : Int)) ∨ (J = 4) ∨ (y ≠ 0 ∧ J = 0 ∧ ¬ (Y1 = (c : Int) ∧ Y2 = (p : Int)) ∧ 10 ≤ k ∧ k < 13) by
      rw [hJ, hY1, hY2]
      by_cases hy0 : y = 0
      · left
        rw [hT, hy0, turn_zero c p k hk512, ← hL]
        exact ⟨rfl, hgl.2.2, hgl.1, hgl.2.1⟩
      · right
        cases hok : okB T with
        | false => exact .inl (got_no hok).2.2
        | true =>
          right
          have g := got_yes hok
          rw [g.1, g.2.1, g.2.2]
          rw [hT] at hok ⊢
          obtain ⟨e1, e2, e3⟩ := turn_ok h2c hk512 hy0 hok
          exact ⟨hy0, rfl, fun h => e1 ⟨by omega, by omega⟩, e2, e3⟩)
    have HTL := Lib.hid hTL
    have HZ := Lib.hid hz
    have HX := Lib.hid hx
    have hbx : bits .xor .u8 (x : Int) (y : Int) = (z : Int) := by
      have hb : x < 256 := by rw [hx, hL]; unfold laid; exact padTo_byte _ _ (raw_byte c p (by omega)) k
      rw [hz, ← hx]
      exact u8_xor_nat x y hb hy256
    have hzb : z < 256 := by
      have hb : x < 256 := by rw [hx, hL]; unfold laid; exact padTo_byte _ _ (raw_byte c p (by omega)) k
      rw [hz, ← hx]; exact xor_byte hb hy256
    have hkq : (q : Int) % 512 = (k : Int) := by omega
    have hkq2 : (q : Int).tmod 512 = (k : Int) := by rw [Int.tmod_eq_emod_of_nonneg (by omega)]; exact hkq
    have hkt : ((k : Int)).toNat = k := Int.toNat_natCast k
    have hk0 : (0 : Int) ≤ (k : Int) := by omega
    have hk1 : (k : Int) < 512 := by omega
    clear hm hk hL hT hTL hz hx hgl hgm hgs hY1 hY2 hJ h1c h2c h1p h2p HTP
    go_upto_region 4 with ((fail_if_success (with_reducible show bodyPost _ _ _ _ _ _)); first
      | (refine wpList_load_mid rfl 23 (.tmp 3) rfl w.heap.size 0 rfl [.int .i64 (c : Int), .int .i64 (p : Int)] _ X0.out.range Tryd.underlying23 rfl infoGeo ?_)
      | (go_at_call 6; (with_reducible refine (HPT.out u0).mono ?_); rintro e u1 ⟨v1, rfl, o1, bb⟩; have W1 := Lib.hid (W0.out.on bb); have X1 := Lib.hid (X0.out.below bb X0.out.lt); obtain ⟨va, vc, rfl, hvc⟩ := o1.rd.shape; rw [L512.out] at o1 hvc ⊢; have V1 := Lib.hid o1.rd; clear o1 bb))
    clear W0 X0 HPT
    go_upto_region 7 with ((fail_if_success (with_reducible show bodyPost _ _ _ _ _ _)); first
      | (go_at_call 11; (with_reducible refine (HGL.out u1 _ V1.out).mono ?_); rintro e u2 ⟨rfl, bb⟩; have W2 := Lib.hid (W1.out.on bb); have X2 := Lib.hid (X1.out.below bb X1.out.lt); have V2 := Lib.hid (V1.out.below bb); clear bb)
      | (refine wpList_store_blk rfl 23 (.tmp 9) (.tmp 43) rfl u2.heap.size 0 [.int .i64 (c : Int), .int .i64 (p : Int)] rfl rfl 23 [.int .i64 0, .int .i64 0] (Blk.new u2 23 [.int .i64 0, .int .i64 0] _ rfl) (Nat.le_refl _) infoGeo (oneGeo _ _) ?_; intro u3 bq gq; rw [splice_all _ _ (by rfl)] at bq; have bb := alloc_turn (Below.refl _ _) gq; have Q3 := Lib.hid bq; have W3 := Lib.hid (W2.out.on bb); have X3 := Lib.hid (X2.out.below bb X2.out.lt); have V3 := Lib.hid (V2.out.below bb); clear bb bq gq))
    clear W1 X1 V1 W2 X2 V2
    have E3 := Lib.hid (own_empty u3 (b := u3.heap.size) rfl (base := u3.heap.size) (Nat.le_refl _))
    have F3 := Lib.hid ((Below.refl u3.heap.size u3).alloc (Nat.le_refl _) (.cells #[] 5))
    go_upto_region 8 with ((fail_if_success (with_reducible show bodyPost _ _ _ _ _ _)); first
      | (refine wpList_app rfl (.tmp 46) (.tmp 47) rfl u3.heap.size (.slice (some ⟨u3.heap.size, 0, none⟩) 0 0) (.slice va 512 vc) [] L rfl rfl E3.out (V3.out.below F3.out) (by rw [L512.out]; decide) F3.out.size ?_; intro v4 u4 o4 g4 k4; rw [List.nil_append] at o4; have O4 := Lib.hid o4; have F4 := Lib.hid (F3.out.grown g4 F3.out.size (fun g hg => Nat.le_of_eq (Option.some.inj hg))); clear o4 g4 k4)
      | (refine wpList_app rfl (.tmp 48) (.tmp 49) rfl u3.heap.size v4 (.slice (some ⟨u4.heap.size, 0, none⟩) 1 1) L [0] rfl rfl (O4.out.alloc _) (own_new u4 [0] (small_bytes (by decide)) (by decide) rfl (Nat.le_refl _)).rd (by rw [L512.out]; decide) (Nat.le_trans F4.out.size (by simp)) ?_; intro v5 u5 o5 g5 k5; have bb := ((F4.out.alloc F4.out.size (.cells #[.int .u8 0] 5)).grown g5 (Nat.le_trans F4.out.size (by simp)) (fun g hg => (O4.out.from g hg).1)); have W5 := Lib.hid (W3.out.on bb); have X5 := Lib.hid (X3.out.below bb X3.out.lt); have V5 := Lib.hid (V3.out.below bb); have Q5 := Lib.hid (Q3.out.below bb Q3.out.lt); obtain ⟨ta, tc, hsh, _⟩ := o5.rd.shape; rw [L513.out] at hsh; subst hsh; have O5 := Lib.hid o5.rd; clear bb o5 g5 k5)
      | (go_at_call 11; (with_reducible refine (HGM.out u5 _ O5.out).mono ?_); rintro e u6 ⟨rfl, bb⟩; have W6 := Lib.hid (W5.out.on bb); have X6 := Lib.hid (X5.out.below bb X5.out.lt); have V6 := Lib.hid (V5.out.below bb); have Q6 := Lib.hid (Q5.out.below bb Q5.out.lt); clear bb)
      | (refine wpList_store_blk rfl 23 (.tmp 11) (.tmp 52) rfl u6.heap.size 0 [.int .i64 0, .int .i64 0] rfl rfl 23 [.int .i64 0, .int .i64 0] (Blk.new u6 23 [.int .i64 0, .int .i64 0] _ rfl) (Nat.le_refl _) infoGeo (oneGeo _ _) ?_; intro u7 bq gq; rw [splice_all _ _ (by rfl)] at bq; have bb := alloc_turn (Below.refl _ _) gq; have W7 := Lib.hid (W6.out.on bb); have X7 := Lib.hid (X6.out.below bb X6.out.lt); have V7 := Lib.hid (V6.out.below bb); have Q7 := Lib.hid (Q6.out.below bb Q6.out.lt); clear bb bq gq))
    clear W3 X3 V3 Q3 W5 X5 V5 Q5 W6 X6 V6 Q6 E3 F3 O4 F4 O5
    have D7 := Lib.hid (V7.out.take 511 (by rw [L512.out]; decide))
    go_upto_region 9 with ((fail_if_success (with_reducible show bodyPost _ _ _ _ _ _)); first
      | (go_at_call 11; (with_reducible refine (HGS.out u7 _ D7.out).mono ?_); rintro e u8 ⟨rfl, bb⟩; have W8 := Lib.hid (W7.out.on bb); have X8 := Lib.hid (X7.out.below bb X7.out.lt); have V8 := Lib.hid (V7.out.below bb); have Q8 := Lib.hid (Q7.out.below bb Q7.out.lt); clear bb)
      | (refine wpList_store_blk rfl 23 (.tmp 13) (.tmp 58) rfl u8.heap.size 0 [.int .i64 0, .int .i64 0] rfl rfl 23 [.int .i64 0, .int .i64 0] (Blk.new u8 23 [.int .i64 0, .int .i64 0] _ rfl) (Nat.le_refl _) infoGeo (oneGeo _ _) ?_; intro u9 bq gq; rw [splice_all _ _ (by rfl)] at bq; have bb := alloc_turn (Below.refl _ _) gq; have W9 := Lib.hid (W8.out.on bb); have X9 := Lib.hid (X8.out.below bb X8.out.lt); have V9 := Lib.hid (V8.out.below bb); have Q9 := Lib.hid (Q8.out.below bb Q8.out.lt); clear bb bq gq))
    clear W7 X7 V7 Q7 W8 X8 V8 Q8 D7
    have E9 := Lib.hid (own_empty u9 (b := u9.heap.size) rfl (base := u9.heap.size) (Nat.le_refl _))
    have F9 := Lib.hid ((Below.refl u9.heap.size u9).alloc (Nat.le_refl _) (.cells #[] 5))
    go_upto_region 10 with ((fail_if_success (with_reducible show bodyPost _ _ _ _ _ _)); first
      | (refine wpList_app rfl (.tmp 60) (.tmp 61) rfl u9.heap.size (.slice (some ⟨u9.heap.size, 0, none⟩) 0 0) (.slice va 512 vc) [] L rfl rfl E9.out (V9.out.below F9.out) (by rw [L512.out]; decide) F9.out.size ?_; intro v10 u10 o10 g10 k10; rw [List.nil_append] at o10; have O10 := Lib.hid o10; have F10 := Lib.hid (F9.out.grown g10 F9.out.size (fun g hg => Nat.le_of_eq (Option.some.inj hg))); clear o10 g10 k10))
    obtain ⟨ra, rc, hsh, _⟩ := O10.out.rd.shape
    subst hsh
    obtain ⟨rb, rfl⟩ := own_at O10.out (by rw [L512.out]; decide)
    have hrb := (O10.out.from rb rfl).1
    have HRB := Lib.hid hrb
    have cx : u10.cell? ⟨rb, k, none⟩ = some (.int .u8 (x : Int)) := by
      have h := O10.out.cell rfl k (by rw [L512.out]; exact hk512)
      rw [← HX.out] at h; exact h
    have fx := O10.out.free rfl k
    have bb : Below u9.heap.size u9 (u10.setCell ⟨rb, k, none⟩ (.int .u8 (z : Int))) := F10.out.setCell hrb _
    have O11' := Lib.hid (show Own (u10.setCell ⟨rb, k, none⟩ (.int .u8 (z : Int))) u9.heap.size (.slice (some ⟨rb, 0, none⟩) L.length rc) T by rw [HTL.out]; exact O10.out.set k z hzb (by rw [L512.out]; exact hk512))
    rw [L512.out] at O11' ⊢
    have W11 := Lib.hid (W9.out.on bb); have X11 := Lib.hid (X9.out.below bb X9.out.lt); have V11 := Lib.hid (V9.out.below bb); have Q11 := Lib.hid (Q9.out.below bb Q9.out.lt)
    clear bb hrb W9 X9 V9 Q9 E9 F9 F10 O10
    go_upto_region 11 with (fail)
    obtain ⟨u11, hu11⟩ : ∃ x, x = u10.setCell ⟨rb, k, none⟩ (.int .u8 (z : Int)) := ⟨_, rfl⟩
    rw [← hu11] at W11 X11 V11 Q11 O11' ⊢
    have O11 := Lib.hid O11'.out.rd
    clear hu11 cx fx O11' HTL HZ HX hbx hkt hkq2
    go_upto_region 12 with ((fail_if_success (with_reducible show bodyPost _ _ _ _ _ _)); first
      | (go_at_call 11; (with_reducible refine (HGT.out u11 _ O11.out).mono ?_); rintro e u12 ⟨rfl, bb⟩; have W12 := Lib.hid (W11.out.on bb); have X12 := Lib.hid (X11.out.below bb X11.out.lt); have V12 := Lib.hid (V11.out.below bb); have Q12 := Lib.hid (Q11.out.below bb Q11.out.lt); clear bb)
      | (refine wpList_store_blk rfl 23 (.tmp 16) (.tmp 74) rfl u12.heap.size 0 [.int .i64 Y1, .int .i64 Y2] rfl rfl 23 [.int .i64 0, .int .i64 0] (Blk.new u12 23 [.int .i64 0, .int .i64 0] _ rfl) (Nat.le_refl _) infoGeo (oneGeo _ _) ?_; intro u13 bq gq; rw [splice_all _ _ (by rfl)] at bq; have bb := alloc_turn (Below.refl _ _) gq; have R13 := Lib.hid bq; have W13 := Lib.hid (W12.out.on bb); have X13 := Lib.hid (X12.out.below bb X12.out.lt); have V13 := Lib.hid (V12.out.below bb); have Q13 := Lib.hid (Q12.out.below bb Q12.out.lt); clear bb bq gq))
    clear W11 X11 V11 Q11 W12 X12 V12 Q12 O11
    have hxx : ∀ W, (binOp .eql 23 (.agg #[.int .i64 (c : Int), .int .i64 (p : Int)]) (.agg #[.int .i64 (c : Int), .int .i64 (p : Int)])).run Tryd.prog W = .ok (.bool true) W := fun W => by rw [run_eql_geo, decide_eq_true ⟨rfl, rfl⟩]
    rcases HW.out with ⟨hy0, hJ, h1, h2⟩ | hJ | ⟨hy0, hJ, hne, hk10, hk13⟩
    · subst hy0 hJ h1 h2
      clear HW
      go_wp2_with ((fail_if_success (with_reducible show bodyPost _ _ _ _ _ _)); first
        | (refine wpList_wanted rfl (.agg #[.int .i64 (c : Int), .int .i64 (p : Int)]) (ex_geo (x := .tmp 9) rfl rfl Q13.out) ?_)
        | (refine wpList_wanted rfl (.agg #[.int .i64 (c : Int), .int .i64 (p : Int)]) (ex_geo (x := .tmp 3) rfl rfl X13.out) ?_)
        | (refine wpList_wanted rfl (.bool true) (ex_binOp (b := .eql) (t := 23) (x := .tmp 79) (y := .tmp 80) rfl rfl rfl (run_eqGuard_agg _ _ _ _ _ _ _ eqTypeGeo) (hxx _)) ?_)
        | (refine wpList_wanted rfl (.agg #[.int .i64 (c : Int), .int .i64 (p : Int)]) (ex_geo (x := .tmp 16) rfl rfl R13.out) ?_)
        | (refine wpList_wanted rfl (.bool true) (ex_binOp (b := .eql) (t := 23) (x := .tmp 98) (y := .tmp 99) rfl rfl rfl (run_eqGuard_agg _ _ _ _ _ _ _ eqTypeGeo) (hxx _)) ?_)
        | (go_at_call 10; (with_reducible refine (HAW.out u13).mono ?_); rintro e u14 ⟨rfl, bb⟩; have W14 := Lib.hid (W13.out.on bb); clear bb))
      go_ret
      exact ⟨rfl, W14.out⟩
    · subst hJ
      clear HW
      go_wp2_with ((fail_if_success (with_reducible show bodyPost _ _ _ _ _ _)); first
        | (refine wpList_wanted rfl (.agg #[.int .i64 (c : Int), .int .i64 (p : Int)]) (ex_geo (x := .tmp 9) rfl rfl Q13.out) ?_)
        | (refine wpList_wanted rfl (.agg #[.int .i64 (c : Int), .int .i64 (p : Int)]) (ex_geo (x := .tmp 3) rfl rfl X13.out) ?_)
        | (refine wpList_wanted rfl (.bool true) (ex_binOp (b := .eql) (t := 23) (x := .tmp 79) (y := .tmp 80) rfl rfl rfl (run_eqGuard_agg _ _ _ _ _ _ _ eqTypeGeo) (hxx _)) ?_)
        | (go_at_call 10; (with_reducible refine (HAW.out u13).mono ?_); rintro e u14 ⟨rfl, bb⟩; have W14 := Lib.hid (W13.out.on bb); clear bb))
      go_ret
      exact ⟨rfl, W14.out⟩
    · subst hJ
      have hnn : ∀ W, (binOp .neq 23 (.agg #[.int .i64 Y1, .int .i64 Y2]) (.agg #[.int .i64 (c : Int), .int .i64 (p : Int)])).run Tryd.prog W = .ok (.bool true) W := fun W => by rw [run_neq_geo, decide_eq_false hne]; rfl
      have y1 : ((y : Int) == 0) = false := by simpa using hy0
      have y2 : ((y : Int) != 0) = true := by simpa using hy0
      have y3 : ¬ (y : Int) = 0 := by omega
      have k10 : (10 : Int) ≤ (k : Int) := by omega
      have k13 : (k : Int) < 13 := by omega
      clear HW hne hy0
      go_wp2_with ((fail_if_success (with_reducible show bodyPost _ _ _ _ _ _)); first
        | (refine wpList_wanted rfl (.agg #[.int .i64 (c : Int), .int .i64 (p : Int)]) (ex_geo (x := .tmp 9) rfl rfl Q13.out) ?_)
        | (refine wpList_wanted rfl (.agg #[.int .i64 (c : Int), .int .i64 (p : Int)]) (ex_geo (x := .tmp 3) rfl rfl X13.out) ?_)
        | (refine wpList_wanted rfl (.bool true) (ex_binOp (b := .eql) (t := 23) (x := .tmp 79) (y := .tmp 80) rfl rfl rfl (run_eqGuard_agg _ _ _ _ _ _ _ eqTypeGeo) (hxx _)) ?_)
        | (refine wpList_wanted rfl (.agg #[.int .i64 Y1, .int .i64 Y2]) (ex_geo (x := .tmp 16) rfl rfl R13.out) ?_)
        | (refine wpList_wanted rfl (.bool true) (ex_binOp (b := .neq) (t := 23) (x := .tmp 107) (y := .tmp 108) rfl rfl rfl (run_eqGuard_agg _ _ _ _ _ _ _ eqTypeGeo) (hnn _)) ?_)
        | (go_at_call 10; (with_reducible refine (HAW.out u13).mono ?_); rintro e u14 ⟨rfl, bb⟩; have W14 := Lib.hid (W13.out.on bb); clear bb))
      go_ret
      exact ⟨rfl, W14.out⟩
set_option maxRecDepth 100000 in
theorem reads (os : Os) {H : Type} (enc : TypeId × Value → H) : ∃ places, DataW.whole enc Tryd.prog ((World.doorLaid Tryd.prog 400 os).forCall (fun _ _ => 0) ⟨#[], #[.agg #[.int .i64 0, .int .i64 0], .int .u16 0, .int .u8 0], []⟩).memory Tryd.f4.params.toList Rows.superBackSpec.vars false (#[.agg #[.int .i64 0, .int .i64 0], .int .u16 0, .int .u8 0] : Array Value).toList 8 = some ([.agg [.lit (.int .i64 0), .lit (.int .i64 0)], .lit (.int .u16 0), .lit (.int .u8 0)], [], places) :=
  ⟨[], by kernel_rfl⟩
set_option linter.unusedVariables false in
set_option maxHeartbeats 1000000 in
set_option maxRecDepth 100000 in
theorem lifted (os : Os) (started : os.Started) (H : Type) (enc : TypeId × Value → H) (F : Stop.Interp) :
    ReturnsInHanded {} Tryd.checked os 4 .any ((OpenSpec.ofChange Rows.superBackSpec).preRow enc Tryd.prog Tryd.f4 Rows.superBackRow.domain false laidP) (((OpenSpec.ofChange Rows.superBackSpec).at F).post enc Tryd.prog Tryd.f4 false true false false) := by
  obtain ⟨places, hx⟩ := reads os enc
  refine returnsInHanded_of_row (C := Tryd.checked) (s := OpenSpec.ofChange Rows.superBackSpec) own started (by kernel_rfl) Tryd.func4
    (witness_row_atRef (enc := enc) (C := Tryd.checked) false (World.doorLaid Tryd.prog 400 os) #[.agg #[.int .i64 0, .int .i64 0], .int .u16 0, .int .u8 0] rfl (by kernel_rfl) (by kernel_rfl) (by kernel_rfl)
      (OpenSpec.preRow_of_cond 8 hx (by kernel_rfl) (fun k hk => by cases hk) (by kernel_rfl) (doorP_met os _))) ?_
  intro W base args ds gs before hval0 hW _ hcond hsz0 hL _ _
  have hsz : (DataW.weightsEach Tryd.prog (Tryd.f4.params.toList ++ Rows.superBackSpec.plain.varTypes Tryd.prog) (ds ++ gs)).all (· ≤ reachBytes) = true := hsz0
  clear hsz0
  have hval : ∀ (j : Nat) t v, Tryd.f4.params[j]? = some t → args[j]? = some v → Value.okWide Tryd.prog W .any base t v := hval0
  have hW' := hW
  obtain ⟨p, q, hA0, hV, rfl, _, _⟩ := hW
  have hA : DataW.TrodAll enc Tryd.prog W 0 (fun _ => true) true Tryd.f4.params.toList args.toList ds p := hA0
  rw [Tryd.params4] at hA hval hsz
  obtain ⟨v0, vs0, d0, ds0, p0, q0, hargs, rfl, rfl, g0, r0⟩ := trodAll_cons hA
  obtain ⟨v1, vs1, d1, ds1, p1, q1, rfl, rfl, rfl, g1, r1⟩ := trodAll_cons r0
  obtain ⟨v2, vs2, d2, ds2, p2, q2, rfl, rfl, rfl, g2, r2⟩ := trodAll_cons r1
  obtain ⟨rfl, rfl, rfl⟩ := trodAll_nil r2
  obtain rfl : args = #[v0, v1, v2] := by cases args; simp_all
  obtain ⟨rfl, rfl⟩ := trodVars_none hV
  obtain ⟨a0, b0, w0, x0, rfl, rfl, rfl⟩ := open_geo (hval 0 23 v0 rfl rfl) g0
  obtain ⟨a1, rfl, rfl, rfl, w1⟩ := open_int Tryd.underlying35 (hval 1 35 v1 rfl rfl) g1
  obtain ⟨a2, rfl, rfl, rfl, w2⟩ := open_int Tryd.underlying5 (hval 2 5 v2 rfl rfl) g2
  clear hA0 hval0
  have hlt := hW'.lt
  refine (walk W (tabP_of_laid hL) a0 b0 w0 x0 a1 w1 a2 w2).mono fun e W' ⟨he, hb⟩ => ?_
  subst he
  have hargs : DataW.TrodAll enc Tryd.prog W' 0 (fun b => decide (b < W.heap.size)) true _ _ _ _ := (trodAll_cons_mk (shut_geo w0 x0) (trodAll_cons_mk (shut_int Tryd.underlying35 w1) (trodAll_cons_mk (shut_int Tryd.underlying5 w2) trodAll_mk0)))
  simp only [List.append_nil] at hW' hargs
  exact ⟨_, rfl, post_law hW' (trodAll_cons_mk (shut_bool Tryd.underlying4 _) trodAll_mk0) hargs rfl hb⟩
theorem over : Rows.superBackRow.holds Tryd.pinned (OpenSpec.ofChange Rows.superBackSpec) :=
  OpenClaim.holds_of_cond 4 Tryd.f4 rfl rfl rfl rfl rfl rfl rfl ⟨rfl, rfl, rfl, rfl, rfl⟩ rfl rfl rfl rfl rfl (by kernel_rfl) Tryd.func4 (by kernel_rfl)
    (of_decide_eq_true (by kernel_rfl)) (by unfold Func.isWrapper; first | (rw [if_pos (by decide +kernel)]; kernel_rfl) | (rw [if_neg (by decide +kernel)]; exact ⟨rfl, rfl⟩))
    (fun os started H enc _ F => by rw [OpenClaim.pre_eq_preRow]; exact lifted os started H enc F)

/-- The given statement. -/
theorem proved : Rows.SuperBackCardSaid :=
  Claim7.holds_tied_plain_at .later [] _ _ _ _
    over (fun _ h => by cases h) (by kernel_rfl) (fun _ h => by cases h) superBack_row_tie rfl ⟨rfl, rfl⟩ (by kernel_rfl) rfl
    (fun f fn hf hfn => by
      obtain rfl : f = 4 := Option.some.inj ((show Tryd.prog.funcNamed "reliquary/reliquarylaw13.SuperBack" = some 4 by kernel_rfl).symm.trans hf) |>.symm
      obtain rfl : fn = Tryd.f4 := (Option.some.inj (Tryd.func4.symm.trans hfn)).symm
      exact ⟨by kernel_rfl, fun j t ht => by
        rw [Tryd.params4] at ht
        have hm : t ∈ [23, 35, 5] := by simpa using Array.mem_of_getElem? ht
        have hall : ([23, 35, 5].all fun u => !Tryd.prog.wantsStandIn u) = true := by kernel_rfl
        exact (show Tryd.prog.wantsStandIn t = false by simpa using List.all_eq_true.1 hall t hm)⟩)
    (by kernel_rfl)
end Go.Proofs.YtflegnlldidmaaaDoor.superBack

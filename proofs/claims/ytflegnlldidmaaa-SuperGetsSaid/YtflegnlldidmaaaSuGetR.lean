/- A geometry that is read out of bytes, by the document's answer: contract. Own work. -/
import Derived.Test.YtflegnlldidmaaaSuPutR
import Derived.Test.YtflegnlldidmaaaSuGetM
import Derived.Test.YtflegnlldidmaaaWpOne
import Derived.Test.YtflegnlldidmaaaResults
import Derived.Test.YtflegnlldidmaaaFillTo
import Derived.Test.YtflegnlldidmaaaMakeG
import Derived.BigRegion
import Derived.Deep.RegionWith
namespace Go.Proofs.Ytflegnlldidmaaa
open Go.ChangeShapes Go.WideShapes Go.ChangeAt Go.RowKit
open SU
set_option maxRecDepth 100000 in
set_option maxHeartbeats 2000000 in
theorem rsuget_any (b : List Nat) (v : Value) (w : World) (hv : Rd w v b) : Calls Try.prog 6 #[v] w fun e w' => e = .returned (.tuple #[.agg #[.int .i64 (gC b), .int .i64 (gP b)], .int .i64 (ge b)]) ∧ Below w.heap.size w w' := by
  obtain ⟨va, vc, rfl, hvc⟩ := hv.shape
  obtain ⟨bl, hbl⟩ : ∃ n, n = b.length := ⟨_, rfl⟩
  obtain ⟨E, hE⟩ : ∃ E : Ending, E = .returned (.tuple #[.agg #[.int .i64 (gC b), .int .i64 (gP b)], .int .i64 (ge b)]) := ⟨_, rfl⟩
  have HNO := Lib.hid (fun (h : okB b = false) => (show (Ending.returned (.tuple #[.agg [.int .i64 0, .int .i64 0].toArray, .int .i64 4]) : Ending) = E by rw [hE, (got_no h).1, (got_no h).2.1, (got_no h).2.2]))
  have HYES := Lib.hid (fun (h : okB b = true) => (show (Ending.returned (.tuple #[.agg [.int .i64 (cg b : Int), .int .i64 (pg b : Int)].toArray, .int .i64 0]) : Ending) = E by rw [hE, (got_yes h).1, (got_yes h).2.1, (got_yes h).2.2]))
  have W1 := Lib.hid ((Below.refl w.heap.size w).alloc (Nat.le_refl _) (.cells [Value.int .i64 0, .int .i64 0].toArray 24))
  have R1 := Lib.hid (Blk.new w 24 [.int .i64 0, .int .i64 0] _ rfl)
  have hz := zeroGeo
  have HBY := Lib.hid hv.byte
  have HV := Lib.hid hv
  have HBL := Lib.hid hbl
  rw [← hbl] at HV hvc ⊢
  rw [← hE]
  clear hv hbl hE
  by_cases hlen : bl = 512
  · subst hlen
    have hlz : ((512 : Nat) : Int) = 512 := rfl
    have h1 := HBY.out 10
    have h2 := HBY.out 11
    have cb : cg b < 65536 := by unfold cg; omega
    have pb : pg b < 256 := HBY.out 12
    have HOK := Lib.hid (show okB b = (may (cg b) (pg b) && decide (laid (cg b) (pg b) = b)) by
      unfold okB
      rw [Bool.eq_iff_iff, decide_eq_true_iff, Bool.and_eq_true, decide_eq_true_iff]
      exact ⟨fun h => h.2, fun h => ⟨HBL.out.symm, h⟩⟩)
    have HPT := Lib.hid (fun W => rsuput_any (cg b : Int) (pg b : Int) W)
    have HPY := Lib.hid (fun (h : may (cg b) (pg b) = true) => put_yes h)
    have HPN := Lib.hid (fun (h : may (cg b) (pg b) = false) => put_no h)
    have V1 := Lib.hid (HV.out.below W1.out)
    obtain ⟨ad, rfl, hb10⟩ := V1.out.at_ 10 (by rw [← HBL.out]; decide)
    obtain ⟨_, e11, hb11⟩ := V1.out.at_ 11 (by rw [← HBL.out]; decide)
    cases e11
    obtain ⟨_, e12, hb12⟩ := V1.out.at_ 12 (by rw [← HBL.out]; decide)
    cases e12
    have hor : bits .or .i64 ((gb b 10 : Int) * 256) (gb b 11 : Int) = (cg b : Int) := i64_or_byte _ _ h1 h2
    obtain ⟨c, hc⟩ : ∃ c, c = cg b := ⟨_, rfl⟩
    obtain ⟨p, hp⟩ : ∃ p, p = pg b := ⟨_, rfl⟩
    rw [← hc] at cb HOK HPT HYES HPY HPN hor
    rw [show gb b 12 = p from hp.symm] at hb12
    rw [← hp] at pb HOK HPT HYES HPY HPN
    obtain ⟨x, hx⟩ : ∃ x, x = gb b 10 := ⟨_, rfl⟩
    obtain ⟨y, hy⟩ : ∃ y, y = gb b 11 := ⟨_, rfl⟩
    rw [← hx] at hb10 hor h1
    rw [← hy] at hb11 hor h2
    have ax : IntKind.i64.wrap (x : Int) = (x : Int) := by rw [IntKind.wrap_i64]; omega
    have ay : IntKind.i64.wrap (y : Int) = (y : Int) := by rw [IntKind.wrap_i64]; omega
    have ap : IntKind.i64.wrap (p : Int) = (p : Int) := by rw [IntKind.wrap_i64]; omega
    have ax2 : IntKind.i64.wrap ((x : Int) * 256) = (x : Int) * 256 := by rw [IntKind.wrap_i64]; omega
    have hc10 : ∀ o, ((w.alloc (.cells #[.int .i64 0, .int .i64 0] 24)).alloc o).cell? ⟨ad.block, ad.off + 10, none⟩ = some (.int .u8 (x : Int)) := fun o => (cell_below hb10 ((Below.refl _ _).alloc (Nat.le_refl _) o))
    have hc11 : ∀ o, ((w.alloc (.cells #[.int .i64 0, .int .i64 0] 24)).alloc o).cell? ⟨ad.block, ad.off + 11, none⟩ = some (.int .u8 (y : Int)) := fun o => (cell_below hb11 ((Below.refl _ _).alloc (Nat.le_refl _) o))
    have hc12 : ∀ o, ((w.alloc (.cells #[.int .i64 0, .int .i64 0] 24)).alloc o).cell? ⟨ad.block, ad.off + 12, none⟩ = some (.int .u8 (p : Int)) := fun o => (cell_below hb12 ((Below.refl _ _).alloc (Nat.le_refl _) o))
    have hd10 : (w.alloc (.cells #[.int .i64 0, .int .i64 0] 24)).cell? ⟨ad.block, ad.off + 10, none⟩ = some (.int .u8 (x : Int)) := hb10
    have hd11 : (w.alloc (.cells #[.int .i64 0, .int .i64 0] 24)).cell? ⟨ad.block, ad.off + 11, none⟩ = some (.int .u8 (y : Int)) := hb11
    have hd12 : (w.alloc (.cells #[.int .i64 0, .int .i64 0] 24)).cell? ⟨ad.block, ad.off + 12, none⟩ = some (.int .u8 (p : Int)) := hb12
    clear hc hp hx hy hb10 hb11 hb12
    go_enter Try.func6, Try.ntmps6
    go_upto_region 3 with fail
    go_region
    obtain ⟨w6, hw6⟩ : ∃ x, x = ((w.alloc (.cells #[.int .i64 0, .int .i64 0] 24)).alloc (.cells #[.int .i64 (c : Int), .int .i64 (p : Int)] 24)).drew := ⟨_, rfl⟩
    have b6 := (Below.refl (w.alloc (.cells #[.int .i64 0, .int .i64 0] 24)).heap.size (w.alloc (.cells #[.int .i64 0, .int .i64 0] 24))).alloc (Nat.le_refl _) (.cells #[.int .i64 (c : Int), .int .i64 (p : Int)] 24)
    have G6 := Lib.hid (show Blk w6 (w.heap.size + 1) 24 [.int .i64 (c : Int), .int .i64 (p : Int)] by rw [hw6]; exact (Blk.new _ _ _ _ (by simp)).drew)
    have W6 := Lib.hid (show Below w.heap.size w w6 by rw [hw6]; exact (W1.out.on b6).on (Below.refl _ _).drew)
    have R6 := Lib.hid (show Blk w6 w.heap.size 24 [.int .i64 0, .int .i64 0] by rw [hw6]; exact (R1.out.below b6 R1.out.lt).drew)
    have V6 := Lib.hid (show Rd w6 (.slice (some ad) 512 vc) b by rw [hw6]; exact (V1.out.below b6).drew)
    rw [← hw6]
    clear hw6 b6 W1 R1 V1 hc10 hc11 hc12 hd10 hd11 hd12 hor
    cases hm : may (c : Int) (p : Int) with
    | false =>
      have HF := Lib.hid (HNO.out (by rw [HOK.out, hm]; rfl))
      have hpe := (HPN.out hm).2
      rw [hpe] at HPT
      clear hm hpe HOK HYES HNO HPY HPN
      go_wp2_with ((fail_if_success (with_reducible show bodyPost _ _ _ _ _ _)); first
        | (refine wpList_load_mid rfl 24 (.tmp 4) rfl (w.heap.size + 1) 0 rfl [.int .i64 (c : Int), .int .i64 (p : Int)] _ G6.out.range Try.underlying24 rfl infoGeo ?_)
        | (go_at_call 22; (with_reducible refine (HPT.out _).mono ?_); rintro e w7 ⟨v7, rfl, o7, b7⟩; have W7 := Lib.hid (W6.out.on b7); have R7 := Lib.hid (R6.out.below b7 R6.out.lt); have G7 := Lib.hid (G6.out.below b7 G6.out.lt); have V7 := Lib.hid (V6.out.below b7); obtain ⟨oa7, oc7, rfl, _⟩ := o7.rd.shape; have O7 := Lib.hid o7.rd; clear o7 b7)
        | (refine wpList_store_blk rfl 24 (.tmp 2) (.tmp 40) rfl w.heap.size 0 [.int .i64 0, .int .i64 0] rfl rfl 24 [.int .i64 0, .int .i64 0] R7.out (Nat.le_refl _) infoGeo (oneGeo _ _) ?_; intro w8 b8 g8; rw [splice_all _ _ (by rfl)] at b8; have R8 := Lib.hid b8; have W8 := Lib.hid (W7.out.grown g8 W7.out.size (fun g hg => Nat.le_of_eq (Option.some.inj hg))); clear b8 g8))
      refine bodyPost_ret (results_mid2 rfl _ _ w.heap.size [.int .i64 0, .int .i64 0] _ rfl R8.out.range Try.underlying24 rfl infoGeo) rfl ?_
      exact ⟨HF.out, W8.out⟩
    | true =>
      have hpe := HPY.out hm
      rw [hpe.1, hpe.2] at HPT
      have bPL : ∀ k, gb (laid c p) k < 256 := by
        intro k
        unfold laid
        apply padTo_byte
        intro j
        have := hpe
        exact raw_byte c p pb j
      obtain ⟨SL, hSL⟩ : ∃ S, S = bstr (laid c p) := ⟨_, rfl⟩
      obtain ⟨SB, hSB⟩ : ∃ S, S = bstr b := ⟨_, rfl⟩
      have HSL := Lib.hid hSL.symm
      have HSB := Lib.hid hSB.symm
      by_cases heq : laid c p = b
      · have HF := Lib.hid (HYES.out (by rw [HOK.out, hm, decide_eq_true heq]; rfl))
        have HNQ := Lib.hid (fun W => (show (binOp .neq 9 (.string SL) (.string SB)).run Try.prog W = .ok (.bool false) W by rw [run_neq_str, hSL, hSB, heq]; simp))
        clear hm hpe HOK HYES HNO HPY HPN heq hSL hSB bPL
        go_wp2_with ((fail_if_success (with_reducible show bodyPost _ _ _ _ _ _)); first
          | (refine wpList_load_mid rfl 24 (.tmp 4) rfl (w.heap.size + 1) 0 rfl [.int .i64 (c : Int), .int .i64 (p : Int)] _ G6.out.range Try.underlying24 rfl infoGeo ?_)
          | (go_at_call 22; (with_reducible refine (HPT.out _).mono ?_); rintro e w7 ⟨v7, rfl, o7, b7⟩; have W7 := Lib.hid (W6.out.on b7); have R7 := Lib.hid (R6.out.below b7 R6.out.lt); have G7 := Lib.hid (G6.out.below b7 G6.out.lt); have V7 := Lib.hid (V6.out.below b7); obtain ⟨oa7, oc7, rfl, _⟩ := o7.rd.shape; rw [laid_len] at o7 ⊢; have O7 := Lib.hid o7.rd; clear o7 b7)
          | (refine wpList_wanted rfl (.string SL) (ex_convert (x := .tmp 34) rfl rfl (by rw [← HSL.out]; exact O7.out.str)) ?_)
          | (refine wpList_wanted rfl (.string SB) (ex_convert (x := .tmp 36) rfl rfl (by rw [← HSB.out]; exact V7.out.str)) ?_)
          | (refine wpList_wanted rfl (.bool false) (ex_binOp (x := .tmp 35) (y := .tmp 37) (b := .neq) (t := 9) rfl rfl rfl (by go_simp) (HNQ.out _)) ?_)
          | (refine wpList_load_mid rfl 24 (.tmp 4) rfl (w.heap.size + 1) 0 rfl [.int .i64 (c : Int), .int .i64 (p : Int)] _ G7.out.range Try.underlying24 rfl infoGeo ?_)
          | (refine wpList_store_blk rfl 24 (.tmp 2) (.tmp 41) rfl w.heap.size 0 [.int .i64 (c : Int), .int .i64 (p : Int)] rfl rfl 24 [.int .i64 0, .int .i64 0] R7.out (Nat.le_refl _) infoGeo (oneGeo _ _) ?_; intro w8 b8 g8; rw [splice_all _ _ (by rfl)] at b8; have R8 := Lib.hid b8; have W8 := Lib.hid (W7.out.grown g8 W7.out.size (fun g hg => Nat.le_of_eq (Option.some.inj hg))); clear b8 g8))
        refine bodyPost_ret (results_mid2 rfl _ _ w.heap.size [.int .i64 (c : Int), .int .i64 (p : Int)] _ rfl R8.out.range Try.underlying24 rfl infoGeo) rfl ?_
        exact ⟨HF.out, W8.out⟩
      · have HF := Lib.hid (HNO.out (by rw [HOK.out, hm, decide_eq_false heq]; rfl))
        have HNQ := Lib.hid (fun W => (show (binOp .neq 9 (.string SL) (.string SB)).run Try.prog W = .ok (.bool true) W by rw [run_neq_str, hSL, hSB, decide_eq_false (fun e => heq ((bstr_iff bPL HBY.out).1 e))]; rfl))
        clear hm hpe HOK HYES HNO HPY HPN heq hSL hSB bPL
        go_wp2_with ((fail_if_success (with_reducible show bodyPost _ _ _ _ _ _)); first
          | (refine wpList_load_mid rfl 24 (.tmp 4) rfl (w.heap.size + 1) 0 rfl [.int .i64 (c : Int), .int .i64 (p : Int)] _ G6.out.range Try.underlying24 rfl infoGeo ?_)
          | (go_at_call 22; (with_reducible refine (HPT.out _).mono ?_); rintro e w7 ⟨v7, rfl, o7, b7⟩; have W7 := Lib.hid (W6.out.on b7); have R7 := Lib.hid (R6.out.below b7 R6.out.lt); have G7 := Lib.hid (G6.out.below b7 G6.out.lt); have V7 := Lib.hid (V6.out.below b7); obtain ⟨oa7, oc7, rfl, _⟩ := o7.rd.shape; rw [laid_len] at o7 ⊢; have O7 := Lib.hid o7.rd; clear o7 b7)
          | (refine wpList_wanted rfl (.string SL) (ex_convert (x := .tmp 34) rfl rfl (by rw [← HSL.out]; exact O7.out.str)) ?_)
          | (refine wpList_wanted rfl (.string SB) (ex_convert (x := .tmp 36) rfl rfl (by rw [← HSB.out]; exact V7.out.str)) ?_)
          | (refine wpList_wanted rfl (.bool true) (ex_binOp (x := .tmp 35) (y := .tmp 37) (b := .neq) (t := 9) rfl rfl rfl (by go_simp) (HNQ.out _)) ?_)
          | (refine wpList_store_blk rfl 24 (.tmp 2) (.tmp 40) rfl w.heap.size 0 [.int .i64 0, .int .i64 0] rfl rfl 24 [.int .i64 0, .int .i64 0] R7.out (Nat.le_refl _) infoGeo (oneGeo _ _) ?_; intro w8 b8 g8; rw [splice_all _ _ (by rfl)] at b8; have R8 := Lib.hid b8; have W8 := Lib.hid (W7.out.grown g8 W7.out.size (fun g hg => Nat.le_of_eq (Option.some.inj hg))); clear b8 g8))
        refine bodyPost_ret (results_mid2 rfl _ _ w.heap.size [.int .i64 0, .int .i64 0] _ rfl R8.out.range Try.underlying24 rfl infoGeo) rfl ?_
        exact ⟨HF.out, W8.out⟩
  · have HF := Lib.hid (HNO.out (by unfold okB; rw [decide_eq_false (fun h => hlen (HBL.out.trans h.1))]))
    have hl2 : ¬ ((bl : Int) = 512) := by omega
    have hl3 : ((bl : Int) == 512) = false := by simpa using hl2
    have hl4 : ((bl : Int) != 512) = true := by simpa using hl2
    go_enter Try.func6, Try.ntmps6
    go_wp2_with ((fail_if_success (with_reducible show bodyPost _ _ _ _ _ _)); (refine wpList_store_blk rfl 24 (.tmp 2) (.tmp 10) rfl w.heap.size 0 [.int .i64 0, .int .i64 0] rfl rfl 24 [.int .i64 0, .int .i64 0] R1.out (Nat.le_refl _) infoGeo (oneGeo _ _) ?_; intro w8 b8 g8; rw [splice_all _ _ (by rfl)] at b8; have R8 := Lib.hid b8; have W8 := Lib.hid (W1.out.grown g8 W1.out.size (fun g hg => Nat.le_of_eq (Option.some.inj hg))); clear b8 g8))
    refine bodyPost_ret (results_mid2 rfl _ _ w.heap.size [.int .i64 0, .int .i64 0] _ rfl R8.out.range Try.underlying24 rfl infoGeo) rfl ?_
    exact ⟨HF.out, W8.out⟩
end Go.Proofs.Ytflegnlldidmaaa

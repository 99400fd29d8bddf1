/- A geometry that is read out of bytes, by the program: contract. Own work. -/
import Derived.Test.YtflegnlldidmaaaDoorSuPut
import Derived.Test.YtflegnlldidmaaaDoorSuGetM
import Derived.Test.YtflegnlldidmaaaDoorRdrX
import Derived.Test.YtflegnlldidmaaaDoorBytesEq
import Derived.Test.YtflegnlldidmaaaDoorWpOne
import Derived.Test.YtflegnlldidmaaaDoorResults
import Derived.Test.YtflegnlldidmaaaDoorFillTo
namespace Go.Proofs.YtflegnlldidmaaaDoor
open Go.ChangeShapes Go.WideShapes Go.ChangeAt Go.RowKit
namespace SU
theorem rp_at {b : List Nat} {n m : Nat} (h : n + m ≤ b.length) : rpGot (b.drop n) 0 (m : Int) = (b.drop n).take m ∧ rpLeft (b.drop n) 0 (m : Int) = b.drop (n + m) ∧ rpErr (b.drop n) 0 (m : Int) = 0 := by
  have hk : lookP (m : Int) (b.drop n).length = 0 := by unfold lookP; rw [List.length_drop, if_neg (by omega), if_neg (by omega)]
  unfold rpGot rpLeft rpErr
  rw [if_pos ⟨rfl, hk⟩, if_pos ⟨rfl, hk⟩, if_pos rfl, Int.toNat_natCast, List.drop_drop]
  exact ⟨rfl, rfl, hk⟩
theorem num_one (x : Nat) : num [x] = x := by show numStep 0 x = x; unfold numStep; omega
theorem num_two (x y : Nat) (hx : x < 256) : num [x, y] = x * 256 + y := by show numStep (numStep 0 x) y = _; unfold numStep; omega
end SU
open SU
section
variable {N : Nat → Prop}
/-- The three reads of a first sector. -/
theorem rd_take (b : List Nat) (h : b.length = 512) (w : World) (rb : Nat) (hR : Rdr N w rb b 0) : Calls Tryd.prog 25 #[.pointer (some ⟨rb, 0, none⟩), .int .i64 10] w fun ev w' => (∃ v, ev = .returned v) ∧ Rdr N w' rb (b.drop 10) 0 ∧ w.grownBy w' (some rb) := by
  obtain ⟨_, h2, h3⟩ := rp_at (b := b) (n := 0) (m := 10) (by omega)
  have q := take_any w rb (b.drop 0) 0 ((10 : Nat) : Int) hR
  rw [h2, h3, Nat.zero_add] at q
  exact q.mono fun e w' hh => by
    obtain ⟨v, h1, _, h4, h5⟩ := hh
    exact ⟨⟨v, h1⟩, h4, h5⟩
theorem rd_u16 (b : List Nat) (h : b.length = 512) (w : World) (rb : Nat) (hR : Rdr N w rb (b.drop 10) 0) (hby : ∀ k, gb b k < 256) : Calls Tryd.prog 26 #[.pointer (some ⟨rb, 0, none⟩)] w fun ev w' => ev = .returned (.int .u16 (cg b : Nat)) ∧ Rdr N w' rb (b.drop 12) 0 ∧ w.grownBy w' (some rb) := by
  obtain ⟨h1, h2, h3⟩ := rp_at (b := b) (n := 10) (m := 2) (by omega)
  have q := u16_any w rb (b.drop 10) 0 hR
  rw [show ((2 : Int)) = ((2 : Nat) : Int) from rfl, h1, h2, h3, cut_two b 10 (by omega), num_two _ _ (hby 10)] at q
  exact q
theorem rd_u8 (b : List Nat) (h : b.length = 512) (w : World) (rb : Nat) (hR : Rdr N w rb (b.drop 12) 0) : Calls Tryd.prog 27 #[.pointer (some ⟨rb, 0, none⟩)] w fun ev w' => ev = .returned (.int .u8 (pg b : Nat)) ∧ w.grownBy w' (some rb) := by
  obtain ⟨h1, _, _⟩ := rp_at (b := b) (n := 12) (m := 1) (by omega)
  have q := u8_any w rb (b.drop 12) 0 hR
  rw [show ((1 : Int)) = ((1 : Nat) : Int) from rfl, h1, cut_one b 12 (by omega), num_one] at q
  exact q.mono fun e w' hh => ⟨hh.1, hh.2.2⟩
end
set_option maxRecDepth 100000 in
set_option maxHeartbeats 2000000 in
theorem suget_any (b : List Nat) (v : Value) (w : World) (hv : Rd w v b) : Calls Tryd.prog 11 #[v] w fun e w' => e = .returned (.tuple #[.agg #[.int .i64 (gC b), .int .i64 (gP b)], .int .i64 (ge b)]) ∧ Below w.heap.size w w' := by
  obtain ⟨va, vc, rfl, hvc⟩ := hv.shape
  obtain ⟨bl, hbl⟩ : ∃ n, n = b.length := ⟨_, rfl⟩
  obtain ⟨E, hE⟩ : ∃ E : Ending, E = .returned (.tuple #[.agg #[.int .i64 (gC b), .int .i64 (gP b)], .int .i64 (ge b)]) := ⟨_, rfl⟩
  have HNO := Lib.hid (fun (h : okB b = false) => (show (Ending.returned (.tuple #[.agg [.int .i64 0, .int .i64 0].toArray, .int .i64 4]) : Ending) = E by rw [hE, (got_no h).1, (got_no h).2.1, (got_no h).2.2]))
  have HYES := Lib.hid (fun (h : okB b = true) => (show (Ending.returned (.tuple #[.agg [.int .i64 (cg b : Int), .int .i64 (pg b : Int)].toArray, .int .i64 0]) : Ending) = E by rw [hE, (got_yes h).1, (got_yes h).2.1, (got_yes h).2.2]))
  have W1 := Lib.hid ((Below.refl w.heap.size w).alloc (Nat.le_refl _) (.cells [Value.int .i64 0, .int .i64 0].toArray 23))
  have R1 := Lib.hid (Blk.new w 23 [.int .i64 0, .int .i64 0] _ rfl)
  have hz := zeroGeo
  have HBY := Lib.hid hv.byte
  have HV := Lib.hid hv
  have HBL := Lib.hid hbl
  rw [← hbl] at HV hvc ⊢
  rw [← hE]
  clear hv hbl hE
  by_cases hlen : bl = 512
  · subst hlen
    have hlz : ((512 : Nat) : Int) = 512 := rfl
    have HN0 := Lib.hid (HV.out.old (by rw [← HBL.out]; decide))
    have HRD := Lib.hid (read_any _ _ _ (HV.out.below W1.out))
    have HTK := Lib.hid (fun N W rb (h : Rdr N W rb b 0) => rd_take b HBL.out.symm W rb h)
    have HU16 := Lib.hid (fun N W rb (h : Rdr N W rb (b.drop 10) 0) => rd_u16 b HBL.out.symm W rb h HBY.out)
    have HU8 := Lib.hid (fun N W rb (h : Rdr N W rb (b.drop 12) 0) => rd_u8 b HBL.out.symm W rb h)
    have cb : cg b < 65536 := by
      have h1 := HBY.out 10
      have h2 := HBY.out 11
      unfold cg; omega
    have pb : pg b < 256 := HBY.out 12
    have HOK := Lib.hid (show okB b = (may (cg b) (pg b) && decide (laid (cg b) (pg b) = b)) by
      unfold okB
      rw [Bool.eq_iff_iff, decide_eq_true_iff, Bool.and_eq_true, decide_eq_true_iff]
      exact ⟨fun h => h.2, fun h => ⟨HBL.out.symm, h⟩⟩)
    have HPT := Lib.hid (fun W => suput_any (cg b : Int) (pg b : Int) W)
    have HPY := Lib.hid (fun (h : may (cg b) (pg b) = true) => put_yes h)
    have HPN := Lib.hid (fun (h : may (cg b) (pg b) = false) => put_no h)
    obtain ⟨c, hc⟩ : ∃ c, c = cg b := ⟨_, rfl⟩
    obtain ⟨p, hp⟩ : ∃ p, p = pg b := ⟨_, rfl⟩
    rw [← hc] at HU16 cb HOK HPT HYES HPY HPN
    rw [← hp] at HU8 pb HOK HPT HYES HPY HPN
    have ac : IntKind.i64.wrap (c : Int) = (c : Int) := by rw [IntKind.wrap_i64]; omega
    have ap : IntKind.i64.wrap (p : Int) = (p : Int) := by rw [IntKind.wrap_i64]; omega
    clear hc hp
    go_enter Tryd.func11, Tryd.ntmps11
    go_upto_region 6 with (first
      | (go_at_call 24; (with_reducible refine HRD.out.mono ?_); rintro e w2 ⟨rb, rfl, r2, b2, l2⟩; have K2 := Lib.hid r2; have W2 := Lib.hid (W1.out.on b2); have R2 := Lib.hid (R1.out.below b2 R1.out.lt); have V2 := Lib.hid ((HV.out.below W1.out).below b2); have HRB := Lib.hid (show w.heap.size < rb by have := R1.out.lt; omega); clear r2 b2 l2)
      | (go_at_call 25; (with_reducible refine (HTK.out _ _ _ K2.out).mono ?_); rintro e w3 ⟨⟨y3, rfl⟩, k3, g3⟩; have K3 := Lib.hid k3; have W3 := Lib.hid (W2.out.grown g3 W2.out.size (fun g hg => by have := HRB.out; have := Option.some.inj hg; omega)); have R3 := Lib.hid (R2.out.grown g3 (fun e => by have := HRB.out; have := Option.some.inj e; omega)); have V3 := Lib.hid (V2.out.grown g3 (.inr (HN0.out rb (Nat.le_of_lt HRB.out)))); clear k3 g3)
      | (go_at_call 26; (with_reducible refine (HU16.out _ _ _ K3.out).mono ?_); rintro e w4 ⟨rfl, k4, g4⟩; have K4 := Lib.hid k4; have W4 := Lib.hid (W3.out.grown g4 W3.out.size (fun g hg => by have := HRB.out; have := Option.some.inj hg; omega)); have R4 := Lib.hid (R3.out.grown g4 (fun e => by have := HRB.out; have := Option.some.inj e; omega)); have V4 := Lib.hid (V3.out.grown g4 (.inr (HN0.out rb (Nat.le_of_lt HRB.out)))); clear k4 g4)
      | (go_at_call 27; (with_reducible refine (HU8.out _ _ _ K4.out).mono ?_); rintro e w5 ⟨rfl, g5⟩; have W5 := Lib.hid (W4.out.grown g5 W4.out.size (fun g hg => by have := HRB.out; have := Option.some.inj hg; omega)); have R5 := Lib.hid (R4.out.grown g5 (fun e => by have := HRB.out; have := Option.some.inj e; omega)); have V5 := Lib.hid (V4.out.grown g5 (.inr (HN0.out rb (Nat.le_of_lt HRB.out)))); clear g5))
    have b6 : Below w5.heap.size w5 (w5.alloc (.cells #[.int .i64 (c : Int), .int .i64 (p : Int)] 23)) := (Below.refl _ _).alloc (Nat.le_refl _) _
    have G6 := Lib.hid (Blk.new w5 23 [.int .i64 (c : Int), .int .i64 (p : Int)] _ rfl)
    have W6 := Lib.hid (W5.out.on b6)
    have R6 := Lib.hid (R5.out.below b6 R5.out.lt)
    have V6 := Lib.hid (V5.out.below b6)
    clear W1 R1 W2 R2 V2 W3 R3 V3 W4 R4 V4 W5 R5 V5 b6 K2 K3 K4 HRD HTK HU16 HU8
    cases hm : may (c : Int) (p : Int) with
    | false =>
      have HF := Lib.hid (HNO.out (by rw [HOK.out, hm]; rfl))
      have hpe := (HPN.out hm).2
      rw [hpe] at HPT
      clear hm hpe HOK HYES HNO HPY HPN
      go_wp2_with ((fail_if_success (with_reducible show bodyPost _ _ _ _ _ _)); first
        | (refine wpList_load_mid rfl 23 (.tmp 5) rfl w5.heap.size 0 rfl [.int .i64 (c : Int), .int .i64 (p : Int)] _ G6.out.range Tryd.underlying23 rfl infoGeo ?_)
        | (go_at_call 6; (with_reducible refine (HPT.out _).mono ?_); rintro e w7 ⟨v7, rfl, o7, b7⟩; have W7 := Lib.hid (W6.out.on b7); have R7 := Lib.hid (R6.out.below b7 R6.out.lt); have G7 := Lib.hid (G6.out.below b7 G6.out.lt); have V7 := Lib.hid (V6.out.below b7); obtain ⟨oa7, oc7, rfl, _⟩ := o7.rd.shape; have O7 := Lib.hid o7.rd; clear o7 b7)
        | (refine wpList_store_blk rfl 23 (.tmp 2) (.tmp 36) rfl w.heap.size 0 [.int .i64 0, .int .i64 0] rfl rfl 23 [.int .i64 0, .int .i64 0] R7.out (Nat.le_refl _) infoGeo (oneGeo _ _) ?_; intro w8 b8 g8; rw [splice_all _ _ (by rfl)] at b8; have R8 := Lib.hid b8; have W8 := Lib.hid (W7.out.grown g8 W7.out.size (fun g hg => Nat.le_of_eq (Option.some.inj hg))); clear b8 g8))
      refine bodyPost_ret (results_mid2 rfl _ _ w.heap.size [.int .i64 0, .int .i64 0] _ rfl R8.out.range Tryd.underlying23 rfl infoGeo) rfl ?_
      exact ⟨HF.out, W8.out⟩
    | true =>
      have hpe := HPY.out hm
      rw [hpe.1, hpe.2] at HPT
      by_cases heq : laid c p = b
      · have HF := Lib.hid (HYES.out (by rw [HOK.out, hm, decide_eq_true heq]; rfl))
        have HEQ := Lib.hid (decide_eq_true heq)
        clear hm hpe HOK HYES HNO HPY HPN heq
        go_wp2_with ((fail_if_success (with_reducible show bodyPost _ _ _ _ _ _)); first
          | (refine wpList_load_mid rfl 23 (.tmp 5) rfl w5.heap.size 0 rfl [.int .i64 (c : Int), .int .i64 (p : Int)] _ G6.out.range Tryd.underlying23 rfl infoGeo ?_)
          | (go_at_call 6; (with_reducible refine (HPT.out _).mono ?_); rintro e w7 ⟨v7, rfl, o7, b7⟩; have W7 := Lib.hid (W6.out.on b7); have R7 := Lib.hid (R6.out.below b7 R6.out.lt); have G7 := Lib.hid (G6.out.below b7 G6.out.lt); have V7 := Lib.hid (V6.out.below b7); obtain ⟨oa7, oc7, rfl, _⟩ := o7.rd.shape; rw [laid_len] at o7 ⊢; have EQ7 := Lib.hid (pequal_any _ _ (laid c p) b w7 o7.rd V7.out); clear o7 b7)
          | (go_at_call 28; rw [HEQ.out] at EQ7; (with_reducible refine EQ7.out.mono ?_); rintro e w9 ⟨rfl, e9⟩; subst e9)
          | (refine wpList_load_mid rfl 23 (.tmp 5) rfl w5.heap.size 0 rfl [.int .i64 (c : Int), .int .i64 (p : Int)] _ G7.out.range Tryd.underlying23 rfl infoGeo ?_)
          | (refine wpList_store_blk rfl 23 (.tmp 2) (.tmp 37) rfl w.heap.size 0 [.int .i64 (c : Int), .int .i64 (p : Int)] rfl rfl 23 [.int .i64 0, .int .i64 0] R7.out (Nat.le_refl _) infoGeo (oneGeo _ _) ?_; intro w8 b8 g8; rw [splice_all _ _ (by rfl)] at b8; have R8 := Lib.hid b8; have W8 := Lib.hid (W7.out.grown g8 W7.out.size (fun g hg => Nat.le_of_eq (Option.some.inj hg))); clear b8 g8))
        refine bodyPost_ret (results_mid2 rfl _ _ w.heap.size [.int .i64 (c : Int), .int .i64 (p : Int)] _ rfl R8.out.range Tryd.underlying23 rfl infoGeo) rfl ?_
        exact ⟨HF.out, W8.out⟩
      · have HF := Lib.hid (HNO.out (by rw [HOK.out, hm, decide_eq_false heq]; rfl))
        have HEQ := Lib.hid (decide_eq_false heq)
        clear hm hpe HOK HYES HNO HPY HPN heq
        go_wp2_with ((fail_if_success (with_reducible show bodyPost _ _ _ _ _ _)); first
          | (refine wpList_load_mid rfl 23 (.tmp 5) rfl w5.heap.size 0 rfl [.int .i64 (c : Int), .int .i64 (p : Int)] _ G6.out.range Tryd.underlying23 rfl infoGeo ?_)
          | (go_at_call 6; (with_reducible refine (HPT.out _).mono ?_); rintro e w7 ⟨v7, rfl, o7, b7⟩; have W7 := Lib.hid (W6.out.on b7); have R7 := Lib.hid (R6.out.below b7 R6.out.lt); have G7 := Lib.hid (G6.out.below b7 G6.out.lt); have V7 := Lib.hid (V6.out.below b7); obtain ⟨oa7, oc7, rfl, _⟩ := o7.rd.shape; rw [laid_len] at o7 ⊢; have EQ7 := Lib.hid (pequal_any _ _ (laid c p) b w7 o7.rd V7.out); clear o7 b7)
          | (go_at_call 28; rw [HEQ.out] at EQ7; (with_reducible refine EQ7.out.mono ?_); rintro e w9 ⟨rfl, e9⟩; subst e9)
          | (refine wpList_store_blk rfl 23 (.tmp 2) (.tmp 36) rfl w.heap.size 0 [.int .i64 0, .int .i64 0] rfl rfl 23 [.int .i64 0, .int .i64 0] R7.out (Nat.le_refl _) infoGeo (oneGeo _ _) ?_; intro w8 b8 g8; rw [splice_all _ _ (by rfl)] at b8; have R8 := Lib.hid b8; have W8 := Lib.hid (W7.out.grown g8 W7.out.size (fun g hg => Nat.le_of_eq (Option.some.inj hg))); clear b8 g8))
        refine bodyPost_ret (results_mid2 rfl _ _ w.heap.size [.int .i64 0, .int .i64 0] _ rfl R8.out.range Tryd.underlying23 rfl infoGeo) rfl ?_
        exact ⟨HF.out, W8.out⟩
  · have HF := Lib.hid (HNO.out (by unfold okB; rw [decide_eq_false (fun h => hlen (HBL.out.trans h.1))]))
    have hl2 : ¬ ((bl : Int) = 512) := by omega
    have hl3 : ((bl : Int) == 512) = false := by simpa using hl2
    have hl4 : ((bl : Int) != 512) = true := by simpa using hl2
    go_enter Tryd.func11, Tryd.ntmps11
    go_wp2_with ((fail_if_success (with_reducible show bodyPost _ _ _ _ _ _)); (refine wpList_store_blk rfl 23 (.tmp 2) (.tmp 11) rfl w.heap.size 0 [.int .i64 0, .int .i64 0] rfl rfl 23 [.int .i64 0, .int .i64 0] R1.out (Nat.le_refl _) infoGeo (oneGeo _ _) ?_; intro w8 b8 g8; rw [splice_all _ _ (by rfl)] at b8; have R8 := Lib.hid b8; have W8 := Lib.hid (W1.out.grown g8 W1.out.size (fun g hg => Nat.le_of_eq (Option.some.inj hg))); clear b8 g8))
    refine bodyPost_ret (results_mid2 rfl _ _ w.heap.size [.int .i64 0, .int .i64 0] _ rfl R8.out.range Tryd.underlying23 rfl infoGeo) rfl ?_
    exact ⟨HF.out, W8.out⟩
end Go.Proofs.YtflegnlldidmaaaDoor

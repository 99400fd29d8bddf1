/- The document's cell, and the laws' closed case: contracts. Own work. -/
import Derived.Test.YtglhlhflbomkoaaCellF
import Derived.Test.YtglhlhflbomkoaaResults
namespace Go.Proofs.Ytglhlhflbomkoaa
open Go.ChangeShapes Go.WideShapes Go.ChangeAt Go.RowKit
theorem zeroCellR (w : World) : (zeroValue 27).run Try.prog w = .ok (.agg #[.int .u64 0, .int .i64 0]) w := by kernel_rfl
theorem infoCellR : (Try.prog.info? 27).map (·.size) = some 2 := by kernel_rfl
theorem below2 (w : World) (o o' : Obj) : Below w.heap.size w ((w.alloc o).alloc o') := ((Below.refl _ _).alloc (Nat.le_refl _) o).alloc (by simp) o'
theorem rcraise_full (n r t : Nat) (w : World) (hn : n = 18446744073709551615) : Calls Try.prog 8 #[.agg #[.int .u64 (n : Int), .int .i64 (r : Int)], .int .u64 (t : Int)] w fun e w' => e = .returned (.tuple #[.agg #[.int .u64 ((n : Int)), .int .i64 ((r : Int))], .int .i64 42]) ∧ Below w.heap.size w w' := by
  have hz := zeroCellR
  have hN : (n : Int) = 18446744073709551615 := by omega
  rw [hN]
  clear hn hN
  go_enter Try.func8, Try.ntmps8
  go_wp2_with fail
  exact bodyPost_ret (results_mid2 rfl _ _ (w.heap.size + 1) [.int .u64 (18446744073709551615), .int .i64 ((r : Int))] _ rfl (rangeAt_at _ _ _ _ (by simp)) Try.underlying27 rfl infoCellR) rfl ⟨rfl, below2 w _ _⟩
theorem rcraise_zero (n r t : Nat) (w : World) (hn : n < 18446744073709551615) (ht : t = 0) : Calls Try.prog 8 #[.agg #[.int .u64 (n : Int), .int .i64 (r : Int)], .int .u64 (t : Int)] w fun e w' => e = .returned (.tuple #[.agg #[.int .u64 ((n : Int)), .int .i64 ((r : Int))], .int .i64 2]) ∧ Below w.heap.size w w' := by
  have hz := zeroCellR
  have hN : ¬ (n : Int) = 18446744073709551615 := by omega
  have hT : (t : Int) = 0 := by omega
  rw [hT]
  clear hn ht hT
  go_enter Try.func8, Try.ntmps8
  go_wp2_with fail
  exact bodyPost_ret (results_mid2 rfl _ _ (w.heap.size + 1) [.int .u64 ((n : Int)), .int .i64 ((r : Int))] _ rfl (rangeAt_at _ _ _ _ (by simp)) Try.underlying27 rfl infoCellR) rfl ⟨rfl, below2 w _ _⟩
theorem rcraise_not (n r t : Nat) (w : World) (hn : n < 18446744073709551615) (ht : t < 18446744073709551616) (h0 : t ≠ 0) (h1 : t ≠ n + 1) : Calls Try.prog 8 #[.agg #[.int .u64 (n : Int), .int .i64 (r : Int)], .int .u64 (t : Int)] w fun e w' => e = .returned (.tuple #[.agg #[.int .u64 ((n : Int)), .int .i64 ((r : Int))], .int .i64 2]) ∧ Below w.heap.size w w' := by
  have hz := zeroCellR
  have hN : ¬ (n : Int) = 18446744073709551615 := by omega
  have hT : ¬ (t : Int) = 0 := by omega
  have hw : IntKind.u64.wrap ((t : Int) - 1) = ((t - 1 : Nat) : Int) := by rw [IntKind.wrap_u64]; omega
  have hne : (((t - 1 : Nat) : Int) != (n : Int)) = true := by simp; omega
  have hD : ¬ ((t - 1 : Nat) : Int) = (n : Int) := by omega
  obtain ⟨q, hq⟩ : ∃ q, q = t - 1 := ⟨_, rfl⟩
  rw [← hq] at hw hne hD
  clear hn ht h0 h1 hq
  go_enter Try.func8, Try.ntmps8
  go_wp2_with fail
  exact bodyPost_ret (results_mid2 rfl _ _ (w.heap.size + 1) [.int .u64 ((n : Int)), .int .i64 ((r : Int))] _ rfl (rangeAt_at _ _ _ _ (by simp)) Try.underlying27 rfl infoCellR) rfl ⟨rfl, below2 w _ _⟩
theorem rcraise_ok (n r t : Nat) (w : World) (hn : n < 18446744073709551615) (hr : r < 9223372036854775807) (ht : t = n + 1) : Calls Try.prog 8 #[.agg #[.int .u64 (n : Int), .int .i64 (r : Int)], .int .u64 (t : Int)] w fun e w' => e = .returned (.tuple #[.agg #[.int .u64 ((t : Int)), .int .i64 (((r + 1 : Nat) : Int))], .int .i64 0]) ∧ Below w.heap.size w w' := by
  have hz := zeroCellR
  have hN : ¬ (n : Int) = 18446744073709551615 := by omega
  have hT : ¬ (t : Int) = 0 := by omega
  have hw : IntKind.u64.wrap ((t : Int) - 1) = (n : Int) := by rw [IntKind.wrap_u64]; omega
  have hv : IntKind.i64.wrap ((r : Int) + 1) = (r : Int) + 1 := by rw [IntKind.wrap_i64]; omega
  clear hn ht hr
  go_enter Try.func8, Try.ntmps8
  go_wp2_with fail
  exact bodyPost_ret (results_mid2 rfl _ _ (w.heap.size + 1) [.int .u64 ((t : Int)), .int .i64 ((r : Int) + 1)] _ rfl (rangeAt_at _ _ _ _ (by simp)) Try.underlying27 rfl infoCellR) rfl ⟨rfl, below2 w _ _⟩
/-- Raised by the call that made it: what lay ahead of it is as it was. -/
theorem craise_own {a w : World} {b n r : Nat} (t : Nat) (h : Ce w b n r) (hn : n < 18446744073709551615) (hr : r < 9223372036854775807) (ht : t = n + 1) (hb : Below a.heap.size a w) (hx : a.heap.size ≤ b) :
    Calls Try.prog 7 #[.pointer (some ⟨b, 0, none⟩), .int .u64 (t : Int)] w fun e w' => e = .returned (.int .i64 0) ∧ Ce w' b t (r + 1) ∧ w.grownBy w' (some b) ∧ Below a.heap.size a w' :=
  (craise_ok b n r t w h hn hr ht).mono fun e w' ⟨h1, h2, h3⟩ => ⟨h1, h2, h3, hb.grown h3 hb.size (fun k hk => by have : b = k := Option.some.inj hk; omega)⟩
set_option maxRecDepth 100000 in
set_option maxHeartbeats 1000000 in
theorem cawake_any (w : World) : Calls Try.prog 11 #[] w fun e w' => e = .returned (.bool true) ∧ Below w.heap.size w w' := by
  have HN := Lib.hid (show Calls Try.prog 6 #[.int .u64 5] w _ from cnew_ex 5 w)
  go_enter Try.func11, Try.ntmps11
  go_wp2_with (first
    | (go_at_call 6; refine HN.out.mono ?_; rintro e w2 ⟨b, hb, rfl, h2, b2⟩; have HB := Lib.hid hb; have B2 := Lib.hid b2; have HR := Lib.hid (show Calls Try.prog 7 #[.pointer (some ⟨b, 0, none⟩), .int .u64 6] w2 _ from craise_own 6 h2 (by omega) (by omega) rfl B2.out HB.out); clear hb h2 b2)
    | (go_at_call 7; (with_reducible refine HR.out.mono ?_); rintro e w3 ⟨rfl, h3, _, b3⟩; have H3 := Lib.hid h3; have B3 := Lib.hid b3; have HR2 := Lib.hid (show Calls Try.prog 7 #[.pointer (some ⟨b, 0, none⟩), .int .u64 6] w3 _ from craise_not b 6 1 6 w3 h3 (by omega) (by omega)); clear h3 b3 HR)
    | (go_at_call 7; (with_reducible refine HR2.out.mono ?_); rintro e w4 ⟨rfl, hq⟩; rw [hq]; clear hq w4 HR2; have HV := Lib.hid (show Calls Try.prog 9 #[.pointer (some ⟨b, 0, none⟩)] w3 fun e w' => e = .returned (.int .u64 6) ∧ w' = w3 from cvalue_any b 6 1 w3 H3.out))
    | (go_at_call 9; (with_reducible refine HV.out.mono ?_); rintro e w5 ⟨rfl, hq⟩; rw [hq]; clear hq w5 HV))
  go_ret
  exact ⟨rfl, B3.out⟩
end Go.Proofs.Ytglhlhflbomkoaa

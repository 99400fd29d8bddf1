/- The document's device by value: its steps, Sync, Beat, Fail: contracts. Own work. -/
import Derived.Test.YtipdcocliefppaaDevRefL
import Derived.Test.YtipdcocliefppaaResults
namespace Go.Proofs.Ytipdcocliefppaa
open Go.ChangeShapes Go.WideShapes Go.ChangeAt Go.RowKit
open DM
/-- The document's device as a row of cells; lv: its slice of loose writes. -/
def rdv (S : DS) (lv : Value) : List Value := [.int .i64 (S.most : Int), .string (bstr S.seen), .string (bstr S.safe), lv, .int .i64 (S.steps : Int), .bool S.down, .bool S.told, .int .i64 (S.after : Int), .bool S.done]
theorem zeroRd (w : World) : (zeroValue 29).run Try.prog w = .ok (.agg #[.int .i64 0, .string { data := #[] }, .string { data := #[] }, .slice none 0 0, .int .i64 0, .bool false, .bool false, .int .i64 0, .bool false]) w := by kernel_rfl
theorem infoRd : (Try.prog.info? 29).map (·.size) = some 9 := by kernel_rfl
theorem rstep_plain (d x : DS) (da xa : Option Addr) (dl dc xl xc : Nat) (w : World) (hx : x.steps < 9223372036854775807) (ht : d.told = false) :
    Calls Try.prog 48 #[.agg (rdv d (.slice da dl dc)).toArray, .agg (rdv x (.slice xa xl xc)).toArray] w fun e w' => e = .returned (.tuple #[.agg (rdv { x with steps := x.steps + 1 } (.slice xa xl xc)).toArray, .int .i64 0]) ∧ Below w.heap.size w w' := by
  have hz := zeroRd
  obtain ⟨m, a, b, l, s, dn, tl, af, dd⟩ := d
  obtain ⟨xm, xs1, xs2, xll, xs, xdn, xtl, xaf, xdo⟩ := x
  unfold rdv
  simp only at *
  subst ht
  obtain ⟨S1, h1⟩ : ∃ S, S = bstr a := ⟨_, rfl⟩
  obtain ⟨S2, h2⟩ : ∃ S, S = bstr b := ⟨_, rfl⟩
  obtain ⟨T1, h3⟩ : ∃ S, S = bstr xs1 := ⟨_, rfl⟩
  obtain ⟨T2, h4⟩ : ∃ S, S = bstr xs2 := ⟨_, rfl⟩
  rw [← h1, ← h2, ← h3, ← h4]
  clear h1 h2 h3 h4
  have hv : IntKind.i64.wrap ((xs : Int) + 1) = (xs : Int) + 1 := by rw [IntKind.wrap_i64]; omega
  go_enter Try.func48, Try.ntmps48
  go_wp2_with fail
  exact bodyPost_ret (results_mid2 rfl _ _ (w.heap.size + 1 + 1) [.int .i64 (xm : Int), .string T1, .string T2, .slice xa xl xc, .int .i64 ((xs : Int) + 1), .bool xdn, .bool xtl, .int .i64 (xaf : Int), .bool xdo] _ rfl (rangeAt_at _ _ _ _ (by simp)) Try.underlying29 rfl infoRd) rfl ⟨rfl, ((((Below.refl _ _).alloc (Nat.le_refl _) _).alloc (by simp) _).alloc (by simp; omega) _)⟩
theorem rstep_wait (d x : DS) (da xa : Option Addr) (dl dc xl xc : Nat) (w : World) (hx : x.steps < 9223372036854775807) (ht : d.told = true) (ha : 0 < d.after) (hxa : 0 < x.after) (hx2 : x.after ≤ 9223372036854775807) :
    Calls Try.prog 48 #[.agg (rdv d (.slice da dl dc)).toArray, .agg (rdv x (.slice xa xl xc)).toArray] w fun e w' => e = .returned (.tuple #[.agg (rdv { x with steps := x.steps + 1, after := x.after - 1 } (.slice xa xl xc)).toArray, .int .i64 0]) ∧ Below w.heap.size w w' := by
  have hz := zeroRd
  obtain ⟨m, a, b, l, s, dn, tl, af, dd⟩ := d
  obtain ⟨xm, xs1, xs2, xll, xs, xdn, xtl, xaf, xdo⟩ := x
  unfold rdv
  simp only at *
  subst ht
  obtain ⟨S1, h1⟩ : ∃ S, S = bstr a := ⟨_, rfl⟩
  obtain ⟨S2, h2⟩ : ∃ S, S = bstr b := ⟨_, rfl⟩
  obtain ⟨T1, h3⟩ : ∃ S, S = bstr xs1 := ⟨_, rfl⟩
  obtain ⟨T2, h4⟩ : ∃ S, S = bstr xs2 := ⟨_, rfl⟩
  rw [← h1, ← h2, ← h3, ← h4]
  clear h1 h2 h3 h4
  have hv : IntKind.i64.wrap ((xs : Int) + 1) = (xs : Int) + 1 := by rw [IntKind.wrap_i64]; omega
  have ha2 : (0 : Int) < (af : Int) := by omega
  obtain ⟨q, hq⟩ : ∃ q, q = xaf - 1 := ⟨_, rfl⟩
  have hv2 : IntKind.i64.wrap ((xaf : Int) - 1) = (xaf : Int) - 1 := by rw [IntKind.wrap_i64]; omega
  have hq2 : ((xaf - 1 : Nat) : Int) = (xaf : Int) - 1 := by omega
  rw [hq2]
  clear hq hq2
  go_enter Try.func48, Try.ntmps48
  go_wp2_with fail
  exact bodyPost_ret (results_mid2 rfl _ _ (w.heap.size + 1 + 1) [.int .i64 (xm : Int), .string T1, .string T2, .slice xa xl xc, .int .i64 ((xs : Int) + 1), .bool xdn, .bool xtl, .int .i64 ((xaf : Int) - 1), .bool xdo] _ rfl (rangeAt_at _ _ _ _ (by simp)) Try.underlying29 rfl infoRd) rfl ⟨rfl, ((((Below.refl _ _).alloc (Nat.le_refl _) _).alloc (by simp) _).alloc (by simp; omega) _)⟩
theorem rstep_down_true (d x : DS) (da xa : Option Addr) (dl dc xl xc : Nat) (w : World) (hx : d.steps < 9223372036854775807) (ht : d.told = true) (ha : d.after = 0) (hd : d.done = true) :
    Calls Try.prog 48 #[.agg (rdv d (.slice da dl dc)).toArray, .agg (rdv x (.slice xa xl xc)).toArray] w fun e w' => e = .returned (.tuple #[.agg (rdv { x with steps := d.steps + 1, down := true, told := false } (.slice xa xl xc)).toArray, .int .i64 20]) ∧ Below w.heap.size w w' := by
  have hz := zeroRd
  obtain ⟨m, a, b, l, s, dn, tl, af, dd⟩ := d
  obtain ⟨xm, xs1, xs2, xll, xs, xdn, xtl, xaf, xdo⟩ := x
  unfold rdv
  simp only at *
  subst ht
  subst hd
  subst ha
  obtain ⟨S1, h1⟩ : ∃ S, S = bstr a := ⟨_, rfl⟩
  obtain ⟨S2, h2⟩ : ∃ S, S = bstr b := ⟨_, rfl⟩
  obtain ⟨T1, h3⟩ : ∃ S, S = bstr xs1 := ⟨_, rfl⟩
  obtain ⟨T2, h4⟩ : ∃ S, S = bstr xs2 := ⟨_, rfl⟩
  rw [← h1, ← h2, ← h3, ← h4]
  clear h1 h2 h3 h4
  have hv : IntKind.i64.wrap ((s : Int) + 1) = (s : Int) + 1 := by rw [IntKind.wrap_i64]; omega
  go_enter Try.func48, Try.ntmps48
  go_wp2_with fail
  exact bodyPost_ret (results_mid2 rfl _ _ (w.heap.size + 1 + 1) [.int .i64 (xm : Int), .string T1, .string T2, .slice xa xl xc, .int .i64 ((s : Int) + 1), .bool true, .bool false, .int .i64 (xaf : Int), .bool xdo] _ rfl (World.rangeAt_alloc (rangeAt_at _ _ _ _ (by simp)) _) Try.underlying29 rfl infoRd) rfl ⟨rfl, (((((Below.refl _ _).alloc (Nat.le_refl _) _).alloc (by simp) _).alloc (by simp; omega) _).alloc (by simp; omega) _)⟩
theorem rstep_down_false (d x : DS) (da xa : Option Addr) (dl dc xl xc : Nat) (w : World) (hx : d.steps < 9223372036854775807) (ht : d.told = true) (ha : d.after = 0) (hd : d.done = false) :
    Calls Try.prog 48 #[.agg (rdv d (.slice da dl dc)).toArray, .agg (rdv x (.slice xa xl xc)).toArray] w fun e w' => e = .returned (.tuple #[.agg (rdv { d with steps := d.steps + 1, down := true, told := false } (.slice da dl dc)).toArray, .int .i64 20]) ∧ Below w.heap.size w w' := by
  have hz := zeroRd
  obtain ⟨m, a, b, l, s, dn, tl, af, dd⟩ := d
  obtain ⟨xm, xs1, xs2, xll, xs, xdn, xtl, xaf, xdo⟩ := x
  unfold rdv
  simp only at *
  subst ht
  subst hd
  subst ha
  obtain ⟨S1, h1⟩ : ∃ S, S = bstr a := ⟨_, rfl⟩
  obtain ⟨S2, h2⟩ : ∃ S, S = bstr b := ⟨_, rfl⟩
  obtain ⟨T1, h3⟩ : ∃ S, S = bstr xs1 := ⟨_, rfl⟩
  obtain ⟨T2, h4⟩ : ∃ S, S = bstr xs2 := ⟨_, rfl⟩
  rw [← h1, ← h2, ← h3, ← h4]
  clear h1 h2 h3 h4
  have hv : IntKind.i64.wrap ((s : Int) + 1) = (s : Int) + 1 := by rw [IntKind.wrap_i64]; omega
  go_enter Try.func48, Try.ntmps48
  go_wp2_with fail
  exact bodyPost_ret (results_mid2 rfl _ _ (w.heap.size + 1 + 1) [.int .i64 (m : Int), .string S1, .string S2, .slice da dl dc, .int .i64 ((s : Int) + 1), .bool true, .bool false, .int .i64 0, .bool false] _ rfl (World.rangeAt_alloc (rangeAt_at _ _ _ _ (by simp)) _) Try.underlying29 rfl infoRd) rfl ⟨rfl, (((((Below.refl _ _).alloc (Nat.le_refl _) _).alloc (by simp) _).alloc (by simp; omega) _).alloc (by simp; omega) _)⟩
end Go.Proofs.Ytipdcocliefppaa

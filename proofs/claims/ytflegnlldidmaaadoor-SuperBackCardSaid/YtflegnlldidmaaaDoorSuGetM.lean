/- What bytes tell of a geometry, on numbers. Own work. -/
import Derived.Test.YtflegnlldidmaaaDoorSuM
import Derived.Laws.BitsAllLaws
namespace Go.Proofs.YtflegnlldidmaaaDoor
open Go.ChangeShapes Go.WideShapes Go.ChangeAt Go.RowKit
namespace SU
/-- What bytes tell: how many clusters, how many sectors each; are they what is laid of that; what is read. -/
def cg (b : List Nat) : Nat := gb b 10 * 256 + gb b 11
def pg (b : List Nat) : Nat := gb b 12
def okB (b : List Nat) : Bool := decide (b.length = 512 ∧ may (cg b) (pg b) = true ∧ laid (cg b) (pg b) = b)
def gC (b : List Nat) : Int := if okB b = true then (cg b : Int) else 0
def gP (b : List Nat) : Int := if okB b = true then (pg b : Int) else 0
def ge (b : List Nat) : Int := if okB b = true then 0 else 4
theorem got_yes {b : List Nat} (h : okB b = true) : gC b = cg b ∧ gP b = pg b ∧ ge b = 0 := by unfold gC gP ge; rw [if_pos h, if_pos h, if_pos h]; exact ⟨rfl, rfl, rfl⟩
theorem got_no {b : List Nat} (h : okB b = false) : gC b = 0 ∧ gP b = 0 ∧ ge b = 4 := by unfold gC gP ge; rw [h]; exact ⟨rfl, rfl, rfl⟩
theorem cut_two (b : List Nat) (i : Nat) (h : i + 2 ≤ b.length) : (b.drop i).take 2 = [gb b i, gb b (i + 1)] := by
  apply bytes_ext (n := 2) (by rw [List.length_take, List.length_drop]; omega) rfl
  intro k hk
  rw [gb_take _ _ _ hk, gb_drop]
  match k, hk with
  | 0, _ => rfl
  | 1, _ => rfl
theorem cut_one (b : List Nat) (i : Nat) (h : i + 1 ≤ b.length) : (b.drop i).take 1 = [gb b i] := by
  apply bytes_ext (n := 1) (by rw [List.length_take, List.length_drop]; omega) rfl
  intro k hk
  rw [gb_take _ _ _ hk, gb_drop]
  match k, hk with
  | 0, _ => rfl
end SU
open SU
theorem i64_or_byte (a b : Nat) (ha : a < 256) (hb : b < 256) : bits .or .i64 ((a : Int) * 256) (b : Int) = ((a * 256 + b : Nat) : Int) := by
  have hx : a * 256 ||| b < 2 ^ 63 := Nat.or_lt_two_pow (by omega) (by omega)
  have e2 : a * 256 = 2 ^ 8 * a := by omega
  rw [show ((a : Int) * 256) = ((a * 256 : Nat) : Int) by omega]
  show IntKind.i64.wrap ((BitVec.ofInt 64 ((a * 256 : Nat) : Int) ||| BitVec.ofInt 64 (b : Int)).toNat : Int) = _
  rw [BitVec.toNat_or, ofInt_u64 (a * 256) (by omega), ofInt_u64 b (by omega), IntKind.wrap_i64]
  have e3 : a * 256 ||| b = a * 256 + b := by rw [e2, ← Nat.two_pow_add_eq_or_of_lt (by omega : b < 2 ^ 8)]
  rw [e3]
  omega
theorem zeroGeo (w : World) : (zeroValue 23).run Tryd.prog w = .ok (.agg #[.int .i64 0, .int .i64 0]) w := by kernel_rfl
end Go.Proofs.YtflegnlldidmaaaDoor

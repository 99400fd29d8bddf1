/- What the laws of wrap share: a known key. Own work. -/
import Derived.Test.YtbepchikngoknaaDoorWrapP
import Derived.Test.YtbepchikngoknaaDoorFactX
import Derived.Deep.DeepCutAuto
namespace Go.Proofs.YtbepchikngoknaaDoor
open Go.ChangeShapes Go.WideShapes Go.ChangeAt Go.RowKit
open SM AM WM
theorem eqTypeKW : Tryd.prog.eqGuardType Tryd.prog.depth 25 = false := by kernel_rfl
theorem eqTypeSW : Tryd.prog.eqGuardType Tryd.prog.depth 26 = false := by kernel_rfl
theorem size1W (w : World) : (sizeOf 5).run Tryd.prog w = .ok 1 w := by kernel_rfl
theorem run_eql_keyW {x y : List Nat} (hx : Bytes 32 x) (hy : Bytes 32 y) (w : World) : (binOp .eql 25 (.agg (row8 x).toArray) (.agg (row8 y).toArray)).run Tryd.prog w = .ok (.bool (decide (x = y))) w :=
  run_eql_row 25 5 32 Tryd.underlying25 Tryd.underlying5 size1W x y hx hy w
theorem run_neq_keyW {x y : List Nat} (hx : Bytes 32 x) (hy : Bytes 32 y) (w : World) : (binOp .neq 25 (.agg (row8 x).toArray) (.agg (row8 y).toArray)).run Tryd.prog w = .ok (.bool (!decide (x = y))) w := by
  have h := run_eql_keyW hx hy w
  simp only [binOp, Sem.run_bind, Sem.run_pure] at h ⊢
  cases q : (Op.equal 25 (.agg (row8 x).toArray) (.agg (row8 y).toArray)).run Tryd.prog w with
  | ok b w' =>
    rw [q] at h
    simp only [Result.andThen_ok, Result.ok.injEq, Value.bool.injEq] at h ⊢
    exact ⟨by rw [h.1], h.2⟩
  | _ => rw [q] at h; simp [Result.andThen] at h
theorem ex_build {o : Oper} {a : Act} {w : World} {t : TypeId} {parts : Array (Nat × Operand)} {cells : Array Value} (ho : o.op = .build t parts) (h : Tryd.prog.built t (parts.map fun (i, x) => (i, a.eval x)).toList = some cells) : (execOp a.eval o).run Tryd.prog w = .ok (.value (.agg cells)) w := by
  unfold execOp
  rw [ho]
  simp only [Sem.run_bind, run_build w t _ _ h, Result.andThen_ok, Sem.run_pure]
/-- Two variables made together, the first one of them stored into. -/
theorem two_a {w w' : World} {o o' : Obj} (g : ((w.alloc o).alloc o').grownBy w' (some w.heap.size)) : Below w.heap.size w w' :=
  (((Below.refl _ w).alloc (Nat.le_refl _) o).alloc (by simp) o').grown g (by simp; omega) (fun k hk => by have e : w.heap.size = k := Option.some.inj hk; omega)
theorem two_blk {w w' : World} {o : Obj} {t : TypeId} {D : List Value} (g : ((w.alloc o).alloc (.cells D.toArray t)).grownBy w' (some w.heap.size)) : Blk w' (w.heap.size + 1) t D :=
  (Blk.new (w.alloc o) t D (w.heap.size + 1) (by simp)).grown g (fun q => by have e : w.heap.size + 1 = w.heap.size := Option.some.inj q; omega)
namespace WM
def wkeyOf (n : Nat) : List Nat := [n] ++ List.replicate 31 0
theorem wkeyOf_bytes (n : Nat) (h : n < 256) : Bytes 32 (wkeyOf n) := ⟨rfl, small_bytes (by unfold wkeyOf; simp; omega)⟩
end WM
end Go.Proofs.YtbepchikngoknaaDoor

/- '==' on geometries; a geometry loaded. Own work. -/
import Derived.Test.YtflegnlldidmaaaDoorEqStep
import Derived.Test.YtflegnlldidmaaaDoorReg
namespace Go.Proofs.YtflegnlldidmaaaDoor
open Go.ChangeShapes Go.WideShapes Go.ChangeAt Go.RowKit
theorem fieldsGeo : ∃ f0 f1 : Field, (Tryd.prog.fieldsOf 23).toList = [f0, f1] ∧ (f0.name ≠ "_" ∧ f0.type = 3 ∧ f0.offset = 0) ∧ (f1.name ≠ "_" ∧ f1.type = 3 ∧ f1.offset = 1) := by
  simp only [Program.fieldsOf, Tryd.underlying23]
  exact ⟨_, _, rfl, ⟨by simp, rfl, rfl⟩, ⟨by simp, rfl, rfl⟩⟩
theorem equal_geo (w : World) (d : Nat) (C P X Y : Int) :
    (Op.equalIn (d + 3) 23 (.agg #[.int .i64 C, .int .i64 P]) (.agg #[.int .i64 X, .int .i64 Y])).run Tryd.prog w = .ok (decide (C = X ∧ P = Y)) w := by
  have p0 : ∀ a b : Int, (part 3 [Value.int .i64 a, .int .i64 b].toArray 0).run Tryd.prog w = .ok (.int .i64 a) w := fun a b => part_cell w _ .i64 (.inr Tryd.underlying3) _ 0 _ rfl
  have p1 : ∀ a b : Int, (part 3 [Value.int .i64 a, .int .i64 b].toArray 1).run Tryd.prog w = .ok (.int .i64 b) w := fun a b => part_cell w _ .i64 (.inr Tryd.underlying3) _ 1 _ rfl
  have q : ∀ a b : Int, (Op.equalIn (d + 2) 3 (.int .i64 a) (.int .i64 b)).run Tryd.prog w = .ok (decide (a = b)) w := fun a b => run_equalIn_int (P := Tryd.prog) w (d + 1) 3 .i64 .i64 a b Tryd.underlying3
  rw [run_equalIn_agg w (d + 2) 23 _ _ (by kernel_rfl) (by kernel_rfl)]
  obtain ⟨f0, f1, hL, h0, h1⟩ := fieldsGeo
  rw [hL, eqFields_step w (d + 2) _ _ f0 _ _ _ h0 _ _ _ (p0 C P) (p0 X Y) (q C X), eqFields_step w (d + 2) _ _ f1 _ _ _ h1 _ _ _ (p1 C P) (p1 X Y) (q P Y)]
  simp only [Op.eqFields, Sem.run_pure]
  by_cases e0 : C = X <;> by_cases e1 : P = Y <;> simp [e0, e1]
theorem run_eql_geo (w : World) (C P X Y : Int) : (binOp .eql 23 (.agg #[.int .i64 C, .int .i64 P]) (.agg #[.int .i64 X, .int .i64 Y])).run Tryd.prog w = .ok (.bool (decide (C = X ∧ P = Y))) w := by
  rw [run_eql_struct, equal_geo w 9997]; rfl
theorem eqTypeGeo : Tryd.prog.eqGuardType Tryd.prog.depth 23 = false := by kernel_rfl
theorem infoGeo : (Tryd.prog.info? 23).map (·.size) = some 2 := by kernel_rfl
theorem oneGeo (x y : Int) : ([Value.int .i64 x, .int .i64 y].toArray.all (·.oneCell')) = true := by simp [Value.oneCell']
/-- A geometry is loaded. -/
theorem ex_geo {o : Oper} {a : Act} {w : World} {x : Operand} {b : Nat} {C P : Int} (ho : o.op = .load 23 x) (hx : a.eval x = .pointer (some ⟨b, 0, none⟩)) (h : Blk w b 23 [.int .i64 C, .int .i64 P]) : (execOp a.eval o).run Tryd.prog w = .ok (.value (.agg #[.int .i64 C, .int .i64 P])) w := by
  unfold execOp
  simp only [ho, hx, Instr.loadAt, Instr.sureAddr, Sem.run_bind, Sem.run_pure, Result.andThen_ok, run_loadVar_mid w b 0 _ _ _ h.range Tryd.underlying23 rfl infoGeo]
end Go.Proofs.YtflegnlldidmaaaDoor

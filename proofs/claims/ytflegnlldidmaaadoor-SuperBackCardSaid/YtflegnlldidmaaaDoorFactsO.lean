/- What single operations do to values: fields, loads, lengths, the lesser of two, pieces of texts. Own work. -/
import Derived.Test.YtflegnlldidmaaaDoorReg
namespace Go.Proofs.YtflegnlldidmaaaDoor
open Go.ChangeShapes Go.WideShapes Go.ChangeAt Go.RowKit
section
variable {P : Program} {o : Oper} {a : Act} {w : World}
theorem ex_nilCheck {x : Operand} {p : Addr} (ho : o.op = .nilCheck x) (hx : a.eval x = .pointer (some p)) : (execOp a.eval o).run P w = .ok (.value (.pointer (some p))) w := by
  unfold execOp; rw [ho]; simp only [hx]; go_simp
theorem ex_fieldAddr {x : Operand} {t : TypeId} {p q : Addr} {f : Nat} (ho : o.op = .fieldAddr t x f) (hx : a.eval x = .pointer (some p)) (h : (Instr.fieldAt t (.pointer (some p)) f).run P w = .ok (.pointer (some q)) w) : (execOp a.eval o).run P w = .ok (.value (.pointer (some q))) w := by
  unfold execOp; rw [ho]; simp only [hx, Sem.run_bind, h, Result.andThen_ok, Sem.run_pure]
theorem ex_min {x y : Operand} {ts : Array TypeId} {k : IntKind} {u v : Int} (ho : o.op = .call { callee := .builtin .min, args := #[x, y], argTypes := ts }) (hx : a.eval x = .int k u) (hy : a.eval y = .int k v) : (execOp a.eval o).run P w = .ok (.value (.int k (min u v))) w := by
  have e : (if v < u then v else u) = min u v := by split <;> omega
  simp only [execOp, ho, resolve, invoke, builtin, Sem.run_bind, Sem.run_pure, Result.andThen_ok, List.map_toArray, List.map_cons, List.map_nil, hx, hy, run_min_int2, e]
theorem ex_max {x y : Operand} {ts : Array TypeId} {k : IntKind} {u v : Int} (ho : o.op = .call { callee := .builtin .max, args := #[x, y], argTypes := ts }) (hx : a.eval x = .int k u) (hy : a.eval y = .int k v) : (execOp a.eval o).run P w = .ok (.value (.int k (max u v))) w := by
  have e : (if u < v then v else u) = max u v := by split <;> omega
  simp only [execOp, ho, resolve, invoke, builtin, Sem.run_bind, Sem.run_pure, Result.andThen_ok, List.map_toArray, List.map_cons, List.map_nil, hx, hy, run_max_int2, e]
theorem ex_len_str {x : Operand} {ts : Array TypeId} {s : ByteArray} (ho : o.op = .call { callee := .builtin .len, args := #[x], argTypes := ts }) (hx : a.eval x = .string s) (hl : (Builtin.len_ ts o.type #[.string s]).run P w = .ok (.int .i64 (s.size : Int)) w) : (execOp a.eval o).run P w = .ok (.value (.int .i64 (s.size : Int))) w := by
  simp only [execOp, ho, resolve, invoke, builtin, Sem.run_bind, Sem.run_pure, Result.andThen_ok, List.map_toArray, List.map_cons, List.map_nil, hx, hl]
theorem ex_slice_str {x y z : Operand} {t : TypeId} {s : ByteArray} {p q : Nat} (hu : P.underlying t = some .string) (ho : o.op = .slice t x (some y) (some z) none) (hx : a.eval x = .string s) (hy : a.eval y = .int .i64 (p : Int)) (hz : a.eval z = .int .i64 (q : Int)) (h1 : p ≤ q) (h2 : q ≤ s.size) :
    (execOp a.eval o).run P w = .ok (.value (.string (s.extract p q))) w := by
  have c1 : (p : Int) ≤ (q : Int) := by omega
  have c2 : (q : Int) ≤ (s.size : Int) := by omega
  have h : (Instr.slice t (.string s) (some (.int .i64 (p : Int))) (some (.int .i64 (q : Int))) none).run P w = .ok (.string (s.extract p q)) w := by
    have c3 : (p : Int) ≤ (s.size : Int) := by omega
    simp [Instr.slice, run_underlying hu, Instr.sliceBounds, run_sliceBound, *]
  simp only [execOp, ho, hx, hy, hz, Option.map, Sem.run_bind, Sem.run_pure, run_sliceAt_string (P := P) (w := w) t _ _ _ _ hu, h, Result.andThen_ok]
end
end Go.Proofs.YtflegnlldidmaaaDoor

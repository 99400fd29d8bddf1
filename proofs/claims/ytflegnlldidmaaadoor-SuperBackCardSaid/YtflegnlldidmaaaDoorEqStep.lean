/- '==' on structs, one field after the other. Own work. -/
import Derived.Test.YtflegnlldidmaaaDoorMem
namespace Go.Proofs.YtflegnlldidmaaaDoor
open Go.ChangeShapes Go.WideShapes Go.ChangeAt Go.RowKit
theorem part_cell {P : Program} (w : World) (e : TypeId) (k : IntKind) (hu : P.underlying e = some .bool ∨ P.underlying e = some (.int k)) (cs : List Value) (o : Nat) (v : Value) (h : cs[o]? = some v) :
    (part e cs.toArray o).run P w = .ok v w := by
  rcases hu with hu | hu
  · simp [part, isAgg, run_underlying hu, h]
  · simp [part, isAgg, run_underlying hu, h]
/-- One field further. -/
theorem eqFields_step {P : Program} (w : World) (d : Nat) (xs ys : Array Value) (f : Field) (fs : List Field) (t o : Nat) (hf : f.name ≠ "_" ∧ f.type = t ∧ f.offset = o) (a b : Value) (r : Bool) (ha : (part t xs o).run P w = .ok a w) (hb : (part t ys o).run P w = .ok b w) (hr : (Op.equalIn d t a b).run P w = .ok r w) :
    (Op.eqFields d xs ys (f :: fs)).run P w = if r then (Op.eqFields d xs ys fs).run P w else .ok false w := by
  obtain ⟨hn, rfl, rfl⟩ := hf
  simp only [Op.eqFields, if_pos hn, Sem.run_bind, ha, hb, hr, Result.andThen_ok]
  cases r <;> simp
end Go.Proofs.YtflegnlldidmaaaDoor

/- That the witness's arguments are values of their types: part by part, a long array by a law. Own work. -/
import Derived.Test.YtmidbmihadhgdaaDoorReads
import Derived.WideWitness
namespace Go.Proofs.YtmidbmihadhgdaaDoor
open Go.ChangeShapes Go.WideShapes Go.ChangeAt Go.RowKit
theorem okWideB_u8 {P : Program} {w : World} {e : Nat} (he : P.underlying e = some (.int .u8)) (k : Nat) (hk : k < 256) : Cell.okWideB P w e (.int .u8 (k : Int)) = true := by
  unfold Cell.okWideB
  rw [he]
  simp only
  unfold Cell.okRefB
  rw [he]
  simp only
  unfold Cell.okB
  rw [he]
  simp [IntKind.min, IntKind.max, IntKind.signed, IntKind.bits]
  omega
theorem okWideB_row {P : Program} {w : World} {t e n : Nat} (hu : P.underlying t = some (.array n e)) (he : P.underlying e = some (.int .u8)) (hcn : P.cellsOf t = n) (hct : P.cellTypes P.depth t = some (List.replicate n e)) {l : List Nat} (hl : Bytes n l) :
    Value.okWideB P w t (.agg (row8 l).toArray) = true := by
  unfold Value.okWideB
  rw [hu]
  simp only [Bool.and_eq_true, beq_iff_eq]
  refine ⟨by rw [hcn, List.size_toArray, row8_len]; exact hl.1, ?_⟩
  unfold Cell.okWideRowB
  rw [hct]
  simp only [Bool.and_eq_true, beq_iff_eq, List.all_eq_true, List.mem_range, List.length_replicate, List.size_toArray, row8_len, hl.1]
  refine ⟨Nat.mod_self n, fun i hi => ?_⟩
  rw [row8_get l i (by rw [hl.1]; exact hi), Nat.mod_eq_of_lt hi, List.getElem?_replicate, if_pos hi]
  exact okWideB_u8 he _ (hl.2 i)
theorem okInput {P : Program} {w : World} {f : FuncId} {fn : Func} {args : Array Value} (hf : P.funcs[f]? = some fn) (h1 : (P.inits.idxOf? f).isNone = true) (h2 : (fn.body.isSome && !fn.ours && fn.nfree == 0 && args.size == fn.params.size) = true)
    (hall : ∀ (j : Nat) (t : TypeId) (v : Value), fn.params[j]? = some t → args[j]? = some v → Value.okWideB P w t v = true) : Input.okWideB P w f ⟨#[], args, []⟩ = true := by
  unfold Input.okWideB
  rw [hf]
  simp only [Bool.and_eq_true, List.all_eq_true, List.mem_range] at h2 ⊢
  refine ⟨⟨⟨fun o ho => by simp at ho, rfl⟩, h1⟩, h2, fun j hj => ?_⟩
  have hs : args.size = fn.params.size := by simpa using h2.2
  have e1 : fn.params[j]? = some (fn.params[j]'hj) := Array.getElem?_eq_getElem hj
  have e2 : args[j]? = some (args[j]'(by omega)) := Array.getElem?_eq_getElem (by omega)
  rw [e1, e2]
  exact hall j _ _ e1 e2
end Go.Proofs.YtmidbmihadhgdaaDoor

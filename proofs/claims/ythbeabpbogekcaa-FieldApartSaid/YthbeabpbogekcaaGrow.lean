/- Regions that draw their order, whose operations only read and whose callees may make memory of their own: one walk in the order of the text. Own work. -/
import Derived.Test.YthbeabpbogekcaaRow8
import Derived.BigQuiet
import Derived.Below
namespace Go.Proofs.Ythbeabpbogekcaa
open Go.ChangeShapes Go.WideShapes Go.ChangeAt Go.RowKit
/-- A later world in which all that was there is as it was. -/
def Later (w : World) : Type := { w' : World // Below w.heap.size w w' }
instance later_some (w : World) : Nonempty (Later w) := ⟨⟨w, Below.refl _ _⟩⟩
theorem Later.below {w : World} (s : Later w) : Below w.heap.size w s.val := s.2
theorem wp_region_later {P : Program} {id : Nat} {Q : Exit → Act → World → Prop} {a : Act} {w : World} {l : List Oper} (hm : P.follows .mixedOrders = true) (hB : Region.lexB .any l.toArray = true)
    (h : wpQuiet P l.toArray (fun w' => ∃ s : Later w, w' = s.val) (fun a' => ∀ s : Later w, Q .normal a' s.val) l a) : (Code.region id l.toArray true).wp P Q a w := by
  refine wp_region_quiet (C := fun w' => ∃ s : Later w, w' = s.val) hm hB ⟨⟨w.drew, (Below.refl _ _).drew⟩, rfl⟩ ?_
  have e : (fun a' => ∀ w', (∃ s : Later w, w' = s.val) → Q .normal a' w') = fun a' => ∀ s : Later w, Q .normal a' s.val := by
    funext a'; apply propext; exact ⟨fun h s => h _ ⟨s, rfl⟩, fun h w' ⟨s, hs⟩ => by subst hs; exact h s⟩
  rw [e]; simpa using h
theorem later_of {P : Program} {f : FuncId} {args : Array Value} {w : World} {s : Later w} {v : Value}
    (h : Calls P f args s.val fun e w' => e = .returned v ∧ Below s.val.heap.size s.val w') : Calls P f args s.val fun e w'' => e = .returned v ∧ ∃ s' : Later w, w'' = s'.val :=
  h.mono fun _ w' ⟨he, hb⟩ => ⟨he, ⟨w', s.below.trans (hb.mono s.below.size)⟩, rfl⟩
theorem later_same {P : Program} {f : FuncId} {args : Array Value} {w : World} {s : Later w} {v : Value}
    (h : Calls P f args s.val fun e w' => e = .returned v ∧ s.val = w') : Calls P f args s.val fun e w'' => e = .returned v ∧ ∃ s' : Later w, w'' = s'.val :=
  h.mono fun _ _ ⟨he, hb⟩ => ⟨he, s, hb.symm⟩
theorem later_row {w : World} {b : Nat} {t : TypeId} {vs : List Value} (h : Blk w b t vs) (s : Later w) : Blk s.val b t vs := h.below s.below h.lt
theorem quiet_row {P : Program} {ops : Array Oper} {Q : Act → Prop} {a : Act} {o : Oper} {rest : List Oper} {w : World} (hw : Region.wanted o (yielded ops a.tmps) = true) (ty : TypeId) (x : Operand) (ho : o.op = .load ty x)
    (b : Nat) (hx : a.eval x = .pointer (some ⟨b, 0, none⟩)) (cs : List Value) (t : TypeId) (hc : Blk w b t cs) (d : TypeDesc) (hu : P.underlying ty = some d) (hd : d.isRow = true) (hi : (P.info? ty).map (·.size) = some cs.length)
    (h : wpQuiet P ops (fun w' => ∃ s : Later w, w' = s.val) Q rest (a.put o.dst (.agg cs.toArray))) : wpQuiet P ops (fun w' => ∃ s : Later w, w' = s.val) Q (o :: rest) a := by
  refine wpQuiet_step fun K hK => ?_
  rw [if_pos hw]
  refine ⟨_, fun w' ⟨s, hs⟩ => ?_, hK _ h⟩
  subst hs
  have e := run_loadAt_mid (P := P) s.val b 0 ty cs d (later_row hc s).range hu hd hi
  unfold Oper.quietAt
  simp only [execOp, ho, hx, Sem.run_bind, e, Result.andThen_ok, Sem.run_pure, Oper.quietUpon, and_self]
end Go.Proofs.Ythbeabpbogekcaa

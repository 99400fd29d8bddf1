/- A region that draws its order within a round of a range over a function: whatever walks it outside walks it there too. Own work. -/
import Derived.Test.YtdiljngokbfpcaaDoorReg
import Derived.OrdersIn
import Derived.RangeFuncNested
namespace Go.Proofs.YtdiljngokbfpcaaDoor
open Go.RowKit
variable {P : Program} {r n : Nat} {Q : Exit → Act → World → Prop}
/-- The fence that lets all in, in a round of loop r. -/
abbrev roundF (r : Nat) : Fence := Fence.wide.inRound r
theorem rowsIn_round {row : String} {args : Array Value} {w : World} {R : Value → World → Prop} (h : Rows P row args w R) : RowsIn (roundF r) n P row args w R := fun c cs _ => by
  obtain ⟨v, w', hr, hs⟩ := h c cs
  exact ⟨v, w', hr, stepsIn_wide.2 hs⟩
theorem callsIn_round {f : FuncId} {args : Array Value} {w : World} {R : Ending → World → Prop} (h : Calls P f args w R) : CallsIn (roundF r) n P f args w R := CallsIn.inRound r (callsIn_wide.2 h)
theorem opIn_round {o : Oper} {a : Act} {w : World} {K : Act → World → Prop} (hd : ∀ c, o.op ≠ .defer c) (h : o.wp P a w K Q) : o.wpIn (roundF r) n P a w K Q := by
  refine ⟨fun _ _ => trivial, ?_⟩
  rw [Oper.semAt_eq _ _ _ hd]
  unfold Oper.wp at h
  generalize (execOp a.eval o).run P w = x at h ⊢
  cases x with
  | ok y w' =>
    cases y with
    | value v => exact h
    | skip => exact h
    | defer d => exact h
    | enter f args => exact ⟨fun e => absurd e (by simp [Fence.wide]), callsIn_round h⟩
    | row row args => exact ⟨fun e => absurd e (by simp [Fence.wide]), rowsIn_round h⟩
    | _ => exact h.elim
  | halt y w' => cases y <;> exact h
def noDeferB (ops : Array Oper) : Bool := ops.all fun o => match o.op with | .defer _ => false | _ => true
theorem noDefer {ops : Array Oper} (h : noDeferB ops = true) {i : Nat} {o : Oper} (ho : ops[i]? = some o) : ∀ c, o.op ≠ .defer c := by
  intro c e
  unfold noDeferB at h
  rw [Array.all_eq_true] at h
  obtain ⟨hi, e2⟩ := Array.getElem?_eq_some_iff.1 ho
  have := h i hi
  rw [e2, e] at this
  cases this
theorem anyIn_round {ops : Array Oper} (hd : noDeferB ops = true) (hq : ¬ LetsOut Q) : ∀ (k : Nat) (l : Array Bool) (a : Act) (w : World), wpAny P .any ops Q k l a w → wpAnyIn (roundF r) n P .any ops Q k l a w := by
  intro k
  induction k with
  | zero => intro l a w h; exact h
  | succ k ih =>
    intro l a w h
    refine ⟨h.1, fun i hi => ?_⟩
    have hx := h.2 i hi
    unfold wpOp at hx
    unfold wpOpIn
    cases ho : ops[i]? with
    | none => rw [ho] at hx; exact ih _ _ _ hx
    | some o =>
      rw [ho] at hx
      simp only at hx ⊢
      split
      · rename_i hw
        rw [if_pos hw] at hx
        rcases hx with q | ⟨_, q⟩
        · exact opIn_round (noDefer hd ho) (Oper.wp_mono (fun a w => ih _ a w) q)
        · exact absurd q hq
      · rename_i hw
        rw [if_neg hw] at hx
        exact ⟨fun _ _ => trivial, ih _ _ _ hx⟩
theorem wpIn_region_round {id : Nat} {ops : Array Oper} {a : Act} {w : World} (hm : P.follows .mixedOrders = true) (hd : noDeferB ops = true) (hq : ¬ LetsOut Q) (h : RegAny P ops Q a w) : (Code.region id ops true).wpIn (roundF r) n P Q a w :=
  wpIn_region_draw fun t => by
    simp only [Region.schedule, hm, Bool.true_or, if_true]
    exact wpAnyIn_sound ops.size t _ a _ (anyIn_round hd hq _ _ _ _ h)
theorem opsIn_round {ops : Array Oper} (hd : noDeferB ops = true) (hq : ¬ LetsOut Q) : ∀ (l : List Nat) (a : Act) (w : World), wpOps P ops Q l a w → wpOpsIn (roundF r) n P ops Q l a w
  | [], _, _, h => h
  | i :: l, a, w, h => by
    rw [wpOps_cons] at h
    rw [wpOpsIn_cons]
    unfold wpOp at h
    unfold wpOpIn
    cases ho : ops[i]? with
    | none => rw [ho] at h; exact opsIn_round hd hq l _ _ h
    | some o =>
      rw [ho] at h
      simp only at h ⊢
      split
      · rename_i hw
        rw [if_pos hw] at h
        rcases h with q | ⟨_, q⟩
        · exact opIn_round (noDefer hd ho) (Oper.wp_mono (fun a w => opsIn_round hd hq l a w) q)
        · exact absurd q hq
      · rename_i hw
        rw [if_neg hw] at h
        exact ⟨fun _ _ => trivial, opsIn_round hd hq l _ _ h⟩
/-- A region in order, within a round. -/
theorem wpIn_list_round {id : Nat} {ops : Array Oper} {a : Act} {w : World} (hd : noDeferB ops = true) (hq : ¬ LetsOut Q) (h : wpList P ops Q ops.toList a w) : (Code.region id ops false).wpIn (roundF r) n P Q a w :=
  wpIn_region (opsIn_round hd hq _ _ _ (by rw [List.range_eq_range', ← Array.length_toList, wpOps_eq_wpList ops.toList 0 (by simp)]; exact h))
end Go.Proofs.YtdiljngokbfpcaaDoor

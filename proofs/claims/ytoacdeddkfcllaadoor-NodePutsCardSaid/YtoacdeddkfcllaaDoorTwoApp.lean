/- Two pieces are made, in either order, and appended one after the other to a slice of the call's own, in a region that draws its order (FactsW): what holds meanwhile. i1, i3: the operations that make the pieces; i2, i4: those that append them. Own work. -/
import Derived.Test.YtoacdeddkfcllaaDoorSlZ
namespace Go.Proofs.YtoacdeddkfcllaaDoor
open Go.ChangeShapes Go.WideShapes Go.ChangeAt Go.RowKit
structure TwoA (i1 i2 i3 i4 : Nat) (w1 : World) (B : Nat) (ov : Value) (l x y : List Nat) (r : Told) (w : World) : Prop where
  grow : w1.grownBy w ov.ownBlock
  one : ∀ v, r i1 = some v → r i2 = none → Rd w v x ∧ ∀ g, v.ownBlock = some g → w1.heap.size ≤ g
  two : ∀ v, r i3 = some v → r i4 = none → Rd w v y ∧ ∀ g, v.ownBlock = some g → w1.heap.size ≤ g
  out0 : r i2 = none → Own w B ov l
  out1 : ∀ v, r i2 = some v → r i4 = none → Grew w1 B ov w v (l ++ x)
  out2 : ∀ v, r i4 = some v → Grew w1 B ov w v (l ++ x ++ y)
theorem Grew.mid {w1 w w' : World} {B : Nat} {ov v : Value} {m : List Nat} (h : Grew w1 B ov w v m) (k : Below w.heap.size w w') : Grew w1 B ov w' v m := ⟨h.own.below k, only_trans h.grow (grown_of_below k _), h.from_⟩
section
variable {i1 i2 i3 i4 : Nat} {w1 w w' : World} {B : Nat} {ov v : Value} {l x y : List Nat} {r : Told}
theorem TwoA.zero (h : w = w1) (o : Own w1 B ov l) : TwoA i1 i2 i3 i4 w1 B ov l x y (fun _ => none) w := by
  subst h
  exact ⟨World.grownBy.refl _ _, nofun, nofun, fun _ => o, nofun, nofun⟩
theorem TwoA.make1 (hd : i2 ≠ i1 ∧ i3 ≠ i1 ∧ i4 ≠ i1) (h : TwoA i1 i2 i3 i4 w1 B ov l x y r w) (h2 : r i2 = none) (h4 : r i4 = none) (o : Own w' w.heap.size v x) (k : Below w.heap.size w w') : TwoA i1 i2 i3 i4 w1 B ov l x y (r.set i1 v) w' := by
  have e2 : (r.set i1 v) i2 = none := (Told.set_ne hd.1).trans h2
  have e3 : (r.set i1 v) i3 = r i3 := Told.set_ne hd.2.1
  have e4 : (r.set i1 v) i4 = none := (Told.set_ne hd.2.2).trans h4
  refine ⟨only_trans h.grow (grown_of_below k _), fun z hz _ => ?_, fun z hz _ => ?_, fun _ => (h.out0 h2).below k, fun z hz => ?_, fun z hz => ?_⟩
  · rw [Told.set_same] at hz
    obtain rfl := Option.some.inj hz
    exact ⟨o.rd, fun g hg => by have := (o.from g hg).1; have := h.grow.size; omega⟩
  · rw [e3] at hz
    exact ⟨(h.two z hz h4).1.below k, (h.two z hz h4).2⟩
  · rw [e2] at hz; cases hz
  · rw [e4] at hz; cases hz
theorem TwoA.make2 (hd : i1 ≠ i3 ∧ i2 ≠ i3 ∧ i4 ≠ i3) (h : TwoA i1 i2 i3 i4 w1 B ov l x y r w) (h4 : r i4 = none) (o : Own w' w.heap.size v y) (k : Below w.heap.size w w') : TwoA i1 i2 i3 i4 w1 B ov l x y (r.set i3 v) w' := by
  have e1 : (r.set i3 v) i1 = r i1 := Told.set_ne hd.1
  have e2 : (r.set i3 v) i2 = r i2 := Told.set_ne hd.2.1
  have e4 : (r.set i3 v) i4 = none := (Told.set_ne hd.2.2).trans h4
  refine ⟨only_trans h.grow (grown_of_below k _), fun z hz hz2 => ?_, fun z hz _ => ?_, fun hz => (h.out0 (e2 ▸ hz)).below k, fun z hz _ => (h.out1 z (e2 ▸ hz) h4).mid k, fun z hz => ?_⟩
  · rw [e1] at hz
    rw [e2] at hz2
    exact ⟨(h.one z hz hz2).1.below k, (h.one z hz hz2).2⟩
  · rw [Told.set_same] at hz
    obtain rfl := Option.some.inj hz
    exact ⟨o.rd, fun g hg => by have := (o.from g hg).1; have := h.grow.size; omega⟩
  · rw [e4] at hz; cases hz
theorem TwoA.first (hd : i3 ≠ i2 ∧ i4 ≠ i2) (h : TwoA i1 i2 i3 i4 w1 B ov l x y r w) (h4 : r i4 = none) (hold : ∀ g, ov.ownBlock = some g → g < w1.heap.size) (o : Own w' B v (l ++ x)) (g : w.grownBy w' ov.ownBlock) (k : v.ownBlock = ov.ownBlock ∨ v.ownBlock = some w.heap.size) : TwoA i1 i2 i3 i4 w1 B ov l x y (r.set i2 v) w' := by
  have e3 : (r.set i2 v) i3 = r i3 := Told.set_ne hd.1
  have e4 : (r.set i2 v) i4 = none := (Told.set_ne hd.2).trans h4
  refine ⟨only_trans h.grow g, fun z _ hz => ?_, fun z hz _ => ?_, fun hz => ?_, fun z hz _ => ?_, fun z hz => ?_⟩
  · rw [Told.set_same] at hz; cases hz
  · rw [e3] at hz
    obtain ⟨hr, hn⟩ := h.two z hz h4
    refine ⟨hr.grown g ?_, hn⟩
    cases hyb : z.ownBlock with
    | none => exact .inl rfl
    | some j => exact .inr fun e => by have h1 := hold j e.symm; have h2 := hn j hyb; omega
  · rw [Told.set_same] at hz; cases hz
  · rw [Told.set_same] at hz
    obtain rfl := Option.some.inj hz
    exact ⟨o, only_trans h.grow g, fun q e => by
      rcases k with z | z
      · exact .inl (z ▸ e)
      · right; rw [z] at e; have := Option.some.inj e; have := h.grow.size; omega⟩
  · rw [e4] at hz; cases hz
theorem TwoA.second (hd : i2 ≠ i4) {v0 : Value} (h : TwoA i1 i2 i3 i4 w1 B ov l x y r w) (h2 : r i2 = some v0) (h4 : r i4 = none) (o : Own w' B v (l ++ x ++ y)) (g : w.grownBy w' v0.ownBlock) (k : v.ownBlock = v0.ownBlock ∨ v.ownBlock = some w.heap.size) : TwoA i1 i2 i3 i4 w1 B ov l x y (r.set i4 v) w' := by
  have e2 : (r.set i4 v) i2 = r i2 := Told.set_ne hd
  have hn := (h.out1 v0 h2 h4).next o g k
  refine ⟨hn.grow, fun z _ hz => ?_, fun z _ hz => ?_, fun hz => ?_, fun z _ hz => ?_, fun z hz => ?_⟩
  · rw [e2, h2] at hz; cases hz
  · rw [Told.set_same] at hz; cases hz
  · rw [e2, h2] at hz; cases hz
  · rw [Told.set_same] at hz; cases hz
  · rw [Told.set_same] at hz
    obtain rfl := Option.some.inj hz
    exact hn
end
end Go.Proofs.YtoacdeddkfcllaaDoor

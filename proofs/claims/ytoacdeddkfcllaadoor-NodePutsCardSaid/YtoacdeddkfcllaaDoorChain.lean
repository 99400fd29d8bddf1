/- Pieces appended one after another to a slice of the call's own, in a region that draws its order (FactsW): some are made in the region (by the operation mk k, before the k-th append, in whatever order), the others stand in older memory. app k: the operation that appends the k-th piece. Own work. -/
import Derived.Test.YtoacdeddkfcllaaDoorTwoApp
namespace Go.Proofs.YtoacdeddkfcllaaDoor
open Go.ChangeShapes Go.WideShapes Go.ChangeAt Go.RowKit
/-- The first k + 1 pieces. -/
def upTo (pc : Nat → List Nat) : Nat → List Nat
  | 0 => pc 0
  | k + 1 => upTo pc k ++ pc (k + 1)
theorem told_ne {r : Told} {i : Nat} (h : ∃ u, r i = some u) : r i ≠ none := fun e => by obtain ⟨u, hu⟩ := h; rw [hu] at e; cases e
structure Chain (n : Nat) (app : Nat → Nat) (mk : Nat → Option Nat) (pc : Nat → List Nat) (w1 : World) (B : Nat) (ov : Value) (l : List Nat) (r : Told) (w : World) : Prop where
  grow : w1.grownBy w ov.ownBlock
  made : ∀ k m, k < n → mk k = some m → ∀ v, r m = some v → r (app k) = none → Rd w v (pc k) ∧ ∀ g, v.ownBlock = some g → w1.heap.size ≤ g
  out0 : r (app 0) = none → Own w B ov l
  out : ∀ k, k < n → ∀ v, r (app k) = some v → (k + 1 = n ∨ r (app (k + 1)) = none) → Grew w1 B ov w v (l ++ upTo pc k)
section
variable {n : Nat} {app : Nat → Nat} {mk : Nat → Option Nat} {pc : Nat → List Nat} {w1 w w' : World} {B : Nat} {ov v : Value} {l : List Nat} {r : Told}
theorem Chain.zero (h : w = w1) (o : Own w1 B ov l) : Chain n app mk pc w1 B ov l (fun _ => none) w := by
  subst h
  exact ⟨World.grownBy.refl _ _, nofun, fun _ => o, nofun⟩
/-- The k-th piece is made. -/
theorem Chain.make (k m : Nat) (hm : mk k = some m) (hd : ∀ j, j < n → app j ≠ m) (hu : ∀ j, j < n → mk j = some m → j = k) (hn : 0 < n) (h : Chain n app mk pc w1 B ov l r w) (o : Own w' w.heap.size v (pc k)) (kb : Below w.heap.size w w') : Chain n app mk pc w1 B ov l (r.set m v) w' := by
  have ea : ∀ j, j < n → (r.set m v) (app j) = r (app j) := fun j hj => Told.set_ne (hd j hj)
  refine ⟨only_trans h.grow (grown_of_below kb _), fun j i hj hi z hz hz2 => ?_, fun hz => (h.out0 (by rw [← ea 0 hn]; exact hz)).below kb, fun j hj z hz hz2 => ?_⟩
  · rw [ea j hj] at hz2
    by_cases e : i = m
    · subst e
      obtain rfl := hu j hj hi
      rw [Told.set_same] at hz
      obtain rfl := Option.some.inj hz
      exact ⟨o.rd, fun g hg => by have := (o.from g hg).1; have := h.grow.size; omega⟩
    · rw [Told.set_ne e] at hz
      obtain ⟨h1, h2⟩ := h.made j i hj hi z hz hz2
      exact ⟨h1.below kb, h2⟩
  · rw [ea j hj] at hz
    refine (h.out j hj z hz ?_).mid kb
    rcases hz2 with q | q
    · exact .inl q
    · rcases Nat.lt_or_ge (j + 1) n with q2 | q2
      · exact .inr (by rw [← ea (j + 1) q2]; exact q)
      · exact .inl (by omega)
/-- The first piece is appended. -/
theorem Chain.first (hd : ∀ j, j < n → mk j ≠ some (app 0)) (ha : ∀ j, j < n → 0 < j → app j ≠ app 0) (h : Chain n app mk pc w1 B ov l r w) (hl : ∀ j, j < n → 0 < j → r (app j) = none) (hold : ∀ g, ov.ownBlock = some g → g < w1.heap.size) (o : Own w' B v (l ++ pc 0)) (g : w.grownBy w' ov.ownBlock) (k : v.ownBlock = ov.ownBlock ∨ v.ownBlock = some w.heap.size) : Chain n app mk pc w1 B ov l (r.set (app 0) v) w' := by
  refine ⟨only_trans h.grow g, fun j i hj hi z hz hz2 => ?_, fun hz => ?_, fun j hj z hz _ => ?_⟩
  · rw [Told.set_ne (fun e => hd j hj (by rw [← e]; exact hi))] at hz
    rcases Nat.eq_zero_or_pos j with q | q
    · subst q; rw [Told.set_same] at hz2; cases hz2
    · obtain ⟨hr, hn2⟩ := h.made j i hj hi z hz (hl j hj q)
      refine ⟨hr.grown g ?_, hn2⟩
      cases hyb : z.ownBlock with
      | none => exact .inl rfl
      | some y => exact .inr fun e => by have h1 := hold y e.symm; have h2 := hn2 y hyb; omega
  · rw [Told.set_same] at hz; cases hz
  · rcases Nat.eq_zero_or_pos j with q | q
    · subst q
      rw [Told.set_same] at hz
      obtain rfl := Option.some.inj hz
      exact ⟨o, only_trans h.grow g, fun y e => by
        rcases k with z | z
        · exact .inl (z ▸ e)
        · right; rw [z] at e; have := Option.some.inj e; have := h.grow.size; omega⟩
    · rw [Told.set_ne (ha j hj q), hl j hj q] at hz; cases hz
/-- The (k + 1)-th piece is appended; no later one is made in the region. -/
theorem Chain.then_ (k : Nat) (hk : k + 1 < n) (ha : ∀ j, j < n → j ≠ k + 1 → app j ≠ app (k + 1)) (hm : ∀ j, j < n → k + 1 < j → mk j = none) (h : Chain n app mk pc w1 B ov l r w) (hp : ∀ j, j ≤ k → r (app j) ≠ none) (hl : ∀ j, j < n → k < j → r (app j) = none)
    {v0 : Value} (h0 : r (app k) = some v0) (o : Own w' B v (l ++ upTo pc k ++ pc (k + 1))) (g : w.grownBy w' v0.ownBlock) (kk : v.ownBlock = v0.ownBlock ∨ v.ownBlock = some w.heap.size) : Chain n app mk pc w1 B ov l (r.set (app (k + 1)) v) w' := by
  have hn := (h.out k (by omega) v0 h0 (.inr (hl (k + 1) hk (by omega)))).next o g kk
  refine ⟨hn.grow, fun j i hj hi z hz hz2 => ?_, fun hz => ?_, fun j hj z hz hz2 => ?_⟩
  · exfalso
    rcases Nat.lt_trichotomy j (k + 1) with q | q | q
    · rw [Told.set_ne (ha j hj (by omega))] at hz2
      exact hp j (by omega) hz2
    · subst q; rw [Told.set_same] at hz2; cases hz2
    · rw [hm j hj q] at hi; cases hi
  · rw [Told.set_ne (ha 0 (by omega) (by omega))] at hz
    exact absurd hz (hp 0 (Nat.zero_le _))
  · rcases Nat.lt_trichotomy j (k + 1) with q | q | q
    · exfalso
      rcases hz2 with e | e
      · omega
      · rcases Nat.lt_or_ge (j + 1) (k + 1) with q2 | q2
        · rw [Told.set_ne (ha (j + 1) (by omega) (by omega))] at e
          exact hp (j + 1) (by omega) e
        · obtain rfl : j = k := by omega
          rw [Told.set_same] at e; cases e
    · subst q
      rw [Told.set_same] at hz
      obtain rfl := Option.some.inj hz
      show Grew w1 B ov w' v (l ++ (upTo pc k ++ pc (k + 1)))
      rw [← List.append_assoc]; exact hn
    · rw [Told.set_ne (ha j hj (by omega)), hl j hj (by omega)] at hz; cases hz
end
end Go.Proofs.YtoacdeddkfcllaaDoor

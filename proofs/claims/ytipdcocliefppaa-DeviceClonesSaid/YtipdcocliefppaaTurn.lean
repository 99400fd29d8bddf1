/- What a call turns that may write some blocks alone. Own work. -/
import Derived.Test.YtipdcocliefppaaRowsT
namespace Go.Proofs.Ytipdcocliefppaa
open Go.ChangeShapes Go.WideShapes Go.ChangeAt Go.RowKit
/-- From w to w' nothing that was there is turned but in the blocks F. -/
structure Turn (F : Nat → Prop) (w w' : World) : Prop where
  os : w'.os = w.os
  tape : w'.tape = w.tape
  output : w'.output = w.output
  size : w.heap.size ≤ w'.heap.size
  block : ∀ k, k < w.heap.size → ¬ F k → w'.heap[k]? = w.heap[k]?
theorem Turn.of_below {F : Nat → Prop} {w w' : World} (h : Below w.heap.size w w') : Turn F w w' := ⟨h.os, h.tape, h.output, h.size, fun k hk _ => h.block k hk⟩
theorem Turn.of_grown {F : Nat → Prop} {w w' : World} {g : Nat} (h : w.grownBy w' (some g)) (hF : F g) : Turn F w w' := ⟨h.os, h.tape, h.output, h.size, fun k hk hn => h.block k hk (fun e => hn (by rw [Option.some.inj e]; exact hF))⟩
theorem Turn.refl (F : Nat → Prop) (w : World) : Turn F w w := Turn.of_below (Below.refl _ _)
theorem Turn.trans {F G : Nat → Prop} {a b c : World} (h : Turn F a b) (k : Turn G b c) (hG : ∀ i, G i → F i ∨ a.heap.size ≤ i) : Turn F a c :=
  ⟨k.os.trans h.os, k.tape.trans h.tape, k.output.trans h.output, Nat.le_trans h.size k.size, fun i hi hn => (k.block i (Nat.lt_of_lt_of_le hi h.size) (fun g => (hG i g).elim hn (fun q => absurd hi (Nat.not_lt.2 q)))).trans (h.block i hi hn)⟩
theorem Turn.below {F : Nat → Prop} {B : Nat} {w w' : World} (h : Turn F w w') (hB : B ≤ w.heap.size) (hF : ∀ k, F k → B ≤ k) : Below B w w' :=
  ⟨h.os, h.tape, h.output, h.size, fun k hk => h.block k (by omega) fun g => by have := hF k g; omega⟩
/-- From w to w' the blocks below B, and the blocks A, stay as they are. -/
structure Kept (B : Nat) (A : Nat → Prop) (w w' : World) : Prop where
  os : w'.os = w.os
  tape : w'.tape = w.tape
  output : w'.output = w.output
  size : w.heap.size ≤ w'.heap.size
  block : ∀ k, k < w.heap.size → k < B ∨ A k → w'.heap[k]? = w.heap[k]?
theorem Kept.refl (B : Nat) (A : Nat → Prop) (w : World) : Kept B A w w := ⟨rfl, rfl, rfl, Nat.le_refl _, fun _ _ _ => rfl⟩
theorem Kept.of_below {B : Nat} {A : Nat → Prop} {w w' : World} (h : Below w.heap.size w w') : Kept B A w w' := ⟨h.os, h.tape, h.output, h.size, fun k hk _ => h.block k hk⟩
theorem Kept.trans {B : Nat} {A : Nat → Prop} {a b c : World} (h : Kept B A a b) (k : Kept B A b c) : Kept B A a c :=
  ⟨k.os.trans h.os, k.tape.trans h.tape, k.output.trans h.output, Nat.le_trans h.size k.size, fun i hi q => (k.block i (Nat.lt_of_lt_of_le hi h.size) q).trans (h.block i hi q)⟩
theorem Kept.below {B : Nat} {A : Nat → Prop} {a w w' : World} (h : Kept B A w w') (hb : Below B a w) (hB : B ≤ w.heap.size) : Below B a w' :=
  ⟨h.os.trans hb.os, h.tape.trans hb.tape, h.output.trans hb.output, Nat.le_trans hb.size h.size, fun k hk => (h.block k (by omega) (.inl hk)).trans (hb.block k hk)⟩
theorem Rd.kept {B : Nat} {A : Nat → Prop} {w w' : World} {v : Value} {l : List Nat} (h : Rd w v l) (k : Kept B A w w') (hne : ∀ g, v.ownBlock = some g → g < B ∨ A g) : Rd w' v l := h.keep fun g hg hl => k.block g hl (hne g hg)
theorem Blk.kept {B : Nat} {A : Nat → Prop} {w w' : World} {b : Nat} {t : TypeId} {vs : List Value} (h : Blk w b t vs) (k : Kept B A w w') (hne : b < B ∨ A b) : Blk w' b t vs := by
  unfold Blk; rw [k.block b h.lt hne]; exact h
theorem own_kept {B : Nat} {A : Nat → Prop} {w w' : World} {base : Nat} {v : Value} {l : List Nat} (h : Own w base v l) (k : Kept B A w w') (hne : ∀ g, v.ownBlock = some g → g < B ∨ A g) : Own w' base v l := by
  refine ⟨?_, h.2⟩
  have ho := h.1
  refine ⟨ho.1, ?_⟩
  rcases ho.2 with q | ⟨g, cap, cur, e, hB, hh, rest⟩
  · exact .inl q
  · refine .inr ⟨g, cap, cur, e, hB, ?_, rest⟩
    have hlt : g < w.heap.size := (World.ownsRow.lt ho g (by rw [e]; rfl)).2
    rw [k.block g hlt (hne g (by rw [e]; rfl))]; exact hh
end Go.Proofs.Ytipdcocliefppaa

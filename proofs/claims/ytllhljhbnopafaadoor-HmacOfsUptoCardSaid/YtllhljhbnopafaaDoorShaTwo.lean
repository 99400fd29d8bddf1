/- Two parts. Own work. -/
import Derived.Test.YtllhljhbnopafaaDoorShaBase
namespace Go.Proofs.YtllhljhbnopafaaDoor
open Go.ChangeShapes Go.WideShapes Go.ChangeAt Go.RowKit
open SM
theorem rds_two {w : World} {x y : Value} {l m : List Nat} (h : Rd w x l) (k : Rd w y m) {b : Nat} (hb : b = w.heap.size) : Rds (w.alloc (.cells #[x, y] 22)) (.slice (some ⟨b, 0, none⟩) 2 2) [l, m] := by
  subst hb
  refine ⟨by simp, .inr ⟨_, 2, rfl, Nat.le_refl _, fun j l' hj => ?_⟩⟩
  match j, hj with
  | 0, hj => simp at hj; subst hj; exact ⟨x, (Blk.new w 22 [x, y] _ rfl).cell 0 x rfl, h.alloc _⟩
  | 1, hj => simp at hj; subst hj; exact ⟨y, (Blk.new w 22 [x, y] _ rfl).cell 1 y rfl, k.alloc _⟩
  | j + 2, hj => simp at hj
/-- The sum of two parts, and of one, as the laws call it. -/
theorem of_two {w : World} {x y : Value} {l m S : List Nat} (h : Rd w x l) (k : Rd w y m) (ht : TabP w) (hn : l.length + m.length ≤ 1152921504606846976) (hS : S = sha (l ++ m)) :
    Calls Tryd.prog 17 #[.slice (some ⟨w.heap.size, 0, none⟩) 2 2] (w.alloc (.cells #[x, y] 22)) fun e w' => e = .returned (.agg (row8 S).toArray) ∧ Below w.heap.size w w' := by
  have e : [l, m].flatten = l ++ m := by simp
  have b := (Below.refl w.heap.size w).alloc (Nat.le_refl _) (.cells #[x, y] 22)
  have h1 := of_any [l, m] (by rw [e, List.length_append]; exact hn) _ _ (rds_two h k rfl) (ht.below b)
  rw [e, ← hS] at h1
  exact h1.mono fun _ _ q => ⟨q.1, b.on q.2⟩
theorem of_one {w : World} {x : Value} {l S : List Nat} (h : Rd w x l) (ht : TabP w) (hn : l.length ≤ 1152921504606846976) (hS : S = sha l) :
    Calls Tryd.prog 17 #[.slice (some ⟨w.heap.size, 0, none⟩) 1 1] (w.alloc (.cells #[x] 22)) fun e w' => e = .returned (.agg (row8 S).toArray) ∧ Below w.heap.size w w' := by
  have e : [l].flatten = l := by simp
  have b := (Below.refl w.heap.size w).alloc (Nat.le_refl _) (.cells #[x] 22)
  have h1 := of_any [l] (by rw [e]; exact hn) _ _ (rds_one h rfl) (ht.below b)
  rw [e, ← hS] at h1
  exact h1.mono fun _ _ q => ⟨q.1, b.on q.2⟩
theorem sum_of {g : Nat} {L S : List Nat} {w : World} (hs : Hs w g L) (ht : TabP w) (hn : L.length ≤ 1152921504606846976) (hS : S = sha L) :
    Calls Tryd.prog 23 #[.pointer (some ⟨g, 0, none⟩)] w fun e w' => e = .returned (.agg (row8 S).toArray) ∧ Below w.heap.size w w' := by
  rw [hS]; exact sum_any g L w hs ht hn
/-- As of_two and of_one, where the slice of parts lies at a place that is spelled otherwise. -/
theorem of_two_at {w : World} {x y : Value} {l m S : List Nat} {b : Nat} (hb : b = w.heap.size) (h : Rd w x l) (k : Rd w y m) (ht : TabP w) (hn : l.length + m.length ≤ 1152921504606846976) (hS : S = sha (l ++ m)) :
    Calls Tryd.prog 17 #[.slice (some ⟨b, 0, none⟩) 2 2] (w.alloc (.cells #[x, y] 22)) fun e w' => e = .returned (.agg (row8 S).toArray) ∧ Below w.heap.size w w' := by
  subst hb; exact of_two h k ht hn hS
theorem of_one_at {w : World} {x : Value} {l S : List Nat} {b : Nat} (hb : b = w.heap.size) (h : Rd w x l) (ht : TabP w) (hn : l.length ≤ 1152921504606846976) (hS : S = sha l) :
    Calls Tryd.prog 17 #[.slice (some ⟨b, 0, none⟩) 1 1] (w.alloc (.cells #[x] 22)) fun e w' => e = .returned (.agg (row8 S).toArray) ∧ Below w.heap.size w w' := by
  subst hb; exact of_one h ht hn hS
end Go.Proofs.YtllhljhbnopafaaDoor

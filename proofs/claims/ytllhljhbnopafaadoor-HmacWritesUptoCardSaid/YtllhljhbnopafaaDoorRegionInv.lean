/- A region that draws its order, walked by an invariant over what has been listed. Own work. -/
import Derived.Test.YtllhljhbnopafaaDoorRows
import Derived.WalkKit
import Derived.Orders
namespace Go.Proofs.YtllhljhbnopafaaDoor
open Go
def rem (l : Array Bool) : Nat := l.toList.count false
/-- Whatever is listed, all that it waits for is listed. -/
def Closed (ops : Array Oper) (l : Array Bool) : Prop := ∀ (i : Nat) (o : Oper), ops[i]? = some o → l.getD i true = true → ∀ e ∈ o.after, Region.binds .any e = true → l.getD e.on false = true
theorem rem_set (l : Array Bool) (i : Nat) (h : l.getD i true = false) : rem l = rem (l.setIfInBounds i true) + 1 := by
  obtain ⟨l⟩ := l
  have hi : i < l.length := by
    rcases Nat.lt_or_ge i l.length with k | k
    · exact k
    · simp [Array.getD, Nat.not_lt.mpr k] at h
  have hv : l[i] = false := by simpa [Array.getD, hi] using h
  unfold rem
  simp only [List.setIfInBounds_toArray]
  clear h
  induction l generalizing i with
  | nil => simp at hi
  | cons x r ih =>
    cases i with
    | zero => simp at hv; subst hv; simp
    | succ i =>
      simp at hi hv
      have := ih i hi hv
      simp only [List.set_cons_succ, List.count_cons]
      omega
theorem wpAny_inv {P : Program} {ops : Array Oper} {Q : Exit → Act → World → Prop} (J : Array Bool → Act → World → Prop)
    (hJ : ∀ l a w, l.size = ops.size → Closed ops l → J l a w → wpAny P .any ops Q (rem l) l a w ∨
      (Region.ready .any ops l ≠ [] ∧ ∀ i ∈ Region.ready .any ops l, wpOp P ops Q i (fun a' w' => J (l.setIfInBounds i true) a' w') a w)) :
    ∀ (n : Nat) (l : Array Bool) (a : Act) (w : World), rem l = n → l.size = ops.size → Closed ops l → J l a w → wpAny P .any ops Q n l a w := by
  intro n
  induction n with
  | zero =>
    intro l a w hn hs hc hj
    rcases hJ l a w hs hc hj with h | ⟨h, _⟩
    · rw [hn] at h; exact h
    · exfalso
      obtain ⟨i, hi⟩ := List.exists_mem_of_ne_nil _ h
      have := rem_set l i (mem_ready.1 hi).1
      omega
  | succ n ih =>
    intro l a w hn hs hc hj
    rcases hJ l a w hs hc hj with h | ⟨h, hi⟩
    · rw [hn] at h; exact h
    · refine ⟨fun e => absurd e h, fun i him => wpOp_mono (fun a' w' hj' => ?_) (hi i him)⟩
      obtain ⟨hu, o, ho, hall⟩ := mem_ready.1 him
      have hr := rem_set l i hu
      refine ih _ a' w' (by omega) (by simpa using hs) (fun j oj hoj hl e he hb => ?_) hj'
      by_cases hji : j = i
      · subst hji
        rw [ho] at hoj; cases hoj
        have := hall e he hb
        by_cases hei : e.on = j
        · rw [hei] at this
          have hlt : j < l.size := by
            rcases Nat.lt_or_ge j l.size with k | k
            · exact k
            · simp [Array.getD, Nat.not_lt.mpr k] at this
          simp [Array.getD, hlt] at hu this
          rw [hu] at this; cases this
        · rw [getD_set_ne false (Ne.symm hei)]; exact this
      · rw [getD_set_ne true (Ne.symm hji)] at hl
        have := hc j oj hoj hl e he hb
        by_cases hei : e.on = i
        · rw [hei]
          have hlt : i < l.size := by
            rcases Nat.lt_or_ge i l.size with k | k
            · exact k
            · simp [Array.getD, Nat.not_lt.mpr k] at hu
          simp [Array.getD, hlt]
        · rw [getD_set_ne false (Ne.symm hei)]; exact this
theorem closed_start (ops : Array Oper) : Closed ops (Array.replicate ops.size false) := fun i o ho h => by
  have hi : i < ops.size := by
    rcases Nat.lt_or_ge i ops.size with k | k
    · exact k
    · rw [Array.getElem?_eq_none k] at ho; cases ho
  simp [Array.getD, hi] at h
theorem wp_region_inv {P : Program} {id : Nat} {ops : Array Oper} {Q : Exit → Act → World → Prop} {a : Act} {w : World} (hm : P.follows .mixedOrders = true) (J : Array Bool → Act → World → Prop)
    (h0 : J (Array.replicate ops.size false) a w.drew)
    (hJ : ∀ l a w, l.size = ops.size → Closed ops l → J l a w → wpAny P .any ops Q (rem l) l a w ∨
      (Region.ready .any ops l ≠ [] ∧ ∀ i ∈ Region.ready .any ops l, wpOp P ops Q i (fun a' w' => J (l.setIfInBounds i true) a' w') a w)) : (Code.region id ops true).wp P Q a w := by
  refine wp_region_any hm (wpAny_inv J hJ ops.size _ _ _ ?_ (by simp) (closed_start ops) h0)
  unfold rem; simp
theorem wpAny_one {P : Program} {ops : Array Oper} {Q : Exit → Act → World → Prop} {n i : Nat} {o : Oper} {l : Array Bool} {a : Act} {w : World} (hr : Region.ready .any ops l = [i]) (ho : ops[i]? = some o) (hg : o.guard = none)
    (h : o.wp P a w (fun a' w' => wpAny P .any ops Q n (l.setIfInBounds i true) a' w') Q) : wpAny P .any ops Q (n + 1) l a w := by
  refine ⟨(fun e => by rw [hr] at e; cases e), fun j hj => ?_⟩
  rw [hr] at hj
  obtain rfl := List.mem_singleton.1 hj
  unfold wpOp; rw [ho]
  show if Region.wanted o (yielded ops a.tmps) = true then _ else _
  rw [if_pos (by unfold Region.wanted; rw [hg])]
  exact .inl h
theorem wpOp_plain {P : Program} {ops : Array Oper} {Q : Exit → Act → World → Prop} {i : Nat} {o : Oper} {K : Act → World → Prop} {a : Act} {w : World} (ho : ops[i]? = some o) (hg : o.guard = none) (h : o.wp P a w K Q) : wpOp P ops Q i K a w := by
  unfold wpOp; rw [ho]
  show if Region.wanted o (yielded ops a.tmps) = true then _ else _
  rw [if_pos (by unfold Region.wanted; rw [hg])]
  exact .inl h
theorem sg {l : Array Bool} {n : Nat} (hl : l.size = n) (i j : Nat) (hi : i < n) : (l.setIfInBounds i true).getD j false = if i = j then true else l.getD j false := by
  by_cases h : i = j
  · subst h; rw [if_pos rfl]; simp [Array.getD, hl, hi]
  · rw [if_neg h, getD_set_ne false h]
end Go.Proofs.YtllhljhbnopafaaDoor

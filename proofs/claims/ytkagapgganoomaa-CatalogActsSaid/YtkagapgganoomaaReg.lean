/- Texts of one subject in one file: RegionInv, Facts, FactsLast, FactsTail, FactsTurn, FactsG, FactsV. Own work. -/
import Derived.Test.YtkagapgganoomaaRows
import Derived.WalkKit
import Derived.Orders
import Derived.Test.YtkagapgganoomaaMem
/- A region that draws its order, walked by an invariant over what has been listed. Own work. -/
namespace Go.Proofs.Ytkagapgganoomaa
open Go
def rem (l : Array Bool) : Nat := l.toList.count false
/-- Whatever is listed, all that it waits for is listed. -/
def Closed (ops : Array Oper) (l : Array Bool) : Prop := ∀ (i : Nat) (o : Oper), ops[i]? = some o → l.getD i true = true → ∀ e ∈ o.after, Region.binds .any e = true → l.getD e.on false = true
theorem rem_set (l : Array Bool) (i : Nat) (h : l.getD i true = false) : rem l = rem (l.setIfInBounds i true) + 1 := by
  obtain ⟨l⟩ := l
  have hi : i < l.length := by
    rcases Nat.lt_or_ge i l.length with k | k
    · exact k
    · simp [Array.getD, Nat.not_lt.mpr k] at h
  have hv : l[i] = false := by simpa [Array.getD, hi] using h
  unfold rem
  simp only [List.setIfInBounds_toArray]
  clear h
  induction l generalizing i with
  | nil => simp at hi
  | cons x r ih =>
    cases i with
    | zero => simp at hv; subst hv; simp
    | succ i =>
      simp at hi hv
      have := ih i hi hv
      simp only [List.set_cons_succ, List.count_cons]
      omega
theorem wpAny_inv {P : Program} {ops : Array Oper} {Q : Exit → Act → World → Prop} (J : Array Bool → Act → World → Prop)
    (hJ : ∀ l a w, l.size = ops.size → Closed ops l → J l a w → wpAny P .any ops Q (rem l) l a w ∨
      (Region.ready .any ops l ≠ [] ∧ ∀ i ∈ Region.ready .any ops l, wpOp P ops Q i (fun a' w' => J (l.setIfInBounds i true) a' w') a w)) :
    ∀ (n : Nat) (l : Array Bool) (a : Act) (w : World), rem l = n → l.size = ops.size → Closed ops l → J l a w → wpAny P .any ops Q n l a w := by
  intro n
  induction n with
  | zero =>
    intro l a w hn hs hc hj
    rcases hJ l a w hs hc hj with h | ⟨h, _⟩
    · rw [hn] at h; exact h
    · exfalso
      obtain ⟨i, hi⟩ := List.exists_mem_of_ne_nil _ h
      have := rem_set l i (mem_ready.1 hi).1
      omega
  | succ n ih =>
    intro l a w hn hs hc hj
    rcases hJ l a w hs hc hj with h | ⟨h, hi⟩
    · rw [hn] at h; exact h
    · refine ⟨fun e => absurd e h, fun i him => wpOp_mono (fun a' w' hj' => ?_) (hi i him)⟩
      obtain ⟨hu, o, ho, hall⟩ := mem_ready.1 him
      have hr := rem_set l i hu
      refine ih _ a' w' (by omega) (by simpa using hs) (fun j oj hoj hl e he hb => ?_) hj'
      by_cases hji : j = i
      · subst hji
        rw [ho] at hoj; cases hoj
        have := hall e he hb
        by_cases hei : e.on = j
        · rw [hei] at this
          have hlt : j < l.size := by
            rcases Nat.lt_or_ge j l.size with k | k
            · exact k
            · simp [Array.getD, Nat.not_lt.mpr k] at this
          simp [Array.getD, hlt] at hu this
          rw [hu] at this; cases this
        · rw [getD_set_ne false (Ne.symm hei)]; exact this
      · rw [getD_set_ne true (Ne.symm hji)] at hl
        have := hc j oj hoj hl e he hb
        by_cases hei : e.on = i
        · rw [hei]
          have hlt : i < l.size := by
            rcases Nat.lt_or_ge i l.size with k | k
            · exact k
            · simp [Array.getD, Nat.not_lt.mpr k] at hu
          simp [Array.getD, hlt]
        · rw [getD_set_ne false (Ne.symm hei)]; exact this
theorem closed_start (ops : Array Oper) : Closed ops (Array.replicate ops.size false) := fun i o ho h => by
  have hi : i < ops.size := by
    rcases Nat.lt_or_ge i ops.size with k | k
    · exact k
    · rw [Array.getElem?_eq_none k] at ho; cases ho
  simp [Array.getD, hi] at h
/-- The region's operations in whatever order, out of any frame. -/
def RegAny (P : Program) (ops : Array Oper) (Q : Exit → Act → World → Prop) (a : Act) (w : World) : Prop := wpAny P .any ops Q ops.size (Array.replicate ops.size false) a w.drew
theorem any_inv {P : Program} {ops : Array Oper} {Q : Exit → Act → World → Prop} {a : Act} {w : World} (J : Array Bool → Act → World → Prop)
    (h0 : J (Array.replicate ops.size false) a w.drew)
    (hJ : ∀ l a w, l.size = ops.size → Closed ops l → J l a w → wpAny P .any ops Q (rem l) l a w ∨
      (Region.ready .any ops l ≠ [] ∧ ∀ i ∈ Region.ready .any ops l, wpOp P ops Q i (fun a' w' => J (l.setIfInBounds i true) a' w') a w)) : RegAny P ops Q a w := by
  refine wpAny_inv J hJ ops.size _ _ _ ?_ (by simp) (closed_start ops) h0
  unfold rem; simp
theorem wp_region_inv {P : Program} {id : Nat} {ops : Array Oper} {Q : Exit → Act → World → Prop} {a : Act} {w : World} (hm : P.follows .mixedOrders = true) (J : Array Bool → Act → World → Prop)
    (h0 : J (Array.replicate ops.size false) a w.drew)
    (hJ : ∀ l a w, l.size = ops.size → Closed ops l → J l a w → wpAny P .any ops Q (rem l) l a w ∨
      (Region.ready .any ops l ≠ [] ∧ ∀ i ∈ Region.ready .any ops l, wpOp P ops Q i (fun a' w' => J (l.setIfInBounds i true) a' w') a w)) : (Code.region id ops true).wp P Q a w :=
  wp_region_any hm (any_inv J h0 hJ)
theorem wpAny_one {P : Program} {ops : Array Oper} {Q : Exit → Act → World → Prop} {n i : Nat} {o : Oper} {l : Array Bool} {a : Act} {w : World} (hr : Region.ready .any ops l = [i]) (ho : ops[i]? = some o) (hg : o.guard = none)
    (h : o.wp P a w (fun a' w' => wpAny P .any ops Q n (l.setIfInBounds i true) a' w') Q) : wpAny P .any ops Q (n + 1) l a w := by
  refine ⟨(fun e => by rw [hr] at e; cases e), fun j hj => ?_⟩
  rw [hr] at hj
  obtain rfl := List.mem_singleton.1 hj
  unfold wpOp; rw [ho]
  show if Region.wanted o (yielded ops a.tmps) = true then _ else _
  rw [if_pos (by unfold Region.wanted; rw [hg])]
  exact .inl h
theorem wpOp_plain {P : Program} {ops : Array Oper} {Q : Exit → Act → World → Prop} {i : Nat} {o : Oper} {K : Act → World → Prop} {a : Act} {w : World} (ho : ops[i]? = some o) (hg : o.guard = none) (h : o.wp P a w K Q) : wpOp P ops Q i K a w := by
  unfold wpOp; rw [ho]
  show if Region.wanted o (yielded ops a.tmps) = true then _ else _
  rw [if_pos (by unfold Region.wanted; rw [hg])]
  exact .inl h
theorem sg {l : Array Bool} {n : Nat} (hl : l.size = n) (i j : Nat) (hi : i < n) : (l.setIfInBounds i true).getD j false = if i = j then true else l.getD j false := by
  by_cases h : i = j
  · subst h; rw [if_pos rfl]; simp [Array.getD, hl, hi]
  · rw [if_neg h, getD_set_ne false h]
end Go.Proofs.Ytkagapgganoomaa
/- A region that draws its order, whose operations only read and whose callees make memory of their own and tell values of which something lasting is known: what holds of each operation's value in whatever order they come. Own work. -/
namespace Go.Proofs.Ytkagapgganoomaa
open Go.RowKit
/-- What is known of an operation's value: which one it is, or what it reads as. -/
inductive Fact where
  | val (x : Value)
  | rd (l : List Nat)
def Fact.holds : Fact → Value → World → Prop
  | .val x, v, _ => v = x
  | .rd l, v, w => Rd w v l
theorem Fact.later {f : Fact} {v : Value} {w w' : World} (h : f.holds v w) (hb : Below w.heap.size w w') : f.holds v w' := by
  cases f with
  | val x => exact h
  | rd l => exact Rd.below h hb
def dstOf (ops : List Oper) (i : Nat) : Nat := ((ops[i]?).bind (·.dst)).getD 0
def valOf (ops : List Oper) (a : Act) (i : Nat) : Value := a.tmps.getD (dstOf ops i) undef
def depsOf (o : Oper) : List Nat := (o.after.toList.filter (Region.binds .any)).map (·.on)
def earlyB : Nat → List Oper → Bool
  | _, [] => true
  | i, o :: r => (depsOf o).all (· < i) && earlyB (i + 1) r
/-- The region's text fits: what an operation waits for stands ahead of it; each fills a slot of its own. -/
def factsB (ops : List Oper) (n : Nat) : Bool := earlyB 0 ops && ops.all (fun o => o.dst.isSome) && decide ((ops.map (·.dst)).Nodup) && (List.range ops.length).all (fun i => dstOf ops i < n)
/-- What an operation of the region does. -/
def Does (P : Program) (ops : List Oper) (Q : Exit → Act → World → Prop) (o : Oper) (a : Act) (w : World) (f : Fact) : Prop :=
  Region.wanted o (yielded ops.toArray a.tmps) = true ∧ ∀ K : Act → World → Prop, (∀ v w', Below w.heap.size w w' → f.holds v w' → K (a.put o.dst v) w') → o.wp P a w K Q
def eachOp (p : Nat → Oper → Prop) : Nat → List Oper → Prop
  | _, [] => True
  | i, o :: r => p i o ∧ eachOp p (i + 1) r
theorem eachOp_get {p : Nat → Oper → Prop} : ∀ (l : List Oper) (n i : Nat) (o : Oper), eachOp p n l → l[i]? = some o → p (n + i) o
  | [], _, _, _, _, h => by simp at h
  | x :: r, n, 0, o, h, e => by simp at e; subst e; exact h.1
  | x :: r, n, i + 1, o, h, e => by
    have := eachOp_get r (n + 1) i o h.2 (by simpa using e)
    rw [show n + (i + 1) = n + 1 + i by omega]; exact this
theorem earlyB_get : ∀ (l : List Oper) (n i : Nat) (o : Oper), earlyB n l = true → l[i]? = some o → ∀ j ∈ depsOf o, j < n + i
  | [], _, _, _, _, h => by simp at h
  | x :: r, n, 0, o, h, e => by
    simp at e; subst e
    simp only [earlyB, Bool.and_eq_true, List.all_eq_true, decide_eq_true_eq] at h
    intro j hj; exact h.1 j hj
  | x :: r, n, i + 1, o, h, e => by
    simp only [earlyB, Bool.and_eq_true] at h
    have := earlyB_get r (n + 1) i o h.2 (by simpa using e)
    intro j hj
    have := this j hj
    omega
/-- All values laid in their slots. -/
def putOps : List Oper → Nat → (Nat → Value) → Act → Act
  | [], _, _, a => a
  | o :: r, i, vs, a => putOps r (i + 1) vs (a.put o.dst (vs i))
theorem put_size (a : Act) (d : Option Tmp) (v : Value) : (a.put d v).tmps.size = a.tmps.size := by cases d <;> simp [Act.put]
theorem put_defers' (a : Act) (d : Option Tmp) (v : Value) : (a.put d v).defers = a.defers := by cases d <;> rfl
theorem putOps_eq (a : Act) : ∀ (l : List Oper) (i : Nat) (vs : Nat → Value) (b : Act), b.defers = a.defers → b.tmps.size = a.tmps.size →
    (∀ k, (∀ o ∈ l, o.dst ≠ some k) → b.tmps[k]? = a.tmps[k]?) → (∀ (j : Nat) o, l[j]? = some o → ∃ d, o.dst = some d ∧ a.tmps[d]? = some (vs (i + j))) → putOps l i vs b = a
  | [], i, vs, b, hd, hs, hk, _ => by
    obtain ⟨bt, bd⟩ := b
    obtain ⟨at', ad⟩ := a
    simp only at hd hs
    subst hd
    show (⟨bt, bd⟩ : Act) = ⟨at', bd⟩
    congr 1
    apply Array.ext_getElem?
    intro k
    exact hk k (fun o ho => by cases ho)
  | o :: r, i, vs, b, hd, hs, hk, hv => by
    obtain ⟨d, e, hd2⟩ := hv 0 o rfl
    refine putOps_eq a r (i + 1) vs (b.put o.dst (vs i)) (by rw [put_defers']; exact hd) (by rw [put_size]; exact hs) (fun k h => ?_) (fun j o' ho' => by
      obtain ⟨d', e', h'⟩ := hv (j + 1) o' (by simpa using ho')
      exact ⟨d', e', by rw [show i + 1 + j = i + (j + 1) by omega]; exact h'⟩)
    rw [e]
    show (b.tmps.setIfInBounds d (vs i))[k]? = _
    by_cases hdk : d = k
    · subst hdk
      have hlt : d < b.tmps.size := by
        rw [hs]
        rcases Nat.lt_or_ge d a.tmps.size with q | q
        · exact q
        · rw [Array.getElem?_eq_none q] at hd2; cases hd2
      rw [hd2, Array.getElem?_setIfInBounds_self_of_lt hlt, Nat.add_zero]
    · rw [Array.getElem?_setIfInBounds_ne hdk]
      refine hk k (fun o' ho' => ?_)
      rcases List.mem_cons.1 ho' with q | q
      · subst q; rw [e]; simpa using hdk
      · exact h o' q
theorem rem_all {l : Array Bool} (h : ∀ i, l.getD i true = true) : rem l = 0 := by
  unfold rem
  rw [List.count_eq_zero]
  intro hm
  obtain ⟨i, hi, e⟩ := List.getElem_of_mem hm
  have := h i
  have hi' : i < l.size := by simpa using hi
  rw [Array.getD, dif_pos hi'] at this
  simp at e
  change l[i] = true at this
  rw [e] at this; cases this
theorem wp_region_facts {P : Program} {id : Nat} {ops : List Oper} {Q : Exit → Act → World → Prop} {a0 : Act} {w0 : World} (hm : P.follows .mixedOrders = true) (hB : factsB ops a0.tmps.size = true) (tbl : List Fact)
    (hop : eachOp (fun i o => ∀ a w, (∀ k, (∀ i, i < ops.length → dstOf ops i ≠ k) → a.tmps.getD k undef = a0.tmps.getD k undef) → Below w0.heap.size w0 w → (∀ j ∈ depsOf o, (tbl.getD j (.val undef)).holds (valOf ops a j) w) → Does P ops Q o a w (tbl.getD i (.val undef))) 0 ops)
    (hend : ∀ (vs : Nat → Value) w, Below w0.heap.size w0 w → (∀ i, i < ops.length → (tbl.getD i (.val undef)).holds (vs i) w) → Q .normal (putOps ops 0 vs a0) w) : (Code.region id ops.toArray true).wp P Q a0 w0 := by
  simp only [factsB, Bool.and_eq_true, List.all_eq_true, decide_eq_true_eq] at hB
  obtain ⟨⟨⟨hearly, hsome⟩, hnd⟩, hrange⟩ := hB
  have hdst : ∀ (i : Nat) o, ops[i]? = some o → o.dst = some (dstOf ops i) := fun i o ho => by
    have hs := hsome o (List.mem_of_getElem? ho)
    obtain ⟨d, hd⟩ := Option.isSome_iff_exists.1 hs
    unfold dstOf; rw [ho]; simp [hd]
  have hlt : ∀ i, i < ops.length → dstOf ops i < a0.tmps.size := fun i hi => by simpa using hrange i (by simpa using hi)
  have hapart : ∀ i j, i < ops.length → j < ops.length → dstOf ops i = dstOf ops j → i = j := fun i j hi hj e => by
    have e1 := hdst i ops[i] (List.getElem?_eq_getElem hi)
    have e2 := hdst j ops[j] (List.getElem?_eq_getElem hj)
    have hi' : i < (ops.map (·.dst)).length := by simpa using hi
    have hj' : j < (ops.map (·.dst)).length := by simpa using hj
    have hp := List.pairwise_iff_getElem.1 hnd
    rcases Nat.lt_trichotomy i j with q | q | q
    · exact absurd (by simp [e1, e2, e]) (hp i j hi' hj' q)
    · exact q
    · exact absurd (by simp [e1, e2, e]) (hp j i hj' hi' q)
  refine wp_region_inv hm (fun l a w => a.defers = a0.defers ∧ a.tmps.size = a0.tmps.size ∧ (∀ k, (∀ i, i < ops.length → dstOf ops i ≠ k) → a.tmps[k]? = a0.tmps[k]?) ∧ Below w0.heap.size w0 w ∧ ∀ i, i < ops.length → l.getD i true = true → (tbl.getD i (.val undef)).holds (valOf ops a i) w)
    ⟨rfl, rfl, fun _ _ => rfl, (Below.refl _ _).drew, fun i hi h => by simp [Array.getD, hi] at h⟩ ?_
  intro l a w hl hc ⟨j1, j2, j3, j4, j5⟩
  have hlen : l.size = ops.length := by simpa using hl
  by_cases hall : ∀ i, l.getD i true = true
  · left
    rw [rem_all hall]
    refine ⟨?_, ?_⟩
    · rw [List.eq_nil_iff_forall_not_mem]
      intro i hi
      have := (mem_ready.1 hi).1
      rw [hall i] at this; cases this
    · have e := putOps_eq a ops 0 (fun i => valOf ops a i) a0 j1.symm j2.symm (fun k hk => (j3 k (fun i hi q => hk ops[i] (List.getElem_mem hi) (by rw [hdst i ops[i] (List.getElem?_eq_getElem hi), q]))).symm) (fun j o ho => by
        have hj : j < ops.length := (List.getElem?_eq_some_iff.1 ho).1
        refine ⟨_, hdst j o ho, ?_⟩
        have h1 : dstOf ops j < a.tmps.size := by rw [j2]; exact hlt j hj
        rw [Array.getElem?_eq_getElem h1, Nat.zero_add]
        unfold valOf
        simp [Array.getD, h1])
      rw [← e]
      exact hend _ w j4 (fun i hi => j5 i hi (hall i))
  · right
    have hex : ∃ i, l.getD i true = false := by
      rcases Classical.em (∃ i, l.getD i true = false) with q | q
      · exact q
      · exact absurd (fun i => by
          cases h : l.getD i true with
          | true => rfl
          | false => exact absurd ⟨i, h⟩ q) hall
    have hmin : ∃ i, l.getD i true = false ∧ ∀ j, j < i → l.getD j true = true := by
      obtain ⟨i, hi⟩ := hex
      induction i using Nat.strongRecOn with
      | _ i ih =>
        rcases Classical.em (∃ j, j < i ∧ l.getD j true = false) with ⟨j, hji, hj⟩ | q
        · exact ih j hji hj
        · refine ⟨i, hi, fun j hj => ?_⟩
          cases h : l.getD j true with
          | true => rfl
          | false => exact absurd ⟨j, hj, h⟩ q
    have hin : ∀ i, l.getD i true = false → i < ops.length := fun i h => by
      rcases Nat.lt_or_ge i l.size with q | q
      · omega
      · simp [Array.getD, Nat.not_lt.mpr q] at h
    refine ⟨?_, ?_⟩
    · obtain ⟨i, hi, hj⟩ := hmin
      have hil := hin i hi
      refine List.ne_nil_of_mem (a := i) (mem_ready.2 ⟨hi, ops[i], by simp [hil], fun e he hb => ?_⟩)
      have hdep : e.on ∈ depsOf ops[i] := List.mem_map.2 ⟨e, List.mem_filter.2 ⟨by simpa using he, hb⟩, rfl⟩
      have h1 := earlyB_get ops 0 i ops[i] hearly (List.getElem?_eq_getElem hil) e.on hdep
      have h2 := hj e.on (by omega)
      have h3 : e.on < l.size := by omega
      simp [Array.getD, h3] at h2 ⊢
      exact h2
    · intro i hi
      obtain ⟨hu, o, ho, hdeps⟩ := mem_ready.1 hi
      have ho' : ops[i]? = some o := by simpa using ho
      have hil : i < ops.length := (List.getElem?_eq_some_iff.1 ho').1
      have hx := eachOp_get ops 0 i o hop ho' a w (fun k hk => by
        have := j3 k hk
        rw [Array.getD_eq_getD_getElem?, Array.getD_eq_getD_getElem?, this]) j4 (fun j hj => by
          obtain ⟨e, he, q⟩ := List.mem_map.1 hj
          obtain ⟨he1, he2⟩ := List.mem_filter.1 he
          subst q
          have h1 := hdeps e (by simpa using he1) he2
          have h3 : e.on < l.size := by
            rcases Nat.lt_or_ge e.on l.size with z | z
            · exact z
            · simp [Array.getD, Nat.not_lt.mpr z] at h1
          exact j5 e.on (by omega) (by simp [Array.getD, h3] at h1 ⊢; exact h1))
      rw [Nat.zero_add] at hx
      obtain ⟨hw, hx⟩ := hx
      unfold wpOp
      rw [ho]
      show if Region.wanted o (yielded ops.toArray a.tmps) = true then _ else _
      rw [if_pos hw]
      refine .inl (hx _ (fun v w' hb hf => ?_))
      have hd := hdst i o ho'
      have hdl := hlt i hil
      refine ⟨by rw [put_defers']; exact j1, by rw [put_size]; exact j2, fun k hk => ?_, j4.trans (hb.mono j4.size), fun j hj hlj => ?_⟩
      · rw [hd]
        show (a.tmps.setIfInBounds _ v)[k]? = _
        rw [Array.getElem?_setIfInBounds_ne (hk i hil)]
        exact j3 k hk
      · by_cases hji : i = j
        · subst hji
          have : valOf ops (a.put o.dst v) i = v := by
            unfold valOf
            rw [hd]
            show (a.tmps.setIfInBounds (dstOf ops i) v).getD (dstOf ops i) undef = v
            have h1 : dstOf ops i < a.tmps.size := by rw [j2]; exact hdl
            simp [Array.getD, h1]
          rw [this]; exact hf
        · have e : valOf ops (a.put o.dst v) j = valOf ops a j := by
            unfold valOf
            rw [hd]
            show (a.tmps.setIfInBounds (dstOf ops i) v).getD (dstOf ops j) undef = _
            have hne : dstOf ops i ≠ dstOf ops j := fun q => hji (hapart i j hil hj q)
            rw [Array.getD_eq_getD_getElem?, Array.getD_eq_getD_getElem?, Array.getElem?_setIfInBounds_ne hne]
          rw [e]
          rw [getD_set_ne true hji] at hlj
          exact Fact.later (j5 j hj hlj) hb
theorem yielded_of {ops : List Oper} {a : Act} {j : Nat} {b : Bool} {d : Tmp} (hd : (ops[j]?).bind (·.dst) = some d) (h : a.tmps.getD d undef = .bool b) : yielded ops.toArray a.tmps j = some b := by
  unfold yielded
  have e : ((ops.toArray[j]?).bind (·.dst)) = some d := by simpa using hd
  rw [e]
  rw [Array.getD_eq_getD_getElem?] at h
  cases q : a.tmps[d]? with
  | none => rw [q] at h; simp [undef] at h
  | some x => rw [q] at h; simp at h; subst h; simp [q]
theorem does_val {P : Program} {ops : List Oper} {Q : Exit → Act → World → Prop} {o : Oper} {a : Act} {w : World} {f : Fact} {v : Value} (hw : Region.wanted o (yielded ops.toArray a.tmps) = true) (h : (execOp a.eval o).run P w = .ok (.value v) w) (hf : f.holds v w) : Does P ops Q o a w f := by
  refine ⟨hw, fun K hK => ?_⟩
  unfold Oper.wp
  rw [h, Oper.upon_value]
  exact hK v w (Below.refl _ _) hf
theorem does_call {P : Program} {ops : List Oper} {Q : Exit → Act → World → Prop} {o : Oper} {a : Act} {w : World} {f : Fact} {g : FuncId} {args : Array Value} (hw : Region.wanted o (yielded ops.toArray a.tmps) = true) (h : (execOp a.eval o).run P w = .ok (.enter g args) w)
    (hc : Calls P g args w fun e w' => ∃ v, e = .returned v ∧ f.holds v w' ∧ Below w.heap.size w w') : Does P ops Q o a w f := by
  refine ⟨hw, fun K hK => ?_⟩
  unfold Oper.wp
  rw [h, Oper.upon_enter]
  refine hc.mono fun e w' hh => ?_
  obtain ⟨v, rfl, hf, hb⟩ := hh
  exact hK v w' hb hf
section
variable {P : Program} {o : Oper} {a : Act} {w : World}
theorem wanted_of {ops : List Oper} {j : Nat} {b : Bool} (hg : o.guard = some (j, b)) (h : yielded ops.toArray a.tmps j = some b) : Region.wanted o (yielded ops.toArray a.tmps) = true := by
  unfold Region.wanted
  rw [hg]
  show (yielded ops.toArray a.tmps j == some b) = true
  rw [h]; simp
theorem ex_move {x : Operand} {v : Value} (ho : o.op = .move x) (hx : a.eval x = v) : (execOp a.eval o).run P w = .ok (.value v) w := by
  unfold execOp; rw [ho]; simp [hx]
theorem ex_assign {x : Operand} {v : Value} (ho : o.op = .assign x) (hx : a.eval x = v) : (execOp a.eval o).run P w = .ok (.value v) w := by
  unfold execOp; rw [ho]; simp [hx]
theorem ex_convert {x : Operand} {s d : TypeId} {u v : Value} (ho : o.op = .convert s d x) (hx : a.eval x = u) (hc : (convert s d u).run P w = .ok v w) : (execOp a.eval o).run P w = .ok (.value v) w := by
  unfold execOp; rw [ho]; simp [hx, hc, Result.andThen]
theorem ex_binOp {x y : Operand} {b : BinOp} {t z : TypeId} {u u' v : Value} (ho : o.op = .binOp b t x y z) (hx : a.eval x = u) (hy : a.eval y = u') (hg : (eqGuard b t x y u u').run P w = .ok () w) (hb : (binOp b t u u').run P w = .ok v w) : (execOp a.eval o).run P w = .ok (.value v) w := by
  unfold execOp; rw [ho]; simp [hx, hy, hg, hb, Result.andThen]
theorem ex_pick {c x y : Operand} {b : Bool} {v : Value} (ho : o.op = .pick c x y) (hc : a.eval c = .bool b) (hv : (if b then a.eval x else a.eval y) = v) : (execOp a.eval o).run P w = .ok (.value v) w := by
  unfold execOp; rw [ho]; simp [hc, asBool, hv]
theorem ex_call {g : FuncId} {xs : Array Operand} {ts : Array TypeId} {vs : Array Value} (ho : o.op = .call { callee := .value (.func g), args := xs, argTypes := ts }) (hx : xs.map a.eval = vs) (hf : (callFunc g vs).run P w = .ok (.enter g vs) w) : (execOp a.eval o).run P w = .ok (.enter g vs) w := by
  subst hx
  unfold execOp; rw [ho]
  go_simp
end
end Go.Proofs.Ytkagapgganoomaa
/- A region that draws its order, with a last operation that waits for all others (a store of what a call told): facts for the others, one obligation for the last. Own work. -/
namespace Go.Proofs.Ytkagapgganoomaa
open Go.RowKit
def lastB (o : Oper) (n : Nat) : Bool := (List.range n).all (fun i => (depsOf o).contains i)
theorem wp_region_last {P : Program} {id : Nat} {ops : List Oper} {Q : Exit → Act → World → Prop} {a0 : Act} {w0 : World} (hm : P.follows .mixedOrders = true) (n : Nat) (last : Oper) (hn : ops.length = n + 1) (hlast : ops[n]? = some last)
    (hB : factsB (ops.take n) a0.tmps.size = true) (hL : lastB last n = true) (hE : earlyB 0 ops = true) (tbl : List Fact)
    (hop : eachOp (fun i o => ∀ a w, (∀ k, (∀ i, i < n → dstOf ops i ≠ k) → a.tmps.getD k undef = a0.tmps.getD k undef) → Below w0.heap.size w0 w → (∀ j ∈ depsOf o, (tbl.getD j (.val undef)).holds (valOf ops a j) w) → Does P ops Q o a w (tbl.getD i (.val undef))) 0 (ops.take n))
    (hend : ∀ (vs : Nat → Value) w, Below w0.heap.size w0 w → (∀ i, i < n → (tbl.getD i (.val undef)).holds (vs i) w) → Region.wanted last (yielded ops.toArray (putOps (ops.take n) 0 vs a0).tmps) = true ∧ last.wp P (putOps (ops.take n) 0 vs a0) w (fun a' w' => Q .normal a' w') Q) : (Code.region id ops.toArray true).wp P Q a0 w0 := by
  simp only [factsB, Bool.and_eq_true, List.all_eq_true, decide_eq_true_eq] at hB
  obtain ⟨⟨⟨_, hsome⟩, hnd⟩, hrange⟩ := hB
  have htl : (ops.take n).length = n := by rw [List.length_take]; omega
  rw [htl] at hrange
  have hget : ∀ i, i < n → (ops.take n)[i]? = ops[i]? := fun i hi => by rw [List.getElem?_take, if_pos hi]
  have hdstE : ∀ i, i < n → dstOf (ops.take n) i = dstOf ops i := fun i hi => by unfold dstOf; rw [hget i hi]
  have hdst : ∀ (i : Nat) o, i < n → ops[i]? = some o → o.dst = some (dstOf ops i) := fun i o hi ho => by
    have hs := hsome o (List.mem_of_getElem? (by rw [hget i hi]; exact ho))
    obtain ⟨d, hd⟩ := Option.isSome_iff_exists.1 hs
    unfold dstOf; rw [ho]; simp [hd]
  have hlt : ∀ i, i < n → dstOf ops i < a0.tmps.size := fun i hi => by
    rw [← hdstE i hi]; simpa using hrange i (by simpa using hi)
  have hat : ∀ i, i < n → ∃ o, ops[i]? = some o := fun i hi => ⟨ops[i], List.getElem?_eq_getElem (by omega)⟩
  have hapart : ∀ i j, i < n → j < n → dstOf ops i = dstOf ops j → i = j := fun i j hi hj e => by
    obtain ⟨oi, ei⟩ := hat i hi
    obtain ⟨oj, ej⟩ := hat j hj
    have e1 := hdst i oi hi ei
    have e2 := hdst j oj hj ej
    have hp := List.pairwise_iff_getElem.1 hnd
    have hi' : i < ((ops.take n).map (·.dst)).length := by simp; omega
    have hj' : j < ((ops.take n).map (·.dst)).length := by simp; omega
    have q1 : ops[i]'(by omega) = oi := (List.getElem?_eq_some_iff.1 ei).2
    have q2 : ops[j]'(by omega) = oj := (List.getElem?_eq_some_iff.1 ej).2
    rcases Nat.lt_trichotomy i j with q | q | q
    · exact absurd (by simp [q1, q2, e1, e2, e]) (hp i j hi' hj' q)
    · exact q
    · exact absurd (by simp [q1, q2, e1, e2, e]) (hp j i hj' hi' q)
  have hdl : ∀ i, i < n → i ∈ depsOf last := fun i hi => by
    unfold lastB at hL
    rw [List.all_eq_true] at hL
    simpa using hL i (by simpa using hi)
  refine wp_region_inv hm (fun l a w => (l.getD n true = true → Q .normal a w) ∧ (l.getD n true = false → a.defers = a0.defers ∧ a.tmps.size = a0.tmps.size ∧ (∀ k, (∀ i, i < n → dstOf ops i ≠ k) → a.tmps[k]? = a0.tmps[k]?) ∧ Below w0.heap.size w0 w ∧ ∀ i, i < n → l.getD i true = true → (tbl.getD i (.val undef)).holds (valOf ops a i) w))
    ⟨fun h => by simp [Array.getD, hn] at h, fun _ => ⟨rfl, rfl, fun _ _ => rfl, (Below.refl _ _).drew, fun i hi h => by simp [Array.getD, hn, Nat.lt_succ_of_lt hi] at h⟩⟩ ?_
  intro l a w hl hc ⟨jq, jr⟩
  have hlen : l.size = n + 1 := by simpa [hn] using hl
  have hto : ∀ i, i < n + 1 → l.getD i false = true → l.getD i true = true := fun i hi h => by
    simp [Array.getD, hlen, hi] at h ⊢; exact h
  cases hln : l.getD n true with
  | true =>
    left
    have hall : ∀ i, l.getD i true = true := fun i => by
      rcases Nat.lt_trichotomy i n with q | q | q
      · have hd := hdl i q
        obtain ⟨e, he, qe⟩ := List.mem_map.1 hd
        obtain ⟨he1, he2⟩ := List.mem_filter.1 he
        have := hc n last (by simpa using hlast) hln e (by simpa using he1) he2
        rw [qe] at this
        exact hto i (by omega) this
      · rw [q]; exact hln
      · simp [Array.getD, hlen, Nat.not_lt.mpr (show n + 1 ≤ i by omega)]
    rw [rem_all hall]
    refine ⟨?_, jq hln⟩
    rw [List.eq_nil_iff_forall_not_mem]
    intro i hi
    have := (mem_ready.1 hi).1
    rw [hall i] at this; cases this
  | false =>
    right
    obtain ⟨j1, j2, j3, j4, j5⟩ := jr hln
    have hin : ∀ i, l.getD i true = false → i < n + 1 := fun i h => by
      rcases Nat.lt_or_ge i l.size with q | q
      · omega
      · simp [Array.getD, Nat.not_lt.mpr q] at h
    have hmin : ∃ i, l.getD i true = false ∧ ∀ j, j < i → l.getD j true = true := by
      have hex : ∃ i, l.getD i true = false := ⟨n, hln⟩
      obtain ⟨i, hi⟩ := hex
      induction i using Nat.strongRecOn with
      | _ i ih =>
        rcases Classical.em (∃ j, j < i ∧ l.getD j true = false) with ⟨j, hji, hj⟩ | q
        · exact ih j hji hj
        · refine ⟨i, hi, fun j hj => ?_⟩
          cases h : l.getD j true with
          | true => rfl
          | false => exact absurd ⟨j, hj, h⟩ q
    refine ⟨?_, ?_⟩
    · obtain ⟨i, hi, hj⟩ := hmin
      have hil : i < ops.length := by have := hin i hi; omega
      refine List.ne_nil_of_mem (a := i) (mem_ready.2 ⟨hi, ops[i], by simp [hil], fun e he hb => ?_⟩)
      have hdep : e.on ∈ depsOf ops[i] := List.mem_map.2 ⟨e, List.mem_filter.2 ⟨by simpa using he, hb⟩, rfl⟩
      have h1 := earlyB_get ops 0 i ops[i] hE (List.getElem?_eq_getElem hil) e.on hdep
      have h2 := hj e.on (by omega)
      have h3 : e.on < l.size := by omega
      simp [Array.getD, h3] at h2 ⊢
      exact h2
    · intro i hi
      obtain ⟨hu, o, ho, hdeps⟩ := mem_ready.1 hi
      have ho' : ops[i]? = some o := by simpa using ho
      have hil := hin i hu
      have hdeps' : ∀ j ∈ depsOf o, l.getD j false = true := fun j hj => by
        obtain ⟨e, he, q⟩ := List.mem_map.1 hj
        obtain ⟨he1, he2⟩ := List.mem_filter.1 he
        subst q
        exact hdeps e (by simpa using he1) he2
      by_cases hin' : i = n
      · subst hin'
        rw [hlast] at ho'
        cases ho'
        have hall : ∀ j, j < i → l.getD j true = true := fun j hj => hto j (by omega) (hdeps' j (hdl j hj))
        have e := putOps_eq a (ops.take i) 0 (fun i => valOf ops a i) a0 j1.symm j2.symm (fun k hk => (j3 k (fun m hm q => by
          obtain ⟨om, em⟩ := hat m hm
          exact hk om (List.mem_of_getElem? (by rw [hget m hm]; exact em)) (by rw [hdst m om hm em, q]))).symm) (fun j o ho => by
          have hj : j < i := by
            have := (List.getElem?_eq_some_iff.1 ho).1
            omega
          rw [hget j hj] at ho
          refine ⟨_, hdst j o hj ho, ?_⟩
          have h1 : dstOf ops j < a.tmps.size := by rw [j2]; exact hlt j hj
          rw [Array.getElem?_eq_getElem h1, Nat.zero_add]
          unfold valOf
          simp [Array.getD, h1])
        obtain ⟨hw, hx⟩ := hend (fun i => valOf ops a i) w j4 (fun j hj => j5 j hj (hall j hj))
        rw [e] at hw hx
        unfold wpOp
        rw [ho]
        show if Region.wanted last (yielded ops.toArray a.tmps) = true then _ else _
        rw [if_pos hw]
        refine .inl (Oper.wp_mono (fun a' w' hq => ⟨fun _ => hq, fun h => ?_⟩) hx)
        simp [Array.getD, hlen] at h
      · have hi' : i < n := by omega
        have hx := eachOp_get (ops.take n) 0 i o hop (by rw [hget i hi']; exact ho') a w (fun k hk => by
          have := j3 k hk
          rw [Array.getD_eq_getD_getElem?, Array.getD_eq_getD_getElem?, this]) j4 (fun j hj => by
            have hjn : j < n := by
              have := earlyB_get ops 0 i o hE ho' j hj
              omega
            exact j5 j hjn (hto j (by omega) (hdeps' j hj)))
        rw [Nat.zero_add] at hx
        obtain ⟨hw, hx⟩ := hx
        unfold wpOp
        rw [ho]
        show if Region.wanted o (yielded ops.toArray a.tmps) = true then _ else _
        rw [if_pos hw]
        refine .inl (hx _ (fun v w' hb hf => ?_))
        have hd := hdst i o hi' ho'
        have hdl' := hlt i hi'
        rw [getD_set_ne true (show i ≠ n by omega), hln]
        refine ⟨fun h => (by cases h), fun _ => ⟨by rw [put_defers']; exact j1, by rw [put_size]; exact j2, fun k hk => ?_, j4.trans (hb.mono j4.size), fun j hj hlj => ?_⟩⟩
        · rw [hd]
          show (a.tmps.setIfInBounds _ v)[k]? = _
          rw [Array.getElem?_setIfInBounds_ne (hk i hi')]
          exact j3 k hk
        · by_cases hji : i = j
          · subst hji
            have : valOf ops (a.put o.dst v) i = v := by
              unfold valOf
              rw [hd]
              show (a.tmps.setIfInBounds (dstOf ops i) v).getD (dstOf ops i) undef = v
              have h1 : dstOf ops i < a.tmps.size := by rw [j2]; exact hdl'
              simp [Array.getD, h1]
            rw [this]; exact hf
          · have e : valOf ops (a.put o.dst v) j = valOf ops a j := by
              unfold valOf
              rw [hd]
              show (a.tmps.setIfInBounds (dstOf ops i) v).getD (dstOf ops j) undef = _
              have hne : dstOf ops i ≠ dstOf ops j := fun q => hji (hapart i j hi' hj q)
              rw [Array.getD_eq_getD_getElem?, Array.getD_eq_getD_getElem?, Array.getElem?_setIfInBounds_ne hne]
            rw [e]
            rw [getD_set_ne true hji] at hlj
            exact Fact.later (j5 j hj hlj) hb
end Go.Proofs.Ytkagapgganoomaa
/- A region that draws its order, whose last operations come one behind the other (an append, a store, an assignment of what stands ahead): facts for the others, a walk for the last ones. Own work. -/
namespace Go.Proofs.Ytkagapgganoomaa
open Go.RowKit
/-- Operation j stands ahead of operation i, by what they wait for. -/
def ancB (ops : List Oper) : Nat → Nat → Nat → Bool
  | 0, _, _ => false
  | f + 1, j, i => match ops[i]? with
    | none => false
    | some o => (depsOf o).any fun k => k == j || ancB ops f j k
/-- From place n on each operation waits for all ahead of it. -/
def tailB (ops : List Oper) (n : Nat) : Bool := (List.range ops.length).all fun i => decide (i < n) || (List.range i).all fun j => ancB ops ops.length j i
theorem anc_listed {ops : List Oper} {l : Array Bool} (hc : Closed ops.toArray l) (hs : l.size = ops.length) : ∀ (f j i : Nat) (o : Oper), ops[i]? = some o → (∀ k ∈ depsOf o, l.getD k false = true) → ancB ops f j i = true → l.getD j false = true
  | 0, _, _, _, _, _, h => by cases h
  | f + 1, j, i, o, ho, hd, h => by
    simp only [ancB, ho, List.any_eq_true, Bool.or_eq_true, beq_iff_eq] at h
    obtain ⟨k, hk, hh⟩ := h
    rcases hh with q | q
    · subst q; exact hd k hk
    · have hkl := hd k hk
      cases e : ops[k]? with
      | none =>
        exfalso
        cases f with
        | zero => cases q
        | succ f => simp [ancB, e] at q
      | some o' =>
        have hkt : l.getD k true = true := by
          have h3 : k < l.size := by rw [hs]; exact (List.getElem?_eq_some_iff.1 e).1
          simp [Array.getD, h3] at hkl ⊢; exact hkl
        refine anc_listed hc hs f j k o' e (fun m hm => ?_) q
        obtain ⟨x, hx, qe⟩ := List.mem_map.1 hm
        obtain ⟨hx1, hx2⟩ := List.mem_filter.1 hx
        have := hc k o' (by simpa using e) hkt x (by simpa using hx1) hx2
        rw [qe] at this; exact this
theorem wp_region_tail {P : Program} {id : Nat} {ops : List Oper} {Q : Exit → Act → World → Prop} {a0 : Act} {w0 : World} (hm : P.follows .mixedOrders = true) (n : Nat) (hn : n < ops.length)
    (hB : factsB (ops.take n) a0.tmps.size = true) (hL : tailB ops n = true) (hE : earlyB 0 ops = true) (tbl : List Fact)
    (hop : eachOp (fun i o => ∀ a w, (∀ k, (∀ i, i < n → dstOf ops i ≠ k) → a.tmps.getD k undef = a0.tmps.getD k undef) → Below w0.heap.size w0 w → (∀ j ∈ depsOf o, (tbl.getD j (.val undef)).holds (valOf ops a j) w) → Does P ops Q o a w (tbl.getD i (.val undef))) 0 (ops.take n))
    (hend : ∀ (vs : Nat → Value) w, Below w0.heap.size w0 w → (∀ i, i < n → (tbl.getD i (.val undef)).holds (vs i) w) → wpList P ops.toArray Q (ops.drop n) (putOps (ops.take n) 0 vs a0) w) : (Code.region id ops.toArray true).wp P Q a0 w0 := by
  simp only [factsB, Bool.and_eq_true, List.all_eq_true, decide_eq_true_eq] at hB
  obtain ⟨⟨⟨_, hsome⟩, hnd⟩, hrange⟩ := hB
  have htl : (ops.take n).length = n := by rw [List.length_take]; omega
  rw [htl] at hrange
  have hget : ∀ i, i < n → (ops.take n)[i]? = ops[i]? := fun i hi => by rw [List.getElem?_take, if_pos hi]
  have hdstE : ∀ i, i < n → dstOf (ops.take n) i = dstOf ops i := fun i hi => by unfold dstOf; rw [hget i hi]
  have hdst : ∀ (i : Nat) o, i < n → ops[i]? = some o → o.dst = some (dstOf ops i) := fun i o hi ho => by
    have hs := hsome o (List.mem_of_getElem? (by rw [hget i hi]; exact ho))
    obtain ⟨d, hd⟩ := Option.isSome_iff_exists.1 hs
    unfold dstOf; rw [ho]; simp [hd]
  have hlt : ∀ i, i < n → dstOf ops i < a0.tmps.size := fun i hi => by
    rw [← hdstE i hi]; simpa using hrange i (by simpa using hi)
  have hat : ∀ i, i < n → ∃ o, ops[i]? = some o := fun i hi => ⟨ops[i], List.getElem?_eq_getElem (by omega)⟩
  have hapart : ∀ i j, i < n → j < n → dstOf ops i = dstOf ops j → i = j := fun i j hi hj e => by
    obtain ⟨oi, ei⟩ := hat i hi
    obtain ⟨oj, ej⟩ := hat j hj
    have e1 := hdst i oi hi ei
    have e2 := hdst j oj hj ej
    have hp := List.pairwise_iff_getElem.1 hnd
    have hi' : i < ((ops.take n).map (·.dst)).length := by simp; omega
    have hj' : j < ((ops.take n).map (·.dst)).length := by simp; omega
    have q1 : ops[i]'(by omega) = oi := (List.getElem?_eq_some_iff.1 ei).2
    have q2 : ops[j]'(by omega) = oj := (List.getElem?_eq_some_iff.1 ej).2
    rcases Nat.lt_trichotomy i j with q | q | q
    · exact absurd (by simp [q1, q2, e1, e2, e]) (hp i j hi' hj' q)
    · exact q
    · exact absurd (by simp [q1, q2, e1, e2, e]) (hp j i hj' hi' q)
  have hanc : ∀ i, n ≤ i → i < ops.length → ∀ j, j < i → ancB ops ops.length j i = true := fun i h1 h2 j h3 => by
    unfold tailB at hL
    rw [List.all_eq_true] at hL
    have h := hL i (by simpa using h2)
    simp only [Bool.or_eq_true, decide_eq_true_eq, List.all_eq_true] at h
    rcases h with q | q
    · omega
    · exact q j (by simpa using h3)
  refine wp_region_inv hm (fun l a w => (l.getD n true = false ∧ a.defers = a0.defers ∧ a.tmps.size = a0.tmps.size ∧ (∀ k, (∀ i, i < n → dstOf ops i ≠ k) → a.tmps[k]? = a0.tmps[k]?) ∧ Below w0.heap.size w0 w ∧ ∀ i, i < n → l.getD i true = true → (tbl.getD i (.val undef)).holds (valOf ops a i) w) ∨
      ∃ t, n < t ∧ t ≤ ops.length ∧ (∀ i, i < t → l.getD i true = true) ∧ (∀ i, t ≤ i → i < ops.length → l.getD i true = false) ∧ wpList P ops.toArray Q (ops.drop t) a w)
    (.inl ⟨by simp [Array.getD, hn], rfl, rfl, fun _ _ => rfl, (Below.refl _ _).drew, fun i hi h => by simp [Array.getD, Nat.lt_trans hi hn] at h⟩) ?_
  intro l a w hl hc hj
  have hlen : l.size = ops.length := by simpa using hl
  have hto : ∀ i, i < ops.length → l.getD i false = true → l.getD i true = true := fun i hi h => by
    simp [Array.getD, hlen, hi] at h ⊢; exact h
  have hfr : ∀ i, i < ops.length → l.getD i true = false → l.getD i false = false := fun i hi h => by
    simp [Array.getD, hlen, hi] at h ⊢; exact h
  have hin : ∀ i, l.getD i true = false → i < ops.length := fun i h => by
    rcases Nat.lt_or_ge i l.size with q | q
    · omega
    · simp [Array.getD, Nat.not_lt.mpr q] at h
  have hne : (∃ i, l.getD i true = false) → Region.ready .any ops.toArray l ≠ [] := fun hex => by
    have hmin : ∃ i, l.getD i true = false ∧ ∀ j, j < i → l.getD j true = true := by
      obtain ⟨i, hi⟩ := hex
      induction i using Nat.strongRecOn with
      | _ i ih =>
        rcases Classical.em (∃ j, j < i ∧ l.getD j true = false) with ⟨j, hji, hj⟩ | q
        · exact ih j hji hj
        · refine ⟨i, hi, fun j hj => ?_⟩
          cases h : l.getD j true with
          | true => rfl
          | false => exact absurd ⟨j, hj, h⟩ q
    obtain ⟨i, hi, hj⟩ := hmin
    have hil := hin i hi
    refine List.ne_nil_of_mem (a := i) (mem_ready.2 ⟨hi, ops[i], by simp [hil], fun e he hb => ?_⟩)
    have hdep : e.on ∈ depsOf ops[i] := List.mem_map.2 ⟨e, List.mem_filter.2 ⟨by simpa using he, hb⟩, rfl⟩
    have h1 := earlyB_get ops 0 i ops[i] hE (List.getElem?_eq_getElem hil) e.on hdep
    have h2 := hj e.on (by omega)
    have h3 : e.on < l.size := by omega
    simp [Array.getD, h3] at h2 ⊢
    exact h2
  have hready : ∀ i ∈ Region.ready .any ops.toArray l, ∃ o, ops[i]? = some o ∧ l.getD i true = false ∧ ∀ j ∈ depsOf o, l.getD j false = true := fun i hi => by
    obtain ⟨hu, o, ho, hdeps⟩ := mem_ready.1 hi
    refine ⟨o, by simpa using ho, hu, fun j hj => ?_⟩
    obtain ⟨e, he, q⟩ := List.mem_map.1 hj
    obtain ⟨he1, he2⟩ := List.mem_filter.1 he
    subst q
    exact hdeps e (by simpa using he1) he2
  have hset : ∀ i, l.getD i true = false → ∀ j, (l.setIfInBounds i true).getD j true = if i = j then true else l.getD j true := fun i hi j => by
    by_cases h : i = j
    · subst h; rw [if_pos rfl]; simp [Array.getD, hlen, hin i hi]
    · rw [if_neg h, getD_set_ne true h]
  rcases hj with ⟨hln, j1, j2, j3, j4, j5⟩ | ⟨t, ht1, ht2, ht3, ht4, hwp⟩
  · right
    refine ⟨hne ⟨n, hln⟩, ?_⟩
    intro i hi
    obtain ⟨o, ho', hu, hdeps'⟩ := hready i hi
    have hil := hin i hu
    rcases Nat.lt_trichotomy i n with hi' | hi' | hi'
    · have hx := eachOp_get (ops.take n) 0 i o hop (by rw [hget i hi']; exact ho') a w (fun k hk => by
        have := j3 k hk
        rw [Array.getD_eq_getD_getElem?, Array.getD_eq_getD_getElem?, this]) j4 (fun j hj => by
          have hjn : j < n := by
            have := earlyB_get ops 0 i o hE ho' j hj
            omega
          exact j5 j hjn (hto j (by omega) (hdeps' j hj)))
      rw [Nat.zero_add] at hx
      obtain ⟨hw, hx⟩ := hx
      unfold wpOp
      rw [show ops.toArray[i]? = some o by simpa using ho']
      show if Region.wanted o (yielded ops.toArray a.tmps) = true then _ else _
      rw [if_pos hw]
      refine .inl (hx _ (fun v w' hb hf => .inl ?_))
      have hd := hdst i o hi' ho'
      have hdl' := hlt i hi'
      rw [getD_set_ne true (show i ≠ n by omega)]
      refine ⟨hln, by rw [put_defers']; exact j1, by rw [put_size]; exact j2, fun k hk => ?_, j4.trans (hb.mono j4.size), fun j hj hlj => ?_⟩
      · rw [hd]
        show (a.tmps.setIfInBounds _ v)[k]? = _
        rw [Array.getElem?_setIfInBounds_ne (hk i hi')]
        exact j3 k hk
      · by_cases hji : i = j
        · subst hji
          have : valOf ops (a.put o.dst v) i = v := by
            unfold valOf
            rw [hd]
            show (a.tmps.setIfInBounds (dstOf ops i) v).getD (dstOf ops i) undef = v
            have h1 : dstOf ops i < a.tmps.size := by rw [j2]; exact hdl'
            simp [Array.getD, h1]
          rw [this]; exact hf
        · have e : valOf ops (a.put o.dst v) j = valOf ops a j := by
            unfold valOf
            rw [hd]
            show (a.tmps.setIfInBounds (dstOf ops i) v).getD (dstOf ops j) undef = _
            have hne : dstOf ops i ≠ dstOf ops j := fun q => hji (hapart i j hi' hj q)
            rw [Array.getD_eq_getD_getElem?, Array.getD_eq_getD_getElem?, Array.getElem?_setIfInBounds_ne hne]
          rw [e]
          rw [getD_set_ne true hji] at hlj
          exact Fact.later (j5 j hj hlj) hb
    · subst hi'
      have hall : ∀ j, j < i → l.getD j true = true := fun j hj => hto j (by omega) (anc_listed hc hlen _ j i o ho' hdeps' (hanc i (Nat.le_refl _) hil j hj))
      have e := putOps_eq a (ops.take i) 0 (fun i => valOf ops a i) a0 j1.symm j2.symm (fun k hk => (j3 k (fun m hm q => by
        obtain ⟨om, em⟩ := hat m hm
        exact hk om (List.mem_of_getElem? (by rw [hget m hm]; exact em)) (by rw [hdst m om hm em, q]))).symm) (fun j o ho => by
        have hj : j < i := by
          have := (List.getElem?_eq_some_iff.1 ho).1
          omega
        rw [hget j hj] at ho
        refine ⟨_, hdst j o hj ho, ?_⟩
        have h1 : dstOf ops j < a.tmps.size := by rw [j2]; exact hlt j hj
        rw [Array.getElem?_eq_getElem h1, Nat.zero_add]
        unfold valOf
        simp [Array.getD, h1])
      have hx := hend (fun i => valOf ops a i) w j4 (fun j hj => j5 j hj (hall j hj))
      rw [e] at hx
      have hu' : ∀ m, i < m → m < ops.length → l.getD m true = false := fun m h1 h2 => by
        cases hm : l.getD m true with
        | false => rfl
        | true =>
          exfalso
          have hmo : ops[m]? = some ops[m] := List.getElem?_eq_getElem h2
          have := anc_listed hc hlen _ i m ops[m] hmo (fun k hk => by
            obtain ⟨x, hx, qe⟩ := List.mem_map.1 hk
            obtain ⟨hx1, hx2⟩ := List.mem_filter.1 hx
            have := hc m ops[m] (by simp [h2]) hm x (by simpa using hx1) hx2
            rw [qe] at this; exact this) (hanc m (by omega) h2 i h1)
          rw [hfr i hil hu] at this; cases this
      rw [List.drop_eq_getElem_cons hil] at hx
      have hoe : ops[i] = o := (List.getElem?_eq_some_iff.1 ho').2
      rw [hoe] at hx
      have key : wpOp P ops.toArray Q i (wpList P ops.toArray Q (ops.drop (i + 1))) a w := by
        unfold wpOp
        rw [show ops.toArray[i]? = some o by simpa using ho']
        exact hx
      refine wpOp_mono (fun a' w' hq => .inr ⟨i + 1, by omega, by omega, fun j hj => ?_, fun j h1 h2 => ?_, hq⟩) key
      · rw [hset i hu]
        split
        · rfl
        · exact hall j (by omega)
      · rw [hset i hu, if_neg (by omega)]
        exact hu' j (by omega) h2
    · exfalso
      have := anc_listed hc hlen _ n i o ho' hdeps' (hanc i (by omega) hil n hi')
      rw [hfr n hn hln] at this; cases this
  · by_cases hte : t = ops.length
    · left
      have hall : ∀ i, l.getD i true = true := fun i => by
        rcases Nat.lt_or_ge i ops.length with q | q
        · exact ht3 i (by omega)
        · simp [Array.getD, hlen, Nat.not_lt.mpr q]
      rw [rem_all hall]
      refine ⟨?_, ?_⟩
      · rw [List.eq_nil_iff_forall_not_mem]
        intro i hi
        have := (mem_ready.1 hi).1
        rw [hall i] at this; cases this
      · rw [hte, List.drop_length] at hwp
        exact hwp
    · right
      have htl' : t < ops.length := by omega
      refine ⟨hne ⟨t, ht4 t (Nat.le_refl _) htl'⟩, ?_⟩
      intro i hi
      obtain ⟨o, ho', hu, hdeps'⟩ := hready i hi
      have hil := hin i hu
      have hit : i = t := by
        rcases Nat.lt_trichotomy i t with q | q | q
        · rw [ht3 i q] at hu; cases hu
        · exact q
        · exfalso
          have := anc_listed hc hlen _ t i o ho' hdeps' (hanc i (by omega) hil t q)
          rw [hfr t htl' (ht4 t (Nat.le_refl _) htl')] at this; cases this
      subst hit
      rw [List.drop_eq_getElem_cons hil] at hwp
      have hoe : ops[i] = o := (List.getElem?_eq_some_iff.1 ho').2
      rw [hoe] at hwp
      have key : wpOp P ops.toArray Q i (wpList P ops.toArray Q (ops.drop (i + 1))) a w := by
        unfold wpOp
        rw [show ops.toArray[i]? = some o by simpa using ho']
        exact hwp
      refine wpOp_mono (fun a' w' hq => .inr ⟨i + 1, by omega, by omega, fun j hj => ?_, fun j h1 h2 => ?_, hq⟩) key
      · rw [hset i hu]
        split
        · rfl
        · exact ht3 j (by omega)
      · rw [hset i hu, if_neg (by omega)]
        exact ht4 j (by omega) h2
end Go.Proofs.Ytkagapgganoomaa
/- A region that draws its order in which one operation turns the world and all others leave what is known of it: a table of facts, and what holds of the world ahead of that operation and behind it. Own work. -/
namespace Go.Proofs.Ytkagapgganoomaa
open Go.RowKit
/-- What is known of an operation's value, where block g may turn: what reads as bytes stands elsewhere. -/
def Fact.apart (g : Nat) : Fact → Value → World → Prop
  | .val x, v, _ => v = x
  | .rd l, v, w => Rd w v l ∧ v.ownBlock ≠ some g
theorem Fact.turned {g : Nat} {f : Fact} {v : Value} {w w' : World} (h : f.apart g v w) (hb : w.grownBy w' (some g)) : f.apart g v w' := by
  cases f with
  | val x => exact h
  | rd l => exact ⟨h.1.grown hb (.inr h.2), h.2⟩
/-- What an operation of the region does: it makes the fact f, and the world goes from one that meets I to one that meets I', of the old blocks at the most g turning. -/
def Turns (P : Program) (ops : List Oper) (Q : Exit → Act → World → Prop) (g : Nat) (I' : World → Prop) (o : Oper) (a : Act) (w : World) (f : Fact) : Prop :=
  Region.wanted o (yielded ops.toArray a.tmps) = true ∧ ∀ K : Act → World → Prop, (∀ v w', w.grownBy w' (some g) → I' w' → f.apart g v w' → K (a.put o.dst v) w') → o.wp P a w K Q
theorem wp_region_turn {P : Program} {id : Nat} {ops : List Oper} {Q : Exit → Act → World → Prop} {a0 : Act} {w0 : World} (hm : P.follows .mixedOrders = true) (hB : factsB ops a0.tmps.size = true) (tbl : List Fact) (g m : Nat) (hmo : m < ops.length) (I : Bool → World → Prop) (hI0 : I false w0.drew)
    (hop : eachOp (fun i o => ∀ a w (b : Bool), (∀ k, (∀ i, i < ops.length → dstOf ops i ≠ k) → a.tmps.getD k undef = a0.tmps.getD k undef) → w0.grownBy w (some g) → I b w → (i = m → b = false) → (∀ j ∈ depsOf o, (tbl.getD j (.val undef)).apart g (valOf ops a j) w) → Turns P ops Q g (I (b || i == m)) o a w (tbl.getD i (.val undef))) 0 ops)
    (hend : ∀ (vs : Nat → Value) w, w0.grownBy w (some g) → I true w → (∀ i, i < ops.length → (tbl.getD i (.val undef)).apart g (vs i) w) → Q .normal (putOps ops 0 vs a0) w) : (Code.region id ops.toArray true).wp P Q a0 w0 := by
  simp only [factsB, Bool.and_eq_true, List.all_eq_true, decide_eq_true_eq] at hB
  obtain ⟨⟨⟨hearly, hsome⟩, hnd⟩, hrange⟩ := hB
  have hdst : ∀ (i : Nat) o, ops[i]? = some o → o.dst = some (dstOf ops i) := fun i o ho => by
    have hs := hsome o (List.mem_of_getElem? ho)
    obtain ⟨d, hd⟩ := Option.isSome_iff_exists.1 hs
    unfold dstOf; rw [ho]; simp [hd]
  have hlt : ∀ i, i < ops.length → dstOf ops i < a0.tmps.size := fun i hi => by simpa using hrange i (by simpa using hi)
  have hapart : ∀ i j, i < ops.length → j < ops.length → dstOf ops i = dstOf ops j → i = j := fun i j hi hj e => by
    have e1 := hdst i ops[i] (List.getElem?_eq_getElem hi)
    have e2 := hdst j ops[j] (List.getElem?_eq_getElem hj)
    have hi' : i < (ops.map (·.dst)).length := by simpa using hi
    have hj' : j < (ops.map (·.dst)).length := by simpa using hj
    have hp := List.pairwise_iff_getElem.1 hnd
    rcases Nat.lt_trichotomy i j with q | q | q
    · exact absurd (by simp [e1, e2, e]) (hp i j hi' hj' q)
    · exact q
    · exact absurd (by simp [e1, e2, e]) (hp j i hj' hi' q)
  refine wp_region_inv hm (fun l a w => a.defers = a0.defers ∧ a.tmps.size = a0.tmps.size ∧ (∀ k, (∀ i, i < ops.length → dstOf ops i ≠ k) → a.tmps[k]? = a0.tmps[k]?) ∧ w0.grownBy w (some g) ∧ I (l.getD m true) w ∧ ∀ i, i < ops.length → l.getD i true = true → (tbl.getD i (.val undef)).apart g (valOf ops a i) w)
    ⟨rfl, rfl, fun _ _ => rfl, grown_of_below (Below.refl _ _).drew _, by simpa [Array.getD, hmo] using hI0, fun i hi h => by simp [Array.getD, hi] at h⟩ ?_
  intro l a w hl hc ⟨j1, j2, j3, j4, jI, j5⟩
  have hlen : l.size = ops.length := by simpa using hl
  by_cases hall : ∀ i, l.getD i true = true
  · left
    rw [rem_all hall]
    refine ⟨?_, ?_⟩
    · rw [List.eq_nil_iff_forall_not_mem]
      intro i hi
      have := (mem_ready.1 hi).1
      rw [hall i] at this; cases this
    · have e := putOps_eq a ops 0 (fun i => valOf ops a i) a0 j1.symm j2.symm (fun k hk => (j3 k (fun i hi q => hk ops[i] (List.getElem_mem hi) (by rw [hdst i ops[i] (List.getElem?_eq_getElem hi), q]))).symm) (fun j o ho => by
        have hj : j < ops.length := (List.getElem?_eq_some_iff.1 ho).1
        refine ⟨_, hdst j o ho, ?_⟩
        have h1 : dstOf ops j < a.tmps.size := by rw [j2]; exact hlt j hj
        rw [Array.getElem?_eq_getElem h1, Nat.zero_add]
        unfold valOf
        simp [Array.getD, h1])
      rw [← e]
      rw [hall m] at jI
      exact hend _ w j4 jI (fun i hi => j5 i hi (hall i))
  · right
    have hex : ∃ i, l.getD i true = false := by
      rcases Classical.em (∃ i, l.getD i true = false) with q | q
      · exact q
      · exact absurd (fun i => by
          cases h : l.getD i true with
          | true => rfl
          | false => exact absurd ⟨i, h⟩ q) hall
    have hmin : ∃ i, l.getD i true = false ∧ ∀ j, j < i → l.getD j true = true := by
      obtain ⟨i, hi⟩ := hex
      induction i using Nat.strongRecOn with
      | _ i ih =>
        rcases Classical.em (∃ j, j < i ∧ l.getD j true = false) with ⟨j, hji, hj⟩ | q
        · exact ih j hji hj
        · refine ⟨i, hi, fun j hj => ?_⟩
          cases h : l.getD j true with
          | true => rfl
          | false => exact absurd ⟨j, hj, h⟩ q
    have hin : ∀ i, l.getD i true = false → i < ops.length := fun i h => by
      rcases Nat.lt_or_ge i l.size with q | q
      · omega
      · simp [Array.getD, Nat.not_lt.mpr q] at h
    refine ⟨?_, ?_⟩
    · obtain ⟨i, hi, hj⟩ := hmin
      have hil := hin i hi
      refine List.ne_nil_of_mem (a := i) (mem_ready.2 ⟨hi, ops[i], by simp [hil], fun e he hb => ?_⟩)
      have hdep : e.on ∈ depsOf ops[i] := List.mem_map.2 ⟨e, List.mem_filter.2 ⟨by simpa using he, hb⟩, rfl⟩
      have h1 := earlyB_get ops 0 i ops[i] hearly (List.getElem?_eq_getElem hil) e.on hdep
      have h2 := hj e.on (by omega)
      have h3 : e.on < l.size := by omega
      simp [Array.getD, h3] at h2 ⊢
      exact h2
    · intro i hi
      obtain ⟨hu, o, ho, hdeps⟩ := mem_ready.1 hi
      have ho' : ops[i]? = some o := by simpa using ho
      have hil : i < ops.length := (List.getElem?_eq_some_iff.1 ho').1
      have hx := eachOp_get ops 0 i o hop ho' a w (l.getD m true) (fun k hk => by
        have := j3 k hk
        rw [Array.getD_eq_getD_getElem?, Array.getD_eq_getD_getElem?, this]) j4 jI (fun q => by rw [Nat.zero_add] at q; subst q; exact hu) (fun j hj => by
          obtain ⟨e, he, q⟩ := List.mem_map.1 hj
          obtain ⟨he1, he2⟩ := List.mem_filter.1 he
          subst q
          have h1 := hdeps e (by simpa using he1) he2
          have h3 : e.on < l.size := by
            rcases Nat.lt_or_ge e.on l.size with z | z
            · exact z
            · simp [Array.getD, Nat.not_lt.mpr z] at h1
          exact j5 e.on (by omega) (by simp [Array.getD, h3] at h1 ⊢; exact h1))
      rw [Nat.zero_add] at hx
      obtain ⟨hw, hx⟩ := hx
      unfold wpOp
      rw [ho]
      show if Region.wanted o (yielded ops.toArray a.tmps) = true then _ else _
      rw [if_pos hw]
      refine .inl (hx _ (fun v w' hb hI hf => ?_))
      have hd := hdst i o ho'
      have hdl := hlt i hil
      refine ⟨by rw [put_defers']; exact j1, by rw [put_size]; exact j2, fun k hk => ?_, only_trans j4 hb, ?_, fun j hj hlj => ?_⟩
      · rw [hd]
        show (a.tmps.setIfInBounds _ v)[k]? = _
        rw [Array.getElem?_setIfInBounds_ne (hk i hil)]
        exact j3 k hk
      · by_cases him : i = m
        · subst him
          have e1 : (l.setIfInBounds i true).getD i true = true := by simp [Array.getD]
          rw [e1]
          simpa using hI
        · rw [getD_set_ne true him]
          have e1 : (i == m) = false := by simpa using him
          rw [e1, Bool.or_false] at hI
          exact hI
      · by_cases hji : i = j
        · subst hji
          have : valOf ops (a.put o.dst v) i = v := by
            unfold valOf
            rw [hd]
            show (a.tmps.setIfInBounds (dstOf ops i) v).getD (dstOf ops i) undef = v
            have h1 : dstOf ops i < a.tmps.size := by rw [j2]; exact hdl
            simp [Array.getD, h1]
          rw [this]; exact hf
        · have e : valOf ops (a.put o.dst v) j = valOf ops a j := by
            unfold valOf
            rw [hd]
            show (a.tmps.setIfInBounds (dstOf ops i) v).getD (dstOf ops j) undef = _
            have hne : dstOf ops i ≠ dstOf ops j := fun q => hji (hapart i j hil hj q)
            rw [Array.getD_eq_getD_getElem?, Array.getD_eq_getD_getElem?, Array.getElem?_setIfInBounds_ne hne]
          rw [e]
          rw [getD_set_ne true hji] at hlj
          exact Fact.turned (j5 j hj hlj) hb
/-- An operation that leaves the world as it is. -/
theorem turns_val {P : Program} {ops : List Oper} {Q : Exit → Act → World → Prop} {g : Nat} {I' : World → Prop} {o : Oper} {a : Act} {w : World} {f : Fact} {v : Value} (hw : Region.wanted o (yielded ops.toArray a.tmps) = true) (h : (execOp a.eval o).run P w = .ok (.value v) w) (hI : I' w) (hf : f.apart g v w) : Turns P ops Q g I' o a w f := by
  refine ⟨hw, fun K hK => ?_⟩
  unfold Oper.wp
  rw [h, Oper.upon_value]
  exact hK v w (World.grownBy.refl w _) hI hf
/-- An operation that calls what makes memory of its own. -/
theorem turns_call {P : Program} {ops : List Oper} {Q : Exit → Act → World → Prop} {g : Nat} {I' : World → Prop} {o : Oper} {a : Act} {w : World} {f : Fact} {fn : FuncId} {args : Array Value} (hw : Region.wanted o (yielded ops.toArray a.tmps) = true) (h : (execOp a.eval o).run P w = .ok (.enter fn args) w)
    (hc : Calls P fn args w fun e w' => ∃ v, e = .returned v ∧ f.apart g v w' ∧ Below w.heap.size w w' ∧ I' w') : Turns P ops Q g I' o a w f := by
  refine ⟨hw, fun K hK => ?_⟩
  unfold Oper.wp
  rw [h, Oper.upon_enter]
  refine hc.mono fun e w' hh => ?_
  obtain ⟨v, rfl, hf, hb, hI⟩ := hh
  exact hK v w' (grown_of_below hb _) hI hf
end Go.Proofs.Ytkagapgganoomaa
/- A region that draws its order, the general law: what is known of an operation's value is any lasting condition; an operation may turn the block of a value that it uses up (an append in place); blocks of the region's own stay apart; the last operations may come in order, walked. Own work. -/
namespace Go.Proofs.Ytkagapgganoomaa
open Go.RowKit
/-- The block that a value points into. -/
def held : Value → Option Nat
  | .slice (some a) _ _ => some a.block
  | .pointer (some a) => some a.block
  | _ => none
/-- What is known of an operation's value: a condition that lasts while the world grows, and while other blocks from B on turn. 'firm': it hangs on no block of the region's own. -/
structure Pred (B : Nat) where
  holds : Value → World → Prop
  firm : Bool
  last : ∀ {v w w'}, holds v w → Below w.heap.size w w' → holds v w'
  turn : ∀ {v w w' g}, holds v w → w.grownBy w' (some g) → B ≤ g → (firm = true ∨ held v ≠ some g) → holds v w'
def Pred.val {B : Nat} (x : Value) : Pred B := ⟨fun v _ => v = x, true, fun h _ => h, fun h _ _ _ => h⟩
theorem held_own {v : Value} {g : Nat} (h : held v ≠ some g) : v.ownBlock = none ∨ v.ownBlock ≠ some g := by
  unfold held at h
  unfold Value.ownBlock
  split
  · exact .inr h
  · exact .inl rfl
theorem own_held {v : Value} {g : Nat} (h : v.ownBlock = some g) : held v = some g := by
  unfold Value.ownBlock at h
  split at h
  · exact h
  · cases h
theorem own_held' {w : World} {v : Value} {l : List Nat} (hr : Rd w v l) {g : Nat} (h : held v = some g) : v.ownBlock = some g := by
  obtain ⟨ao, cap, rfl, _⟩ := hr.shape
  cases ao with
  | none => cases h
  | some a => exact h
def Pred.rd {B : Nat} (l : List Nat) : Pred B := ⟨fun v w => Rd w v l, false, Rd.below, fun h hg _ hne => h.grown hg (held_own (hne.resolve_left (by simp)))⟩
def Pred.own {B : Nat} (l : List Nat) : Pred B := ⟨fun v w => Own w B v l, false, Own.below, fun h hg _ hne => h.keep hg (held_own (hne.resolve_left (by simp)))⟩
section
variable {B : Nat}
/-- What an operation of the region does. -/
def DoesG (P : Program) (ops : List Oper) (Q : Exit → Act → World → Prop) (T : List (Pred B)) (U : Nat → Nat) (i : Nat) (o : Oper) (a : Act) (w : World) : Prop :=
  (Region.wanted o (yielded ops.toArray a.tmps) = true ∧ ∀ K : Act → World → Prop, (∀ v w', (T.getD i (.val undef)).holds v w' →
    (Below w.heap.size w w' ∨ ∃ d g, d ∈ depsOf o ∧ U d = i ∧ (T.getD d (.val undef)).firm = false ∧ held (valOf ops a d) = some g ∧ B ≤ g ∧ w.grownBy w' (some g)) →
    ((T.getD i (.val undef)).firm = false → ∀ g, held v = some g → g < w'.heap.size ∧ (w.heap.size ≤ g ∨ ∃ d, d ∈ depsOf o ∧ U d = i ∧ (T.getD d (.val undef)).firm = false ∧ held (valOf ops a d) = some g)) →
    K (a.put o.dst v) w') → o.wp P a w K Q) ∨
  (Region.wanted o (yielded ops.toArray a.tmps) = false ∧ (T.getD i (.val undef)).holds undef w ∧ (T.getD i (.val undef)).firm = true)
end
/-- Blocks of the region's own that are still held stay apart. -/
def Apart {B : Nat} (T : List (Pred B)) (n : Nat) (alive : Nat → Prop) (vs : Nat → Value) : Prop :=
  ∀ i j, i < n → j < n → i ≠ j → alive i → alive j → (T.getD i (.val undef)).firm = false → (T.getD j (.val undef)).firm = false → ∀ g, held (vs i) = some g → held (vs j) ≠ some g
theorem any_g {P : Program} {ops : List Oper} {Q : Exit → Act → World → Prop} {a0 : Act} {w0 : World} (n : Nat) (hn : n ≤ ops.length)
    (hB : factsB (ops.take n) a0.tmps.size = true) (hL : tailB ops n = true) (hE : earlyB 0 ops = true) (B : Nat) (hB0 : w0.heap.size ≤ B) (tbl : List (Pred B)) (U : Nat → Nat)
    (hop : eachOp (fun i o => ∀ a w, (∀ k, (∀ i, i < n → dstOf ops i ≠ k) → a.tmps.getD k undef = a0.tmps.getD k undef) → Below w0.heap.size w0 w → (∀ j ∈ depsOf o, U j = i ∨ n ≤ U j → (tbl.getD j (.val undef)).holds (valOf ops a j) w) → DoesG P ops Q tbl U i o a w) 0 (ops.take n))
    (hend : ∀ (vs : Nat → Value) w, Below w0.heap.size w0 w → (∀ i, i < n → n ≤ U i → (tbl.getD i (.val undef)).holds (vs i) w) → Apart tbl n (fun i => n ≤ U i) vs → wpList P ops.toArray Q (ops.drop n) (putOps (ops.take n) 0 vs a0) w) : RegAny P ops.toArray Q a0 w0 := by
  simp only [factsB, Bool.and_eq_true, List.all_eq_true, decide_eq_true_eq] at hB
  obtain ⟨⟨⟨_, hsome⟩, hnd⟩, hrange⟩ := hB
  have htl : (ops.take n).length = n := by rw [List.length_take]; omega
  rw [htl] at hrange
  have hget : ∀ i, i < n → (ops.take n)[i]? = ops[i]? := fun i hi => by rw [List.getElem?_take, if_pos hi]
  have hdstE : ∀ i, i < n → dstOf (ops.take n) i = dstOf ops i := fun i hi => by unfold dstOf; rw [hget i hi]
  have hdst : ∀ (i : Nat) o, i < n → ops[i]? = some o → o.dst = some (dstOf ops i) := fun i o hi ho => by
    have hs := hsome o (List.mem_of_getElem? (by rw [hget i hi]; exact ho))
    obtain ⟨d, hd⟩ := Option.isSome_iff_exists.1 hs
    unfold dstOf; rw [ho]; simp [hd]
  have hlt : ∀ i, i < n → dstOf ops i < a0.tmps.size := fun i hi => by
    rw [← hdstE i hi]; simpa using hrange i (by simpa using hi)
  have hat : ∀ i, i < n → ∃ o, ops[i]? = some o := fun i hi => ⟨ops[i], List.getElem?_eq_getElem (by omega)⟩
  have hapart : ∀ i j, i < n → j < n → dstOf ops i = dstOf ops j → i = j := fun i j hi hj e => by
    obtain ⟨oi, ei⟩ := hat i hi
    obtain ⟨oj, ej⟩ := hat j hj
    have e1 := hdst i oi hi ei
    have e2 := hdst j oj hj ej
    have hp := List.pairwise_iff_getElem.1 hnd
    have hi' : i < ((ops.take n).map (·.dst)).length := by simp; omega
    have hj' : j < ((ops.take n).map (·.dst)).length := by simp; omega
    have q1 : ops[i]'(by omega) = oi := (List.getElem?_eq_some_iff.1 ei).2
    have q2 : ops[j]'(by omega) = oj := (List.getElem?_eq_some_iff.1 ej).2
    rcases Nat.lt_trichotomy i j with q | q | q
    · exact absurd (by simp [q1, q2, e1, e2, e]) (hp i j hi' hj' q)
    · exact q
    · exact absurd (by simp [q1, q2, e1, e2, e]) (hp j i hj' hi' q)
  have hanc : ∀ i, n ≤ i → i < ops.length → ∀ j, j < i → ancB ops ops.length j i = true := fun i h1 h2 j h3 => by
    unfold tailB at hL
    rw [List.all_eq_true] at hL
    have h := hL i (by simpa using h2)
    simp only [Bool.or_eq_true, decide_eq_true_eq, List.all_eq_true] at h
    rcases h with q | q
    · omega
    · exact q j (by simpa using h3)
  refine any_inv (fun l a w => ((∀ i, n ≤ i → i < ops.length → l.getD i true = false) ∧ a.defers = a0.defers ∧ a.tmps.size = a0.tmps.size ∧ (∀ k, (∀ i, i < n → dstOf ops i ≠ k) → a.tmps[k]? = a0.tmps[k]?) ∧ Below w0.heap.size w0 w ∧ (∀ i, i < n → l.getD i true = true → l.getD (U i) false = false → (tbl.getD i (.val undef)).holds (valOf ops a i) w) ∧ (∀ i, i < n → l.getD i true = true → l.getD (U i) false = false → (tbl.getD i (.val undef)).firm = false → ∀ g, held (valOf ops a i) = some g → g < w.heap.size) ∧ Apart tbl n (fun i => l.getD i true = true ∧ l.getD (U i) false = false) (fun i => valOf ops a i)) ∨
      ∃ t, n < t ∧ t ≤ ops.length ∧ (∀ i, i < t → l.getD i true = true) ∧ (∀ i, t ≤ i → i < ops.length → l.getD i true = false) ∧ wpList P ops.toArray Q (ops.drop t) a w)
    (.inl ⟨fun i _ hi => by simp [Array.getD, hi], rfl, rfl, fun _ _ => rfl, (Below.refl _ _).drew, fun i hi h => by simp [Array.getD, Nat.lt_of_lt_of_le hi hn] at h, fun i hi h => by simp [Array.getD, Nat.lt_of_lt_of_le hi hn] at h, fun i j hi _ _ h => by simp [Array.getD, Nat.lt_of_lt_of_le hi hn] at h⟩) ?_
  intro l a w hl hc hj
  have hlen : l.size = ops.length := by simpa using hl
  have hto : ∀ i, i < ops.length → l.getD i false = true → l.getD i true = true := fun i hi h => by
    simp [Array.getD, hlen, hi] at h ⊢; exact h
  have hfr : ∀ i, i < ops.length → l.getD i true = false → l.getD i false = false := fun i hi h => by
    simp [Array.getD, hlen, hi] at h ⊢; exact h
  have hin : ∀ i, l.getD i true = false → i < ops.length := fun i h => by
    rcases Nat.lt_or_ge i l.size with q | q
    · omega
    · simp [Array.getD, Nat.not_lt.mpr q] at h
  have hne : (∃ i, l.getD i true = false) → Region.ready .any ops.toArray l ≠ [] := fun hex => by
    have hmin : ∃ i, l.getD i true = false ∧ ∀ j, j < i → l.getD j true = true := by
      obtain ⟨i, hi⟩ := hex
      induction i using Nat.strongRecOn with
      | _ i ih =>
        rcases Classical.em (∃ j, j < i ∧ l.getD j true = false) with ⟨j, hji, hj⟩ | q
        · exact ih j hji hj
        · refine ⟨i, hi, fun j hj => ?_⟩
          cases h : l.getD j true with
          | true => rfl
          | false => exact absurd ⟨j, hj, h⟩ q
    obtain ⟨i, hi, hj⟩ := hmin
    have hil := hin i hi
    refine List.ne_nil_of_mem (a := i) (mem_ready.2 ⟨hi, ops[i], by simp [hil], fun e he hb => ?_⟩)
    have hdep : e.on ∈ depsOf ops[i] := List.mem_map.2 ⟨e, List.mem_filter.2 ⟨by simpa using he, hb⟩, rfl⟩
    have h1 := earlyB_get ops 0 i ops[i] hE (List.getElem?_eq_getElem hil) e.on hdep
    have h2 := hj e.on (by omega)
    have h3 : e.on < l.size := by omega
    simp [Array.getD, h3] at h2 ⊢
    exact h2
  have hready : ∀ i ∈ Region.ready .any ops.toArray l, ∃ o, ops[i]? = some o ∧ l.getD i true = false ∧ ∀ j ∈ depsOf o, l.getD j false = true := fun i hi => by
    obtain ⟨hu, o, ho, hdeps⟩ := mem_ready.1 hi
    refine ⟨o, by simpa using ho, hu, fun j hj => ?_⟩
    obtain ⟨e, he, q⟩ := List.mem_map.1 hj
    obtain ⟨he1, he2⟩ := List.mem_filter.1 he
    subst q
    exact hdeps e (by simpa using he1) he2
  have hset : ∀ i, l.getD i true = false → ∀ j, (l.setIfInBounds i true).getD j true = if i = j then true else l.getD j true := fun i hi j => by
    by_cases h : i = j
    · subst h; rw [if_pos rfl]; simp [Array.getD, hlen, hin i hi]
    · rw [if_neg h, getD_set_ne true h]
  have hxf : ∀ j, l.getD j true = false → l.getD j false = false := fun j h => hfr j (hin j h) h
  have hunc : ∀ j, n ≤ U j → (∀ i, n ≤ i → i < ops.length → l.getD i true = false) → l.getD (U j) false = false := fun j h hln => by
    rcases Nat.lt_or_ge (U j) ops.length with q | q
    · exact hfr _ q (hln _ h q)
    · simp [Array.getD, hlen, Nat.not_lt.mpr q]
  rcases hj with ⟨hln, j1, j2, j3, j4, j5, j6, j7⟩ | ⟨t, ht1, ht2, ht3, ht4, hwp⟩
  · by_cases hdone : ∀ i, l.getD i true = true
    · left
      rw [rem_all hdone]
      refine ⟨?_, ?_⟩
      · rw [List.eq_nil_iff_forall_not_mem]
        intro i hi
        have := (mem_ready.1 hi).1
        rw [hdone i] at this; cases this
      · have hnl : n = ops.length := by
          rcases Nat.lt_or_ge n ops.length with q | q
          · have := hln n (Nat.le_refl _) q
            rw [hdone n] at this; cases this
          · omega
        have e := putOps_eq a (ops.take n) 0 (fun i => valOf ops a i) a0 j1.symm j2.symm (fun k hk => (j3 k (fun m hm q => by
          obtain ⟨om, em⟩ := hat m hm
          exact hk om (List.mem_of_getElem? (by rw [hget m hm]; exact em)) (by rw [hdst m om hm em, q]))).symm) (fun j o ho => by
          have hj : j < n := by
            have := (List.getElem?_eq_some_iff.1 ho).1
            omega
          rw [hget j hj] at ho
          refine ⟨_, hdst j o hj ho, ?_⟩
          have h1 : dstOf ops j < a.tmps.size := by rw [j2]; exact hlt j hj
          rw [Array.getElem?_eq_getElem h1, Nat.zero_add]
          unfold valOf
          simp [Array.getD, h1])
        have hx := hend (fun i => valOf ops a i) w j4 (fun j hj hu => j5 j hj (hdone j) (hunc j hu hln)) (fun i j hi hj hne hui huj => j7 i j hi hj hne ⟨hdone i, hunc i hui hln⟩ ⟨hdone j, hunc j huj hln⟩)
        rw [e, hnl, List.drop_length] at hx
        exact hx
    · right
      have hex : ∃ i, l.getD i true = false := by
        rcases Classical.em (∃ i, l.getD i true = false) with q | q
        · exact q
        · exact absurd (fun i => by
            cases h : l.getD i true with
            | true => rfl
            | false => exact absurd ⟨i, h⟩ q) hdone
      refine ⟨hne hex, ?_⟩
      intro i hi
      obtain ⟨o, ho', hu, hdeps'⟩ := hready i hi
      have hil := hin i hu
      rcases Nat.lt_trichotomy i n with hi' | hi' | hi'
      · have hx := eachOp_get (ops.take n) 0 i o hop (by rw [hget i hi']; exact ho') a w (fun k hk => by
          have := j3 k hk
          rw [Array.getD_eq_getD_getElem?, Array.getD_eq_getD_getElem?, this]) j4 (fun j hj hu2 => by
            have hjn : j < n := by
              have := earlyB_get ops 0 i o hE ho' j hj
              omega
            refine j5 j hjn (hto j (by omega) (hdeps' j hj)) ?_
            rcases hu2 with q | q
            · rw [q, Nat.zero_add]; exact hxf i hu
            · exact hunc j q hln)
        rw [Nat.zero_add] at hx
        unfold wpOp
        rw [show ops.toArray[i]? = some o by simpa using ho']
        show if Region.wanted o (yielded ops.toArray a.tmps) = true then _ else _
        suffices key : ∀ v w', (tbl.getD i (.val undef)).holds v w' →
            (Below w.heap.size w w' ∨ ∃ d g, d ∈ depsOf o ∧ U d = i ∧ (tbl.getD d (.val undef)).firm = false ∧ held (valOf ops a d) = some g ∧ B ≤ g ∧ w.grownBy w' (some g)) →
            ((tbl.getD i (.val undef)).firm = false → ∀ g, held v = some g → g < w'.heap.size ∧ (w.heap.size ≤ g ∨ ∃ d, d ∈ depsOf o ∧ U d = i ∧ (tbl.getD d (.val undef)).firm = false ∧ held (valOf ops a d) = some g)) →
            ((∀ j, n ≤ j → j < ops.length → (l.setIfInBounds i true).getD j true = false) ∧ (a.put o.dst v).defers = a0.defers ∧ (a.put o.dst v).tmps.size = a0.tmps.size ∧ (∀ k, (∀ j, j < n → dstOf ops j ≠ k) → (a.put o.dst v).tmps[k]? = a0.tmps[k]?) ∧ Below w0.heap.size w0 w' ∧ (∀ j, j < n → (l.setIfInBounds i true).getD j true = true → (l.setIfInBounds i true).getD (U j) false = false → (tbl.getD j (.val undef)).holds (valOf ops (a.put o.dst v) j) w') ∧ (∀ j, j < n → (l.setIfInBounds i true).getD j true = true → (l.setIfInBounds i true).getD (U j) false = false → (tbl.getD j (.val undef)).firm = false → ∀ g, held (valOf ops (a.put o.dst v) j) = some g → g < w'.heap.size) ∧ Apart tbl n (fun j => (l.setIfInBounds i true).getD j true = true ∧ (l.setIfInBounds i true).getD (U j) false = false) (fun j => valOf ops (a.put o.dst v) j)) by
          rcases hx with ⟨hw, hx⟩ | ⟨hw, h1, h2⟩
          · rw [if_pos hw]
            exact .inl (hx _ (fun v w' p1 p2 p3 => .inl (key v w' p1 p2 p3)))
          · rw [if_neg (by rw [hw]; simp)]
            exact .inl (key undef w h1 (.inl (Below.refl _ _)) (fun e => by rw [h2] at e; cases e))
        intro v w' hf hg hfresh
        have hd := hdst i o hi' ho'
        have hdl' := hlt i hi'
        have hnew : valOf ops (a.put o.dst v) i = v := by
          unfold valOf
          rw [hd]
          show (a.tmps.setIfInBounds (dstOf ops i) v).getD (dstOf ops i) undef = v
          have h1 : dstOf ops i < a.tmps.size := by rw [j2]; exact hdl'
          simp [Array.getD, h1]
        have hold : ∀ j, j < n → i ≠ j → valOf ops (a.put o.dst v) j = valOf ops a j := fun j hj hji => by
          unfold valOf
          rw [hd]
          show (a.tmps.setIfInBounds (dstOf ops i) v).getD (dstOf ops j) undef = _
          have hne : dstOf ops i ≠ dstOf ops j := fun q => hji (hapart i j hi' hj q)
          rw [Array.getD_eq_getD_getElem?, Array.getD_eq_getD_getElem?, Array.getElem?_setIfInBounds_ne hne]
        have hset' : ∀ j, (l.setIfInBounds i true).getD j false = if i = j then true else l.getD j false := fun j => by
          by_cases h : i = j
          · subst h; rw [if_pos rfl]; simp [Array.getD, hlen, hil]
          · rw [if_neg h, getD_set_ne false h]
        have huse : ∀ j, (l.setIfInBounds i true).getD (U j) false = false → U j ≠ i ∧ l.getD (U j) false = false := fun j h => by
          rw [hset'] at h
          by_cases q : i = U j
          · rw [if_pos q] at h; cases h
          · rw [if_neg q] at h; exact ⟨fun e => q e.symm, h⟩
        have hlist : ∀ j, i ≠ j → (l.setIfInBounds i true).getD j true = true → l.getD j true = true := fun j hne h => by
          rw [hset i hu, if_neg hne] at h; exact h
        have hdep : ∀ d, d ∈ depsOf o → d < n ∧ l.getD d true = true := fun d hd => by
          have := earlyB_get ops 0 i o hE ho' d hd
          exact ⟨by omega, hto d (by omega) (hdeps' d hd)⟩
        have hsize : w.heap.size ≤ w'.heap.size := by
          rcases hg with q | ⟨_, _, _, _, _, _, _, q⟩
          · exact q.size
          · exact q.size
        have hbw : Below w0.heap.size w0 w' := by
          rcases hg with q | ⟨_, g, _, _, _, _, hBg, q⟩
          · exact j4.trans (q.mono j4.size)
          · exact j4.grown q j4.size (fun k hk => by have : g = k := Option.some.inj hk; omega)
        have hfar : ∀ j, j < n → i ≠ j → l.getD j true = true → U j ≠ i → l.getD (U j) false = false → (tbl.getD i (.val undef)).firm = false → (tbl.getD j (.val undef)).firm = false → ∀ g, held v = some g → held (valOf ops a j) ≠ some g := fun j hj hji hlj hUi hUj hfi hfj g hgv hgj => by
          rcases (hfresh hfi g hgv).2 with q | ⟨d, hd1, hd2, hd3, hd4⟩
          · have := j6 j hj hlj hUj hfj g hgj
            omega
          · have hdn := hdep d hd1
            exact j7 d j hdn.1 hj (fun e => hUi (by rw [← e]; exact hd2)) ⟨hdn.2, by rw [hd2]; exact hxf i hu⟩ ⟨hlj, hUj⟩ hd3 hfj g hd4 hgj
        refine ⟨fun j h1 h2 => by rw [hset i hu, if_neg (by omega)]; exact hln j h1 h2, by rw [put_defers']; exact j1, by rw [put_size]; exact j2, fun k hk => ?_, hbw, fun j hj hlj hUj => ?_, fun j hj hlj hUj hfj g hgj => ?_, fun j k hj hk hjk hlj hlk hfj hfk g hgj => ?_⟩
        · rw [hd]
          show (a.tmps.setIfInBounds _ v)[k]? = _
          rw [Array.getElem?_setIfInBounds_ne (hk i hi')]
          exact j3 k hk
        · obtain ⟨u1, u2⟩ := huse j hUj
          by_cases hji : i = j
          · subst hji
            rw [hnew]; exact hf
          · rw [hold j hj hji]
            have hlj' := hlist j hji hlj
            have hx := j5 j hj hlj' u2
            rcases hg with q | ⟨d, g, hd1, hd2, hd3, hd4, hd5, q⟩
            · exact (tbl.getD j (.val undef)).last hx q
            · refine (tbl.getD j (.val undef)).turn hx q hd5 ?_
              cases hfj : (tbl.getD j (.val undef)).firm with
              | true => exact .inl rfl
              | false =>
                have hdn := hdep d hd1
                exact .inr (j7 d j hdn.1 hj (fun e => u1 (by rw [← e]; exact hd2)) ⟨hdn.2, by rw [hd2]; exact hxf i hu⟩ ⟨hlj', u2⟩ hd3 hfj g hd4)
        · obtain ⟨u1, u2⟩ := huse j hUj
          by_cases hji : i = j
          · subst hji
            rw [hnew] at hgj
            exact (hfresh hfj g hgj).1
          · rw [hold j hj hji] at hgj
            have := j6 j hj (hlist j hji hlj) u2 hfj g hgj
            omega
        · obtain ⟨hlj, hUj⟩ := hlj
          obtain ⟨hlk, hUk⟩ := hlk
          obtain ⟨u1, u2⟩ := huse j hUj
          obtain ⟨u3, u4⟩ := huse k hUk
          by_cases hji : i = j
          · subst hji
            have hki : i ≠ k := hjk
            show held (valOf ops (a.put o.dst v) k) ≠ some g
            rw [hold k hk hki]
            simp only [hnew] at hgj
            exact hfar k hk hki (hlist k hki hlk) u3 u4 hfj hfk g hgj
          · simp only [hold j hj hji] at hgj
            by_cases hki : i = k
            · subst hki
              show held (valOf ops (a.put o.dst v) i) ≠ some g
              rw [hnew]
              intro hv
              exact hfar j hj hji (hlist j hji hlj) u1 u2 hfk hfj g hv hgj
            · show held (valOf ops (a.put o.dst v) k) ≠ some g
              rw [hold k hk hki]
              exact j7 j k hj hk hjk ⟨hlist j hji hlj, u2⟩ ⟨hlist k hki hlk, u4⟩ hfj hfk g hgj
      · subst hi'
        have hall : ∀ j, j < i → l.getD j true = true := fun j hj => hto j (by omega) (anc_listed hc hlen _ j i o ho' hdeps' (hanc i (Nat.le_refl _) hil j hj))
        have e := putOps_eq a (ops.take i) 0 (fun i => valOf ops a i) a0 j1.symm j2.symm (fun k hk => (j3 k (fun m hm q => by
          obtain ⟨om, em⟩ := hat m hm
          exact hk om (List.mem_of_getElem? (by rw [hget m hm]; exact em)) (by rw [hdst m om hm em, q]))).symm) (fun j o ho => by
          have hj : j < i := by
            have := (List.getElem?_eq_some_iff.1 ho).1
            omega
          rw [hget j hj] at ho
          refine ⟨_, hdst j o hj ho, ?_⟩
          have h1 : dstOf ops j < a.tmps.size := by rw [j2]; exact hlt j hj
          rw [Array.getElem?_eq_getElem h1, Nat.zero_add]
          unfold valOf
          simp [Array.getD, h1])
        have hx := hend (fun i => valOf ops a i) w j4 (fun j hj hu3 => j5 j hj (hall j hj) (hunc j hu3 hln)) (fun k j hk hj hne huk huj => j7 k j hk hj hne ⟨hall k hk, hunc k huk hln⟩ ⟨hall j hj, hunc j huj hln⟩)
        rw [e] at hx
        have hu' : ∀ m, i < m → m < ops.length → l.getD m true = false := fun m h1 h2 => by
          cases hm : l.getD m true with
          | false => rfl
          | true =>
            exfalso
            have hmo : ops[m]? = some ops[m] := List.getElem?_eq_getElem h2
            have := anc_listed hc hlen _ i m ops[m] hmo (fun k hk => by
              obtain ⟨x, hx, qe⟩ := List.mem_map.1 hk
              obtain ⟨hx1, hx2⟩ := List.mem_filter.1 hx
              have := hc m ops[m] (by simp [h2]) hm x (by simpa using hx1) hx2
              rw [qe] at this; exact this) (hanc m (by omega) h2 i h1)
            rw [hfr i hil hu] at this; cases this
        rw [List.drop_eq_getElem_cons hil] at hx
        have hoe : ops[i] = o := (List.getElem?_eq_some_iff.1 ho').2
        rw [hoe] at hx
        have key : wpOp P ops.toArray Q i (wpList P ops.toArray Q (ops.drop (i + 1))) a w := by
          unfold wpOp
          rw [show ops.toArray[i]? = some o by simpa using ho']
          exact hx
        refine wpOp_mono (fun a' w' hq => .inr ⟨i + 1, by omega, by omega, fun j hj => ?_, fun j h1 h2 => ?_, hq⟩) key
        · rw [hset i hu]
          split
          · rfl
          · exact hall j (by omega)
        · rw [hset i hu, if_neg (by omega)]
          exact hu' j (by omega) h2
      · exfalso
        have := anc_listed hc hlen _ n i o ho' hdeps' (hanc i (by omega) hil n hi')
        rw [hfr n (by omega) (hln n (Nat.le_refl _) (by omega))] at this; cases this
  · by_cases hte : t = ops.length
    · left
      have hall : ∀ i, l.getD i true = true := fun i => by
        rcases Nat.lt_or_ge i ops.length with q | q
        · exact ht3 i (by omega)
        · simp [Array.getD, hlen, Nat.not_lt.mpr q]
      rw [rem_all hall]
      refine ⟨?_, ?_⟩
      · rw [List.eq_nil_iff_forall_not_mem]
        intro i hi
        have := (mem_ready.1 hi).1
        rw [hall i] at this; cases this
      · rw [hte, List.drop_length] at hwp
        exact hwp
    · right
      have htl' : t < ops.length := by omega
      refine ⟨hne ⟨t, ht4 t (Nat.le_refl _) htl'⟩, ?_⟩
      intro i hi
      obtain ⟨o, ho', hu, hdeps'⟩ := hready i hi
      have hil := hin i hu
      have hit : i = t := by
        rcases Nat.lt_trichotomy i t with q | q | q
        · rw [ht3 i q] at hu; cases hu
        · exact q
        · exfalso
          have := anc_listed hc hlen _ t i o ho' hdeps' (hanc i (by omega) hil t q)
          rw [hfr t htl' (ht4 t (Nat.le_refl _) htl')] at this; cases this
      subst hit
      rw [List.drop_eq_getElem_cons hil] at hwp
      have hoe : ops[i] = o := (List.getElem?_eq_some_iff.1 ho').2
      rw [hoe] at hwp
      have key : wpOp P ops.toArray Q i (wpList P ops.toArray Q (ops.drop (i + 1))) a w := by
        unfold wpOp
        rw [show ops.toArray[i]? = some o by simpa using ho']
        exact hwp
      refine wpOp_mono (fun a' w' hq => .inr ⟨i + 1, by omega, by omega, fun j hj => ?_, fun j h1 h2 => ?_, hq⟩) key
      · rw [hset i hu]
        split
        · rfl
        · exact ht3 j (by omega)
      · rw [hset i hu, if_neg (by omega)]
        exact ht4 j (by omega) h2
theorem wp_region_g {P : Program} {id : Nat} {ops : List Oper} {Q : Exit → Act → World → Prop} {a0 : Act} {w0 : World} (hm : P.follows .mixedOrders = true) (n : Nat) (hn : n ≤ ops.length)
    (hB : factsB (ops.take n) a0.tmps.size = true) (hL : tailB ops n = true) (hE : earlyB 0 ops = true) (B : Nat) (hB0 : w0.heap.size ≤ B) (tbl : List (Pred B)) (U : Nat → Nat)
    (hop : eachOp (fun i o => ∀ a w, (∀ k, (∀ i, i < n → dstOf ops i ≠ k) → a.tmps.getD k undef = a0.tmps.getD k undef) → Below w0.heap.size w0 w → (∀ j ∈ depsOf o, U j = i ∨ n ≤ U j → (tbl.getD j (.val undef)).holds (valOf ops a j) w) → DoesG P ops Q tbl U i o a w) 0 (ops.take n))
    (hend : ∀ (vs : Nat → Value) w, Below w0.heap.size w0 w → (∀ i, i < n → n ≤ U i → (tbl.getD i (.val undef)).holds (vs i) w) → Apart tbl n (fun i => n ≤ U i) vs → wpList P ops.toArray Q (ops.drop n) (putOps (ops.take n) 0 vs a0) w) : (Code.region id ops.toArray true).wp P Q a0 w0 :=
  wp_region_any hm (any_g n hn hB hL hE B hB0 tbl U hop hend)
end Go.Proofs.Ytkagapgganoomaa
/- What single operations do, for the general law of a region that draws: of no one type. Own work. -/
namespace Go.Proofs.Ytkagapgganoomaa
open Go.ChangeShapes Go.WideShapes Go.ChangeAt Go.RowKit
section
variable {B : Nat} {P : Program} {ops : List Oper} {Q : Exit → Act → World → Prop} {T : List (Pred B)} {U : Nat → Nat} {i : Nat} {o : Oper} {a : Act} {w : World}
/-- A value of which something firm is known. -/
theorem doesG_val {v : Value} (hw : Region.wanted o (yielded ops.toArray a.tmps) = true) (h : (execOp a.eval o).run P w = .ok (.value v) w) (hf : (T.getD i (.val undef)).holds v w) (hfirm : (T.getD i (.val undef)).firm = true) : DoesG P ops Q T U i o a w := by
  refine .inl ⟨hw, fun K hK => ?_⟩
  unfold Oper.wp
  rw [h, Oper.upon_value]
  exact hK v w hf (.inl (Below.refl _ _)) (fun e => by rw [hfirm] at e; cases e)
theorem doesG_wp (hw : Region.wanted o (yielded ops.toArray a.tmps) = true) (hfirm : (T.getD i (.val undef)).firm = true)
    (h : ∀ K : Act → World → Prop, (∀ v w', (T.getD i (.val undef)).holds v w' → Below w.heap.size w w' → K (a.put o.dst v) w') → o.wp P a w K Q) : DoesG P ops Q T U i o a w :=
  .inl ⟨hw, fun K hK => h K fun v w' hf hb => hK v w' hf (.inl hb) (fun e => by rw [hfirm] at e; cases e)⟩
/-- An operation whose guard is not met. -/
theorem doesG_skip (hw : Region.wanted o (yielded ops.toArray a.tmps) = false) (hT : T.getD i (.val undef) = .val undef) : DoesG P ops Q T U i o a w :=
  .inr ⟨hw, by rw [hT]; rfl, by rw [hT]; rfl⟩
theorem unwanted_of {j : Nat} {b c : Bool} (hg : o.guard = some (j, b)) (h : yielded ops.toArray a.tmps j = some c) (hbc : c ≠ b) : Region.wanted o (yielded ops.toArray a.tmps) = false := by
  unfold Region.wanted
  rw [hg]
  show (yielded ops.toArray a.tmps j == some b) = false
  rw [h]; simp [hbc]
/-- A value in memory of its own. -/
theorem doesG_new (hw : Region.wanted o (yielded ops.toArray a.tmps) = true)
    (h : ∀ K : Act → World → Prop, (∀ v w', (T.getD i (.val undef)).holds v w' → Below w.heap.size w w' → (∀ g, held v = some g → w.heap.size ≤ g ∧ g < w'.heap.size) → K (a.put o.dst v) w') → o.wp P a w K Q) : DoesG P ops Q T U i o a w :=
  .inl ⟨hw, fun K hK => h K fun v w' hf hb hg => hK v w' hf (.inl hb) (fun _ g e => ⟨(hg g e).2, .inl (hg g e).1⟩)⟩
theorem doesG_call {g : FuncId} {args : Array Value} (hw : Region.wanted o (yielded ops.toArray a.tmps) = true) (h : (execOp a.eval o).run P w = .ok (.enter g args) w) (hfirm : (T.getD i (.val undef)).firm = true)
    (hc : Calls P g args w fun e w' => ∃ v, e = .returned v ∧ (T.getD i (.val undef)).holds v w' ∧ Below w.heap.size w w') : DoesG P ops Q T U i o a w :=
  doesG_wp hw hfirm fun K hK => by
    unfold Oper.wp
    rw [h, Oper.upon_enter]
    refine hc.mono fun e w' hh => ?_
    obtain ⟨v, rfl, hf, hb⟩ := hh
    exact hK v w' hf hb
theorem doesG_made {g : FuncId} {args : Array Value} (hw : Region.wanted o (yielded ops.toArray a.tmps) = true) (h : (execOp a.eval o).run P w = .ok (.enter g args) w)
    (hc : Calls P g args w fun e w' => ∃ v, e = .returned v ∧ (T.getD i (.val undef)).holds v w' ∧ Below w.heap.size w w' ∧ ∀ g, held v = some g → w.heap.size ≤ g ∧ g < w'.heap.size) : DoesG P ops Q T U i o a w :=
  doesG_new hw fun K hK => by
    unfold Oper.wp
    rw [h, Oper.upon_enter]
    refine hc.mono fun e w' hh => ?_
    obtain ⟨v, rfl, hf, hb, hg⟩ := hh
    exact hK v w' hf hb hg
end
end Go.Proofs.Ytkagapgganoomaa

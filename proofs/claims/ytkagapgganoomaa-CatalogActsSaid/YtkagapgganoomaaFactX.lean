/- Texts of one subject in one file: FactsS, FactsT, FactsO, FactsK, FactsL, FactsC. Own work. -/
import Derived.Test.YtkagapgganoomaaReg
import Derived.Test.YtkagapgganoomaaFillX
import Derived.Test.YtkagapgganoomaaMem
/- A region that draws its order, the general law once more, with stores among its operations: a store has no slot of its own; it turns the block that another operation's slot points into, and what is known behind it is known of that slot. Own work. -/
namespace Go.Proofs.Ytkagapgganoomaa
open Go.RowKit
/-- What lies in the slot of operation i. -/
def valS (S : Nat → Nat) (a : Act) (i : Nat) : Value := a.tmps.getD (S i) undef
def dstQ (ops : List Oper) (i : Nat) : Option Nat := (ops[i]?).bind (·.dst)
/-- Slots fit: an operation with a slot of its own has that one; a store has that of an operation that it waits for; no two have one of their own together. -/
def factsS (S : Nat → Nat) (ops : List Oper) (n size : Nat) : Bool :=
  (List.range n).all (fun i => match ops[i]? with
    | none => false
    | some o => match o.dst with
      | some d => decide (S i = d) && decide (d < size)
      | none => (depsOf o).any fun d => decide (d < n) && decide (dstQ ops d = some (S i))) &&
  (List.range n).all (fun i => (List.range n).all fun j => decide (i = j) || decide (dstQ ops i = none) || decide (dstQ ops i ≠ dstQ ops j))
section
variable {B : Nat}
/-- What an operation of the region does. -/
def DoesS (P : Program) (S : Nat → Nat) (ops : List Oper) (Q : Exit → Act → World → Prop) (T : List (Pred B)) (U : Nat → Nat) (i : Nat) (o : Oper) (a : Act) (w : World) : Prop :=
  (Region.wanted o (yielded ops.toArray a.tmps) = true ∧ ∀ K : Act → World → Prop, (∀ v w', (T.getD i (.val undef)).holds v w' →
    (Below w.heap.size w w' ∨ ∃ d g, d ∈ depsOf o ∧ U d = i ∧ (T.getD d (.val undef)).firm = false ∧ held (valS S a d) = some g ∧ B ≤ g ∧ w.grownBy w' (some g)) →
    ((T.getD i (.val undef)).firm = false → ∀ g, held v = some g → g < w'.heap.size ∧ (w.heap.size ≤ g ∨ ∃ d, d ∈ depsOf o ∧ U d = i ∧ (T.getD d (.val undef)).firm = false ∧ held (valS S a d) = some g)) →
    (o.dst = none → v = valS S a i) → K (a.put o.dst v) w') → o.wp P a w K Q) ∨
  (Region.wanted o (yielded ops.toArray a.tmps) = false ∧ (T.getD i (.val undef)).holds undef w ∧ (T.getD i (.val undef)).firm = true ∧ o.dst ≠ none)
/-- What an operation with a slot of its own does, as the elder law has it. -/
theorem DoesG.toS {P : Program} {S : Nat → Nat} {ops : List Oper} {Q : Exit → Act → World → Prop} {T : List (Pred B)} {U : Nat → Nat} {i : Nat} {o : Oper} {a : Act} {w : World} (h : DoesG P ops Q T U i o a w) (ho : o.dst ≠ none) (hd : ∀ d ∈ depsOf o, U d = i → S d = dstOf ops d) : DoesS P S ops Q T U i o a w := by
  rcases h with ⟨h1, h2⟩ | ⟨h1, h2, h3⟩
  · have ev : ∀ d ∈ depsOf o, U d = i → valOf ops a d = valS S a d := fun d q1 q2 => by unfold valOf valS; rw [hd d q1 q2]
    refine .inl ⟨h1, fun K hK => h2 K fun v w' p1 p2 p3 => hK v w' p1 ?_ ?_ (fun e => absurd e ho)⟩
    · rcases p2 with q | ⟨d, g, q1, q2, q3, q4, q5⟩
      · exact .inl q
      · exact .inr ⟨d, g, q1, q2, q3, by rw [← ev d q1 q2]; exact q4, q5⟩
    · intro e g hg
      obtain ⟨r1, r2⟩ := p3 e g hg
      refine ⟨r1, ?_⟩
      rcases r2 with q | ⟨d, q1, q2, q3, q4⟩
      · exact .inl q
      · exact .inr ⟨d, q1, q2, q3, by rw [← ev d q1 q2]; exact q4⟩
  · exact .inr ⟨h1, h2, h3, ho⟩
end
theorem putOps_eqS (a : Act) : ∀ (l : List Oper) (i : Nat) (vs : Nat → Value) (b : Act), b.defers = a.defers → b.tmps.size = a.tmps.size →
    (∀ k, (∀ o ∈ l, o.dst ≠ some k) → b.tmps[k]? = a.tmps[k]?) → (∀ (j : Nat) o d, l[j]? = some o → o.dst = some d → a.tmps[d]? = some (vs (i + j))) → putOps l i vs b = a
  | [], i, vs, b, hd, hs, hk, _ => by
    obtain ⟨bt, bd⟩ := b
    obtain ⟨at', ad⟩ := a
    simp only at hd hs
    subst hd
    show (⟨bt, bd⟩ : Act) = ⟨at', bd⟩
    congr 1
    apply Array.ext_getElem?
    intro k
    exact hk k (fun o ho => by cases ho)
  | o :: r, i, vs, b, hd, hs, hk, hv => by
    refine putOps_eqS a r (i + 1) vs (b.put o.dst (vs i)) (by rw [put_defers']; exact hd) (by rw [put_size]; exact hs) (fun k h => ?_) (fun j o' d' ho' hd' => by
      have h' := hv (j + 1) o' d' (by simpa using ho') hd'
      rw [show i + 1 + j = i + (j + 1) by omega]; exact h')
    cases e : o.dst with
    | none =>
      show b.tmps[k]? = _
      refine hk k (fun o' ho' => ?_)
      rcases List.mem_cons.1 ho' with q | q
      · subst q; rw [e]; intro x; cases x
      · exact h o' q
    | some d =>
      have hd2 := hv 0 o d rfl e
      show (b.tmps.setIfInBounds d (vs i))[k]? = _
      by_cases hdk : d = k
      · subst hdk
        have hlt : d < b.tmps.size := by
          rw [hs]
          rcases Nat.lt_or_ge d a.tmps.size with q | q
          · exact q
          · rw [Array.getElem?_eq_none q] at hd2; cases hd2
        rw [hd2, Array.getElem?_setIfInBounds_self_of_lt hlt, Nat.add_zero]
      · rw [Array.getElem?_setIfInBounds_ne hdk]
        refine hk k (fun o' ho' => ?_)
        rcases List.mem_cons.1 ho' with q | q
        · subst q; rw [e]; simpa using hdk
        · exact h o' q
theorem wp_region_s {P : Program} {id : Nat} {ops : List Oper} {Q : Exit → Act → World → Prop} {a0 : Act} {w0 : World} (hm : P.follows .mixedOrders = true) (n : Nat) (hn : n ≤ ops.length)
    (S : Nat → Nat) (hB : factsS S ops n a0.tmps.size = true) (hL : tailB ops n = true) (hE : earlyB 0 ops = true) (B : Nat) (hB0 : w0.heap.size ≤ B) (tbl : List (Pred B)) (U : Nat → Nat)
    (hop : eachOp (fun i o => ∀ a w, (∀ k, (∀ i, i < n → dstOf ops i ≠ k) → a.tmps.getD k undef = a0.tmps.getD k undef) → Below w0.heap.size w0 w → (∀ j ∈ depsOf o, U j = i ∨ n ≤ U j → (tbl.getD j (.val undef)).holds (valS S a j) w) → DoesS P S ops Q tbl U i o a w) 0 (ops.take n))
    (hend : ∀ (vs : Nat → Value) w, Below w0.heap.size w0 w → (∀ i j, S i = S j → vs i = vs j) → (∀ i, i < n → n ≤ U i → (tbl.getD i (.val undef)).holds (vs i) w) → Apart tbl n (fun i => n ≤ U i) vs → wpList P ops.toArray Q (ops.drop n) (putOps (ops.take n) 0 vs a0) w) : (Code.region id ops.toArray true).wp P Q a0 w0 := by
  have htl : (ops.take n).length = n := by rw [List.length_take]; omega
  have hget : ∀ i, i < n → (ops.take n)[i]? = ops[i]? := fun i hi => by rw [List.getElem?_take, if_pos hi]
  simp only [factsS, Bool.and_eq_true, List.all_eq_true, List.mem_range] at hB
  obtain ⟨hB1, hB2⟩ := hB
  have hdst : ∀ (i : Nat) o d, i < n → ops[i]? = some o → o.dst = some d → S i = d ∧ d < a0.tmps.size ∧ dstOf ops i = d := fun i o d hi ho hd => by
    have h := hB1 i hi
    rw [ho] at h
    simp only [hd, Bool.and_eq_true, decide_eq_true_eq] at h
    exact ⟨h.1, h.2, by unfold dstOf; rw [ho]; simp [hd]⟩
  have hnone : ∀ (i : Nat) o, i < n → ops[i]? = some o → o.dst = none → ∃ d ∈ depsOf o, d < n ∧ dstQ ops d = some (S i) := fun i o hi ho hd => by
    have h := hB1 i hi
    rw [ho] at h
    simp only [hd, List.any_eq_true, Bool.and_eq_true, decide_eq_true_eq] at h
    obtain ⟨d, h1, h2, h3⟩ := h
    exact ⟨d, h1, h2, h3⟩
  have hat : ∀ i, i < n → ∃ o, ops[i]? = some o := fun i hi => ⟨ops[i], List.getElem?_eq_getElem (by omega)⟩
  have hapart : ∀ i j d, i < n → j < n → dstQ ops i = some d → dstQ ops j = some d → i = j := fun i j d hi hj e1 e2 => by
    have h := hB2 i hi j hj
    simp only [Bool.or_eq_true, decide_eq_true_eq] at h
    rcases h with (h | h) | h
    · exact h
    · rw [e1] at h; cases h
    · exact absurd (e1.trans e2.symm) h
  have hanc : ∀ i, n ≤ i → i < ops.length → ∀ j, j < i → ancB ops ops.length j i = true := fun i h1 h2 j h3 => by
    unfold tailB at hL
    rw [List.all_eq_true] at hL
    have h := hL i (by simpa using h2)
    simp only [Bool.or_eq_true, decide_eq_true_eq, List.all_eq_true] at h
    rcases h with q | q
    · omega
    · exact q j (by simpa using h3)
  refine wp_region_inv hm (fun l a w => ((∀ i, n ≤ i → i < ops.length → l.getD i true = false) ∧ a.defers = a0.defers ∧ a.tmps.size = a0.tmps.size ∧ (∀ k, (∀ i, i < n → ∀ o, ops[i]? = some o → o.dst ≠ some k) → a.tmps[k]? = a0.tmps[k]?) ∧ Below w0.heap.size w0 w ∧ (∀ i, i < n → l.getD i true = true → l.getD (U i) false = false → (tbl.getD i (.val undef)).holds (valS S a i) w) ∧ (∀ i, i < n → l.getD i true = true → l.getD (U i) false = false → (tbl.getD i (.val undef)).firm = false → ∀ g, held (valS S a i) = some g → g < w.heap.size) ∧ Apart tbl n (fun i => l.getD i true = true ∧ l.getD (U i) false = false) (fun i => valS S a i)) ∨
      ∃ t, n < t ∧ t ≤ ops.length ∧ (∀ i, i < t → l.getD i true = true) ∧ (∀ i, t ≤ i → i < ops.length → l.getD i true = false) ∧ wpList P ops.toArray Q (ops.drop t) a w)
    (.inl ⟨fun i _ hi => by simp [Array.getD, hi], rfl, rfl, fun _ _ => rfl, (Below.refl _ _).drew, fun i hi h => by simp [Array.getD, Nat.lt_of_lt_of_le hi hn] at h, fun i hi h => by simp [Array.getD, Nat.lt_of_lt_of_le hi hn] at h, fun i j hi _ _ h => by simp [Array.getD, Nat.lt_of_lt_of_le hi hn] at h⟩) ?_
  intro l a w hl hc hj
  have hlen : l.size = ops.length := by simpa using hl
  have hto : ∀ i, i < ops.length → l.getD i false = true → l.getD i true = true := fun i hi h => by
    simp [Array.getD, hlen, hi] at h ⊢; exact h
  have hfr : ∀ i, i < ops.length → l.getD i true = false → l.getD i false = false := fun i hi h => by
    simp [Array.getD, hlen, hi] at h ⊢; exact h
  have hin : ∀ i, l.getD i true = false → i < ops.length := fun i h => by
    rcases Nat.lt_or_ge i l.size with q | q
    · omega
    · simp [Array.getD, Nat.not_lt.mpr q] at h
  have hne : (∃ i, l.getD i true = false) → Region.ready .any ops.toArray l ≠ [] := fun hex => by
    have hmin : ∃ i, l.getD i true = false ∧ ∀ j, j < i → l.getD j true = true := by
      obtain ⟨i, hi⟩ := hex
      induction i using Nat.strongRecOn with
      | _ i ih =>
        rcases Classical.em (∃ j, j < i ∧ l.getD j true = false) with ⟨j, hji, hj⟩ | q
        · exact ih j hji hj
        · refine ⟨i, hi, fun j hj => ?_⟩
          cases h : l.getD j true with
          | true => rfl
          | false => exact absurd ⟨j, hj, h⟩ q
    obtain ⟨i, hi, hj⟩ := hmin
    have hil := hin i hi
    refine List.ne_nil_of_mem (a := i) (mem_ready.2 ⟨hi, ops[i], by simp [hil], fun e he hb => ?_⟩)
    have hdep : e.on ∈ depsOf ops[i] := List.mem_map.2 ⟨e, List.mem_filter.2 ⟨by simpa using he, hb⟩, rfl⟩
    have h1 := earlyB_get ops 0 i ops[i] hE (List.getElem?_eq_getElem hil) e.on hdep
    have h2 := hj e.on (by omega)
    have h3 : e.on < l.size := by omega
    simp [Array.getD, h3] at h2 ⊢
    exact h2
  have hready : ∀ i ∈ Region.ready .any ops.toArray l, ∃ o, ops[i]? = some o ∧ l.getD i true = false ∧ ∀ j ∈ depsOf o, l.getD j false = true := fun i hi => by
    obtain ⟨hu, o, ho, hdeps⟩ := mem_ready.1 hi
    refine ⟨o, by simpa using ho, hu, fun j hj => ?_⟩
    obtain ⟨e, he, q⟩ := List.mem_map.1 hj
    obtain ⟨he1, he2⟩ := List.mem_filter.1 he
    subst q
    exact hdeps e (by simpa using he1) he2
  have hset : ∀ i, l.getD i true = false → ∀ j, (l.setIfInBounds i true).getD j true = if i = j then true else l.getD j true := fun i hi j => by
    by_cases h : i = j
    · subst h; rw [if_pos rfl]; simp [Array.getD, hlen, hin i hi]
    · rw [if_neg h, getD_set_ne true h]
  have hxf : ∀ j, l.getD j true = false → l.getD j false = false := fun j h => hfr j (hin j h) h
  have hunc : ∀ j, n ≤ U j → (∀ i, n ≤ i → i < ops.length → l.getD i true = false) → l.getD (U j) false = false := fun j h hln => by
    rcases Nat.lt_or_ge (U j) ops.length with q | q
    · exact hfr _ q (hln _ h q)
    · simp [Array.getD, hlen, Nat.not_lt.mpr q]
  rcases hj with ⟨hln, j1, j2, j3, j4, j5, j6, j7⟩ | ⟨t, ht1, ht2, ht3, ht4, hwp⟩
  · by_cases hdone : ∀ i, l.getD i true = true
    · left
      rw [rem_all hdone]
      refine ⟨?_, ?_⟩
      · rw [List.eq_nil_iff_forall_not_mem]
        intro i hi
        have := (mem_ready.1 hi).1
        rw [hdone i] at this; cases this
      · have hnl : n = ops.length := by
          rcases Nat.lt_or_ge n ops.length with q | q
          · have := hln n (Nat.le_refl _) q
            rw [hdone n] at this; cases this
          · omega
        have e := putOps_eqS a (ops.take n) 0 (fun i => valS S a i) a0 j1.symm j2.symm (fun k hk => (j3 k (fun m hm om em q => hk om (List.mem_of_getElem? (by rw [hget m hm]; exact em)) q)).symm) (fun j o d ho hd => by
          have hj : j < n := by
            have := (List.getElem?_eq_some_iff.1 ho).1
            omega
          rw [hget j hj] at ho
          obtain ⟨h1, h2, _⟩ := hdst j o d hj ho hd
          have h3 : d < a.tmps.size := by rw [j2]; exact h2
          rw [Array.getElem?_eq_getElem h3, Nat.zero_add]
          unfold valS
          rw [h1]
          simp [Array.getD, h3])
        have hx := hend (fun i => valS S a i) w j4 (fun i j e => by show valS S a i = valS S a j; unfold valS; rw [e]) (fun j hj hu => j5 j hj (hdone j) (hunc j hu hln)) (fun i j hi hj hne hui huj => j7 i j hi hj hne ⟨hdone i, hunc i hui hln⟩ ⟨hdone j, hunc j huj hln⟩)
        rw [e, hnl, List.drop_length] at hx
        exact hx
    · right
      have hex : ∃ i, l.getD i true = false := by
        rcases Classical.em (∃ i, l.getD i true = false) with q | q
        · exact q
        · exact absurd (fun i => by
            cases h : l.getD i true with
            | true => rfl
            | false => exact absurd ⟨i, h⟩ q) hdone
      refine ⟨hne hex, ?_⟩
      intro i hi
      obtain ⟨o, ho', hu, hdeps'⟩ := hready i hi
      have hil := hin i hu
      rcases Nat.lt_trichotomy i n with hi' | hi' | hi'
      · have hx := eachOp_get (ops.take n) 0 i o hop (by rw [hget i hi']; exact ho') a w (fun k hk => by
          have := j3 k (fun m hm om em q => hk m hm (hdst m om k hm em q).2.2)
          rw [Array.getD_eq_getD_getElem?, Array.getD_eq_getD_getElem?, this]) j4 (fun j hj hu2 => by
            have hjn : j < n := by
              have := earlyB_get ops 0 i o hE ho' j hj
              omega
            refine j5 j hjn (hto j (by omega) (hdeps' j hj)) ?_
            rcases hu2 with q | q
            · rw [q, Nat.zero_add]; exact hxf i hu
            · exact hunc j q hln)
        rw [Nat.zero_add] at hx
        unfold wpOp
        rw [show ops.toArray[i]? = some o by simpa using ho']
        show if Region.wanted o (yielded ops.toArray a.tmps) = true then _ else _
        suffices key : ∀ v w', (tbl.getD i (.val undef)).holds v w' →
            (Below w.heap.size w w' ∨ ∃ d g, d ∈ depsOf o ∧ U d = i ∧ (tbl.getD d (.val undef)).firm = false ∧ held (valS S a d) = some g ∧ B ≤ g ∧ w.grownBy w' (some g)) →
            ((tbl.getD i (.val undef)).firm = false → ∀ g, held v = some g → g < w'.heap.size ∧ (w.heap.size ≤ g ∨ ∃ d, d ∈ depsOf o ∧ U d = i ∧ (tbl.getD d (.val undef)).firm = false ∧ held (valS S a d) = some g)) → (o.dst = none → v = valS S a i) →
            ((∀ j, n ≤ j → j < ops.length → (l.setIfInBounds i true).getD j true = false) ∧ (a.put o.dst v).defers = a0.defers ∧ (a.put o.dst v).tmps.size = a0.tmps.size ∧ (∀ k, (∀ j, j < n → ∀ o, ops[j]? = some o → o.dst ≠ some k) → (a.put o.dst v).tmps[k]? = a0.tmps[k]?) ∧ Below w0.heap.size w0 w' ∧ (∀ j, j < n → (l.setIfInBounds i true).getD j true = true → (l.setIfInBounds i true).getD (U j) false = false → (tbl.getD j (.val undef)).holds (valS S (a.put o.dst v) j) w') ∧ (∀ j, j < n → (l.setIfInBounds i true).getD j true = true → (l.setIfInBounds i true).getD (U j) false = false → (tbl.getD j (.val undef)).firm = false → ∀ g, held (valS S (a.put o.dst v) j) = some g → g < w'.heap.size) ∧ Apart tbl n (fun j => (l.setIfInBounds i true).getD j true = true ∧ (l.setIfInBounds i true).getD (U j) false = false) (fun j => valS S (a.put o.dst v) j)) by
          rcases hx with ⟨hw, hx⟩ | ⟨hw, h1, h2, h3⟩
          · rw [if_pos hw]
            exact .inl (hx _ (fun v w' p1 p2 p3 p4 => .inl (key v w' p1 p2 p3 p4)))
          · rw [if_neg (by rw [hw]; simp)]
            exact .inl (key undef w h1 (.inl (Below.refl _ _)) (fun e => by rw [h2] at e; cases e) (fun e => absurd e h3))
        intro v w' hf hg hfresh hsame
        have hnew : valS S (a.put o.dst v) i = v := by
          unfold valS
          cases hd : o.dst with
          | none =>
            rw [hsame hd]; rfl
          | some d =>
            obtain ⟨h1, h2, _⟩ := hdst i o d hi' ho' hd
            show (a.tmps.setIfInBounds d v).getD (S i) undef = v
            have h3 : d < a.tmps.size := by rw [j2]; exact h2
            rw [h1]
            simp [Array.getD, h3]
        have hold : ∀ j, j < n → i ≠ j → l.getD j true = true → valS S (a.put o.dst v) j = valS S a j := fun j hj hji hlj => by
          unfold valS
          cases hd : o.dst with
          | none => rfl
          | some d =>
            show (a.tmps.setIfInBounds d v).getD (S j) undef = _
            have hqi : dstQ ops i = some d := by unfold dstQ; rw [ho']; simp [hd]
            have hne : d ≠ S j := fun q => by
              obtain ⟨oj, ej⟩ := hat j hj
              cases hdj : oj.dst with
              | some d' =>
                have := (hdst j oj d' hj ej hdj).1
                exact hji (hapart i j d hi' hj hqi (by unfold dstQ; rw [ej]; exact hdj.trans (congrArg some (this.symm.trans q.symm))))
              | none =>
                obtain ⟨k, hk1, hk2, hk3⟩ := hnone j oj hj ej hdj
                have hki : i = k := hapart i k d hi' hk2 hqi (by rw [hk3, q])
                obtain ⟨x, hx1, hx2⟩ := List.mem_map.1 hk1
                obtain ⟨hx3, hx4⟩ := List.mem_filter.1 hx1
                have := hc j oj (by simpa using ej) hlj x (by simpa using hx3) hx4
                rw [hx2, ← hki] at this
                rw [hxf i hu] at this; cases this
            rw [Array.getD_eq_getD_getElem?, Array.getD_eq_getD_getElem?, Array.getElem?_setIfInBounds_ne hne]
        have hset' : ∀ j, (l.setIfInBounds i true).getD j false = if i = j then true else l.getD j false := fun j => by
          by_cases h : i = j
          · subst h; rw [if_pos rfl]; simp [Array.getD, hlen, hil]
          · rw [if_neg h, getD_set_ne false h]
        have huse : ∀ j, (l.setIfInBounds i true).getD (U j) false = false → U j ≠ i ∧ l.getD (U j) false = false := fun j h => by
          rw [hset'] at h
          by_cases q : i = U j
          · rw [if_pos q] at h; cases h
          · rw [if_neg q] at h; exact ⟨fun e => q e.symm, h⟩
        have hlist : ∀ j, i ≠ j → (l.setIfInBounds i true).getD j true = true → l.getD j true = true := fun j hne h => by
          rw [hset i hu, if_neg hne] at h; exact h
        have hdep : ∀ d, d ∈ depsOf o → d < n ∧ l.getD d true = true := fun d hd => by
          have := earlyB_get ops 0 i o hE ho' d hd
          exact ⟨by omega, hto d (by omega) (hdeps' d hd)⟩
        have hsize : w.heap.size ≤ w'.heap.size := by
          rcases hg with q | ⟨_, _, _, _, _, _, _, q⟩
          · exact q.size
          · exact q.size
        have hbw : Below w0.heap.size w0 w' := by
          rcases hg with q | ⟨_, g, _, _, _, _, hBg, q⟩
          · exact j4.trans (q.mono j4.size)
          · exact j4.grown q j4.size (fun k hk => by have : g = k := Option.some.inj hk; omega)
        have hfar : ∀ j, j < n → i ≠ j → l.getD j true = true → U j ≠ i → l.getD (U j) false = false → (tbl.getD i (.val undef)).firm = false → (tbl.getD j (.val undef)).firm = false → ∀ g, held v = some g → held (valS S a j) ≠ some g := fun j hj hji hlj hUi hUj hfi hfj g hgv hgj => by
          rcases (hfresh hfi g hgv).2 with q | ⟨d, hd1, hd2, hd3, hd4⟩
          · have := j6 j hj hlj hUj hfj g hgj
            omega
          · have hdn := hdep d hd1
            exact j7 d j hdn.1 hj (fun e => hUi (by rw [← e]; exact hd2)) ⟨hdn.2, by rw [hd2]; exact hxf i hu⟩ ⟨hlj, hUj⟩ hd3 hfj g hd4 hgj
        refine ⟨fun j h1 h2 => by rw [hset i hu, if_neg (by omega)]; exact hln j h1 h2, by rw [put_defers']; exact j1, by rw [put_size]; exact j2, fun k hk => ?_, hbw, fun j hj hlj hUj => ?_, fun j hj hlj hUj hfj g hgj => ?_, fun j k hj hk hjk hlj hlk hfj hfk g hgj => ?_⟩
        · cases hd : o.dst with
          | none => exact j3 k hk
          | some d =>
            show (a.tmps.setIfInBounds d v)[k]? = _
            rw [Array.getElem?_setIfInBounds_ne (fun e => hk i hi' o ho' (by rw [hd, e]))]
            exact j3 k hk
        · obtain ⟨u1, u2⟩ := huse j hUj
          by_cases hji : i = j
          · subst hji
            rw [hnew]; exact hf
          · have hlj' := hlist j hji hlj
            rw [hold j hj hji hlj']
            have hx := j5 j hj hlj' u2
            rcases hg with q | ⟨d, g, hd1, hd2, hd3, hd4, hd5, q⟩
            · exact (tbl.getD j (.val undef)).last hx q
            · refine (tbl.getD j (.val undef)).turn hx q hd5 ?_
              cases hfj : (tbl.getD j (.val undef)).firm with
              | true => exact .inl rfl
              | false =>
                have hdn := hdep d hd1
                exact .inr (j7 d j hdn.1 hj (fun e => u1 (by rw [← e]; exact hd2)) ⟨hdn.2, by rw [hd2]; exact hxf i hu⟩ ⟨hlj', u2⟩ hd3 hfj g hd4)
        · obtain ⟨u1, u2⟩ := huse j hUj
          by_cases hji : i = j
          · subst hji
            rw [hnew] at hgj
            exact (hfresh hfj g hgj).1
          · rw [hold j hj hji (hlist j hji hlj)] at hgj
            have := j6 j hj (hlist j hji hlj) u2 hfj g hgj
            omega
        · obtain ⟨hlj, hUj⟩ := hlj
          obtain ⟨hlk, hUk⟩ := hlk
          obtain ⟨u1, u2⟩ := huse j hUj
          obtain ⟨u3, u4⟩ := huse k hUk
          by_cases hji : i = j
          · subst hji
            have hki : i ≠ k := hjk
            show held (valS S (a.put o.dst v) k) ≠ some g
            rw [hold k hk hki (hlist k hki hlk)]
            simp only [hnew] at hgj
            exact hfar k hk hki (hlist k hki hlk) u3 u4 hfj hfk g hgj
          · simp only [hold j hj hji (hlist j hji hlj)] at hgj
            by_cases hki : i = k
            · subst hki
              show held (valS S (a.put o.dst v) i) ≠ some g
              rw [hnew]
              intro hv
              exact hfar j hj hji (hlist j hji hlj) u1 u2 hfk hfj g hv hgj
            · show held (valS S (a.put o.dst v) k) ≠ some g
              rw [hold k hk hki (hlist k hki hlk)]
              exact j7 j k hj hk hjk ⟨hlist j hji hlj, u2⟩ ⟨hlist k hki hlk, u4⟩ hfj hfk g hgj
      · subst hi'
        have hall : ∀ j, j < i → l.getD j true = true := fun j hj => hto j (by omega) (anc_listed hc hlen _ j i o ho' hdeps' (hanc i (Nat.le_refl _) hil j hj))
        have e := putOps_eqS a (ops.take i) 0 (fun i => valS S a i) a0 j1.symm j2.symm (fun k hk => (j3 k (fun m hm om em q => hk om (List.mem_of_getElem? (by rw [hget m hm]; exact em)) q)).symm) (fun j o d ho hd => by
          have hj : j < i := by
            have := (List.getElem?_eq_some_iff.1 ho).1
            omega
          rw [hget j hj] at ho
          obtain ⟨h1, h2, _⟩ := hdst j o d hj ho hd
          have h3 : d < a.tmps.size := by rw [j2]; exact h2
          rw [Array.getElem?_eq_getElem h3, Nat.zero_add]
          unfold valS
          rw [h1]
          simp [Array.getD, h3])
        have hx := hend (fun i => valS S a i) w j4 (fun i j e => by show valS S a i = valS S a j; unfold valS; rw [e]) (fun j hj hu3 => j5 j hj (hall j hj) (hunc j hu3 hln)) (fun k j hk hj hne huk huj => j7 k j hk hj hne ⟨hall k hk, hunc k huk hln⟩ ⟨hall j hj, hunc j huj hln⟩)
        rw [e] at hx
        have hu' : ∀ m, i < m → m < ops.length → l.getD m true = false := fun m h1 h2 => by
          cases hm : l.getD m true with
          | false => rfl
          | true =>
            exfalso
            have hmo : ops[m]? = some ops[m] := List.getElem?_eq_getElem h2
            have := anc_listed hc hlen _ i m ops[m] hmo (fun k hk => by
              obtain ⟨x, hx, qe⟩ := List.mem_map.1 hk
              obtain ⟨hx1, hx2⟩ := List.mem_filter.1 hx
              have := hc m ops[m] (by simp [h2]) hm x (by simpa using hx1) hx2
              rw [qe] at this; exact this) (hanc m (by omega) h2 i h1)
            rw [hfr i hil hu] at this; cases this
        rw [List.drop_eq_getElem_cons hil] at hx
        have hoe : ops[i] = o := (List.getElem?_eq_some_iff.1 ho').2
        rw [hoe] at hx
        have key : wpOp P ops.toArray Q i (wpList P ops.toArray Q (ops.drop (i + 1))) a w := by
          unfold wpOp
          rw [show ops.toArray[i]? = some o by simpa using ho']
          exact hx
        refine wpOp_mono (fun a' w' hq => .inr ⟨i + 1, by omega, by omega, fun j hj => ?_, fun j h1 h2 => ?_, hq⟩) key
        · rw [hset i hu]
          split
          · rfl
          · exact hall j (by omega)
        · rw [hset i hu, if_neg (by omega)]
          exact hu' j (by omega) h2
      · exfalso
        have := anc_listed hc hlen _ n i o ho' hdeps' (hanc i (by omega) hil n hi')
        rw [hfr n (by omega) (hln n (Nat.le_refl _) (by omega))] at this; cases this
  · by_cases hte : t = ops.length
    · left
      have hall : ∀ i, l.getD i true = true := fun i => by
        rcases Nat.lt_or_ge i ops.length with q | q
        · exact ht3 i (by omega)
        · simp [Array.getD, hlen, Nat.not_lt.mpr q]
      rw [rem_all hall]
      refine ⟨?_, ?_⟩
      · rw [List.eq_nil_iff_forall_not_mem]
        intro i hi
        have := (mem_ready.1 hi).1
        rw [hall i] at this; cases this
      · rw [hte, List.drop_length] at hwp
        exact hwp
    · right
      have htl' : t < ops.length := by omega
      refine ⟨hne ⟨t, ht4 t (Nat.le_refl _) htl'⟩, ?_⟩
      intro i hi
      obtain ⟨o, ho', hu, hdeps'⟩ := hready i hi
      have hil := hin i hu
      have hit : i = t := by
        rcases Nat.lt_trichotomy i t with q | q | q
        · rw [ht3 i q] at hu; cases hu
        · exact q
        · exfalso
          have := anc_listed hc hlen _ t i o ho' hdeps' (hanc i (by omega) hil t q)
          rw [hfr t htl' (ht4 t (Nat.le_refl _) htl')] at this; cases this
      subst hit
      rw [List.drop_eq_getElem_cons hil] at hwp
      have hoe : ops[i] = o := (List.getElem?_eq_some_iff.1 ho').2
      rw [hoe] at hwp
      have key : wpOp P ops.toArray Q i (wpList P ops.toArray Q (ops.drop (i + 1))) a w := by
        unfold wpOp
        rw [show ops.toArray[i]? = some o by simpa using ho']
        exact hwp
      refine wpOp_mono (fun a' w' hq => .inr ⟨i + 1, by omega, by omega, fun j hj => ?_, fun j h1 h2 => ?_, hq⟩) key
      · rw [hset i hu]
        split
        · rfl
        · exact ht3 j (by omega)
      · rw [hset i hu, if_neg (by omega)]
        exact ht4 j (by omega) h2
end Go.Proofs.Ytkagapgganoomaa
/- A store among the operations of a region that draws (FactsS). Own work. -/
namespace Go.Proofs.Ytkagapgganoomaa
open Go.ChangeShapes Go.WideShapes Go.ChangeAt Go.RowKit
theorem doesS_store {B : Nat} {S : Nat → Nat} {ops : List Oper} {Q : Exit → Act → World → Prop} {T : List (Pred B)} {U : Nat → Nat} {i : Nat} {o : Oper} {a : Act} {w : World} (hw : Region.wanted o (yielded ops.toArray a.tmps) = true) (ty t : TypeId) (p : Nat) (x : Operand) (ho : o.op = .store ty (.tmp p) x) (hdst : o.dst = none)
    (d : Nat) (hd : d ∈ depsOf o) (hU : U d = i) (D cs : List Value) (hT : T.getD d (.val undef) = .blk t D) (hS : S d = p) (hSi : S i = p) (hp : (Pred.blk t D : Pred B).holds (a.eval (.tmp p)) w) (hx : a.eval x = .agg cs.toArray) (hlen : cs.length = D.length)
    (hi : (Try.prog.info? ty).map (·.size) = some cs.length) (h1 : cs.toArray.all (·.oneCell') = true) (hTi : T.getD i (.val undef) = .blk t cs) : DoesS Try.prog S ops Q T U i o a w := by
  obtain ⟨c, ec, hB, hc⟩ := hp
  have ev : valS S a d = a.eval (.tmp p) := by unfold valS; rw [hS]; rfl
  have evi : valS S a i = a.eval (.tmp p) := by unfold valS; rw [hSi]; rfl
  refine .inl ⟨hw, fun K hK => wp_store_mid ty (.tmp p) x ho c 0 cs.toArray ec hx (hc.there _ (by rw [List.size_toArray, hlen])) (by simpa using hi) h1 ?_⟩
  have hg : w.grownBy (w.setCells c 0 cs) (some c) := only_setCells c cs 0 w (World.grownBy.refl w _)
  have hn : Blk (w.setCells c 0 cs) c t cs := hc.whole cs hlen
  have hk := hK (.pointer (some ⟨c, 0, none⟩)) (w.setCells c 0 cs) (by rw [hTi]; exact ⟨c, rfl, hB, hn⟩) (.inr ⟨d, c, hd, hU, by rw [hT]; rfl, by rw [ev, ec]; rfl, hB, hg⟩)
    (fun _ g q => by
      have e : c = g := Option.some.inj q
      subst e
      exact ⟨hn.lt, .inr ⟨d, hd, hU, by rw [hT]; rfl, by rw [ev, ec]; rfl⟩⟩)
    (fun _ => by rw [evi, ec])
  rw [hdst] at hk ⊢
  exact hk
end Go.Proofs.Ytkagapgganoomaa
/- What single operations do to values: fields, loads, lengths, the lesser of two, pieces of texts. Own work. -/
namespace Go.Proofs.Ytkagapgganoomaa
open Go.ChangeShapes Go.WideShapes Go.ChangeAt Go.RowKit
section
variable {P : Program} {o : Oper} {a : Act} {w : World}
theorem ex_nilCheck {x : Operand} {p : Addr} (ho : o.op = .nilCheck x) (hx : a.eval x = .pointer (some p)) : (execOp a.eval o).run P w = .ok (.value (.pointer (some p))) w := by
  unfold execOp; rw [ho]; simp only [hx]; go_simp
theorem ex_fieldAddr {x : Operand} {t : TypeId} {p q : Addr} {f : Nat} (ho : o.op = .fieldAddr t x f) (hx : a.eval x = .pointer (some p)) (h : (Instr.fieldAt t (.pointer (some p)) f).run P w = .ok (.pointer (some q)) w) : (execOp a.eval o).run P w = .ok (.value (.pointer (some q))) w := by
  unfold execOp; rw [ho]; simp only [hx, Sem.run_bind, h, Result.andThen_ok, Sem.run_pure]
theorem ex_min {x y : Operand} {ts : Array TypeId} {k : IntKind} {u v : Int} (ho : o.op = .call { callee := .builtin .min, args := #[x, y], argTypes := ts }) (hx : a.eval x = .int k u) (hy : a.eval y = .int k v) : (execOp a.eval o).run P w = .ok (.value (.int k (min u v))) w := by
  have e : (if v < u then v else u) = min u v := by split <;> omega
  simp only [execOp, ho, resolve, invoke, builtin, Sem.run_bind, Sem.run_pure, Result.andThen_ok, List.map_toArray, List.map_cons, List.map_nil, hx, hy, run_min_int2, e]
theorem ex_max {x y : Operand} {ts : Array TypeId} {k : IntKind} {u v : Int} (ho : o.op = .call { callee := .builtin .max, args := #[x, y], argTypes := ts }) (hx : a.eval x = .int k u) (hy : a.eval y = .int k v) : (execOp a.eval o).run P w = .ok (.value (.int k (max u v))) w := by
  have e : (if u < v then v else u) = max u v := by split <;> omega
  simp only [execOp, ho, resolve, invoke, builtin, Sem.run_bind, Sem.run_pure, Result.andThen_ok, List.map_toArray, List.map_cons, List.map_nil, hx, hy, run_max_int2, e]
theorem ex_len_str {x : Operand} {ts : Array TypeId} {s : ByteArray} (ho : o.op = .call { callee := .builtin .len, args := #[x], argTypes := ts }) (hx : a.eval x = .string s) (hl : (Builtin.len_ ts o.type #[.string s]).run P w = .ok (.int .i64 (s.size : Int)) w) : (execOp a.eval o).run P w = .ok (.value (.int .i64 (s.size : Int))) w := by
  simp only [execOp, ho, resolve, invoke, builtin, Sem.run_bind, Sem.run_pure, Result.andThen_ok, List.map_toArray, List.map_cons, List.map_nil, hx, hl]
theorem ex_slice_str {x y z : Operand} {t : TypeId} {s : ByteArray} {p q : Nat} (hu : P.underlying t = some .string) (ho : o.op = .slice t x (some y) (some z) none) (hx : a.eval x = .string s) (hy : a.eval y = .int .i64 (p : Int)) (hz : a.eval z = .int .i64 (q : Int)) (h1 : p ≤ q) (h2 : q ≤ s.size) :
    (execOp a.eval o).run P w = .ok (.value (.string (s.extract p q))) w := by
  have c1 : (p : Int) ≤ (q : Int) := by omega
  have c2 : (q : Int) ≤ (s.size : Int) := by omega
  have h : (Instr.slice t (.string s) (some (.int .i64 (p : Int))) (some (.int .i64 (q : Int))) none).run P w = .ok (.string (s.extract p q)) w := by
    have c3 : (p : Int) ≤ (s.size : Int) := by omega
    simp [Instr.slice, run_underlying hu, Instr.sliceBounds, run_sliceBound, *]
  simp only [execOp, ho, hx, hy, hz, Option.map, Sem.run_bind, Sem.run_pure, run_sliceAt_string (P := P) (w := w) t _ _ _ _ hu, h, Result.andThen_ok]
end
end Go.Proofs.Ytkagapgganoomaa
/- A region that draws its order in which one operation (a call) may turn the world at will, and another one (a store, with no slot) stores what came of it; all others read, and what is known of their values hangs on no world. Own work. -/
namespace Go.Proofs.Ytkagapgganoomaa
open Go.RowKit
/-- What is known of an operation's value: what it is; how it hangs on what the call left; nothing. -/
inductive Fk where
  | pre (x : Value)
  | post (f : Value → Value → Prop)
  | any
def Fk.holds : Fk → Option Value → Value → Prop
  | .pre x, _, v => v = x
  | .post f, y, v => ∃ u, y = some u ∧ f u v
  | .any, _, _ => True
theorem Fk.last {f : Fk} {u v : Value} (h : f.holds none v) : f.holds (some u) v := by
  cases f with
  | pre x => exact h
  | post f => obtain ⟨_, e, _⟩ := h; cases e
  | any => trivial
def factsK (ops : List Oper) (p n : Nat) : Bool := (List.range ops.length).all (fun i => match dstQ ops i with | none => decide (i = p) | some d => decide (d < n)) && (List.range ops.length).all (fun i => (List.range ops.length).all fun j => decide (i = j) || decide (dstQ ops i = none) || decide (dstQ ops i ≠ dstQ ops j))
def DoesK (P : Program) (ops : List Oper) (Q : Exit → Act → World → Prop) (o : Oper) (a : Act) (w : World) (C : Value → World → Prop) : Prop :=
  Region.wanted o (yielded ops.toArray a.tmps) = true ∧ ∀ K : Act → World → Prop, (∀ v w', C v w' → K (a.put o.dst v) w') → o.wp P a w K Q
theorem wp_region_k {P : Program} {id : Nat} {ops : List Oper} {Q : Exit → Act → World → Prop} {a0 : Act} {w0 : World} (hm : P.follows .mixedOrders = true) (m p : Nat) (hml : m < ops.length) (hpl : p < ops.length) (hE : earlyB 0 ops = true) (hA : ancB ops ops.length m p = true) (hB : factsK ops p a0.tmps.size = true)
    (I : Option Value → Bool → World → Prop) (tbl : List Fk) (hp : tbl.getD p .any = .any) (hI0 : I none false w0.drew)
    (hop : eachOp (fun i o => ∀ a w y (b : Bool), (∀ k, (∀ i, i < ops.length → dstQ ops i ≠ some k) → a.tmps.getD k undef = a0.tmps.getD k undef) → I y b w → (i = m → y = none ∧ b = false) → (i ∈ (ops[m]?.map depsOf).getD [] → y = none) → (i = p → b = false) → (∀ j ∈ depsOf o, (tbl.getD j .any).holds y (valOf ops a j)) →
      DoesK P ops Q o a w (fun v w' => I (if i = m then some v else y) (b || i == p) w' ∧ (tbl.getD i .any).holds (if i = m then some v else y) v)) 0 ops)
    (hend : ∀ (vs : Nat → Value) y w, I y true w → (∀ i, i < ops.length → (tbl.getD i .any).holds y (vs i)) → Q .normal (putOps ops 0 vs a0) w) : (Code.region id ops.toArray true).wp P Q a0 w0 := by
  simp only [factsK, Bool.and_eq_true, List.all_eq_true, List.mem_range] at hB
  obtain ⟨hB1, hB2⟩ := hB
  have hq : ∀ (i : Nat) o, ops[i]? = some o → dstQ ops i = o.dst := fun i o ho => by unfold dstQ; rw [ho]; rfl
  have hdst : ∀ (i : Nat) o d, ops[i]? = some o → o.dst = some d → dstOf ops i = d ∧ d < a0.tmps.size := fun i o d ho hd => by
    have h := hB1 i (List.getElem?_eq_some_iff.1 ho).1
    rw [hq i o ho, hd] at h
    simp only [decide_eq_true_eq] at h
    exact ⟨by unfold dstOf; rw [ho]; simp [hd], h⟩
  have hnone : ∀ (i : Nat) o, ops[i]? = some o → o.dst = none → i = p := fun i o ho hd => by
    have h := hB1 i (List.getElem?_eq_some_iff.1 ho).1
    rw [hq i o ho, hd] at h
    simpa using h
  have hapart : ∀ i j d, i < ops.length → j < ops.length → dstQ ops i = some d → dstQ ops j = some d → i = j := fun i j d hi hj e1 e2 => by
    have h := hB2 i hi j hj
    simp only [Bool.or_eq_true, decide_eq_true_eq] at h
    rcases h with (h | h) | h
    · exact h
    · rw [e1] at h; cases h
    · exact absurd (e1.trans e2.symm) h
  refine wp_region_inv hm (fun l a w => a.defers = a0.defers ∧ a.tmps.size = a0.tmps.size ∧ (∀ k, (∀ i, i < ops.length → dstQ ops i ≠ some k) → a.tmps[k]? = a0.tmps[k]?) ∧ ∃ y, (l.getD m true = false → y = none) ∧ I y (l.getD p true) w ∧ ∀ i, i < ops.length → l.getD i true = true → (tbl.getD i .any).holds y (valOf ops a i))
    ⟨rfl, rfl, fun _ _ => rfl, none, fun _ => rfl, by simpa [Array.getD, hpl] using hI0, fun i hi h => by simp [Array.getD, hi] at h⟩ ?_
  intro l a w hl hc ⟨j1, j2, j3, y, j4, jI, j5⟩
  have hlen : l.size = ops.length := by simpa using hl
  by_cases hall : ∀ i, l.getD i true = true
  · left
    rw [rem_all hall]
    refine ⟨?_, ?_⟩
    · rw [List.eq_nil_iff_forall_not_mem]
      intro i hi
      have := (mem_ready.1 hi).1
      rw [hall i] at this; cases this
    · have e := putOps_eqS a ops 0 (fun i => valOf ops a i) a0 j1.symm j2.symm (fun k hk => (j3 k (fun i hi q => hk ops[i] (List.getElem_mem hi) (by rw [← hq i ops[i] (List.getElem?_eq_getElem hi)]; exact q))).symm) (fun j o d ho hd => by
        obtain ⟨h1, h2⟩ := hdst j o d ho hd
        have h3 : d < a.tmps.size := by rw [j2]; exact h2
        rw [Array.getElem?_eq_getElem h3, Nat.zero_add]
        unfold valOf
        rw [h1]
        simp [Array.getD, h3])
      rw [← e]
      rw [hall p] at jI
      exact hend _ y w jI (fun i hi => j5 i hi (hall i))
  · right
    have hex : ∃ i, l.getD i true = false := by
      rcases Classical.em (∃ i, l.getD i true = false) with q | q
      · exact q
      · exact absurd (fun i => by
          cases h : l.getD i true with
          | true => rfl
          | false => exact absurd ⟨i, h⟩ q) hall
    have hmin : ∃ i, l.getD i true = false ∧ ∀ j, j < i → l.getD j true = true := by
      obtain ⟨i, hi⟩ := hex
      induction i using Nat.strongRecOn with
      | _ i ih =>
        rcases Classical.em (∃ j, j < i ∧ l.getD j true = false) with ⟨j, hji, hj⟩ | q
        · exact ih j hji hj
        · refine ⟨i, hi, fun j hj => ?_⟩
          cases h : l.getD j true with
          | true => rfl
          | false => exact absurd ⟨j, hj, h⟩ q
    have hin : ∀ i, l.getD i true = false → i < ops.length := fun i h => by
      rcases Nat.lt_or_ge i l.size with q | q
      · omega
      · simp [Array.getD, Nat.not_lt.mpr q] at h
    refine ⟨?_, ?_⟩
    · obtain ⟨i, hi, hj⟩ := hmin
      have hil := hin i hi
      refine List.ne_nil_of_mem (a := i) (mem_ready.2 ⟨hi, ops[i], by simp [hil], fun e he hb => ?_⟩)
      have hdep : e.on ∈ depsOf ops[i] := List.mem_map.2 ⟨e, List.mem_filter.2 ⟨by simpa using he, hb⟩, rfl⟩
      have h1 := earlyB_get ops 0 i ops[i] hE (List.getElem?_eq_getElem hil) e.on hdep
      have h2 := hj e.on (by omega)
      have h3 : e.on < l.size := by omega
      simp [Array.getD, h3] at h2 ⊢
      exact h2
    · intro i hi
      obtain ⟨hu, o, ho, hdeps⟩ := mem_ready.1 hi
      have ho' : ops[i]? = some o := by simpa using ho
      have hil : i < ops.length := (List.getElem?_eq_some_iff.1 ho').1
      have hx := eachOp_get ops 0 i o hop ho' a w y (l.getD p true) (fun k hk => by
        have := j3 k hk
        rw [Array.getD_eq_getD_getElem?, Array.getD_eq_getD_getElem?, this]) jI (fun q => by
          rw [Nat.zero_add] at q
          subst q
          refine ⟨j4 hu, ?_⟩
          cases hlp : l.getD p true with
          | false => rfl
          | true =>
            have h1 := anc_listed hc hlen _ i p ops[p] (List.getElem?_eq_getElem hpl) (fun k hk => by
              obtain ⟨x, hx, qe⟩ := List.mem_map.1 hk
              obtain ⟨hx1, hx2⟩ := List.mem_filter.1 hx
              have := hc p ops[p] (by simp [hpl]) hlp x (by simpa using hx1) hx2
              rw [qe] at this; exact this) hA
            have hil2 : i < l.size := by omega
            simp [Array.getD, hil2] at h1 hu
            rw [hu] at h1; cases h1) (fun q => by
          rw [Nat.zero_add] at q
          have hom : ops[m]? = some ops[m] := List.getElem?_eq_getElem hml
          rw [hom] at q
          obtain ⟨e, he, qe⟩ := List.mem_map.1 (show i ∈ depsOf ops[m] from q)
          obtain ⟨he1, he2⟩ := List.mem_filter.1 he
          cases hlm : l.getD m true with
          | false => exact j4 hlm
          | true =>
            have h1 := hc m ops[m] (by simp [hml]) hlm e (by simpa using he1) he2
            have hil2 : i < l.size := by omega
            rw [qe] at h1
            simp [Array.getD, hil2] at h1 hu
            rw [hu] at h1; cases h1) (fun q => by rw [Nat.zero_add] at q; subst q; exact hu) (fun j hj => by
          obtain ⟨e, he, q⟩ := List.mem_map.1 hj
          obtain ⟨he1, he2⟩ := List.mem_filter.1 he
          subst q
          have h1 := hdeps e (by simpa using he1) he2
          have h3 : e.on < l.size := by
            rcases Nat.lt_or_ge e.on l.size with z | z
            · exact z
            · simp [Array.getD, Nat.not_lt.mpr z] at h1
          exact j5 e.on (by omega) (by simp [Array.getD, h3] at h1 ⊢; exact h1))
      rw [Nat.zero_add] at hx
      obtain ⟨hw, hx⟩ := hx
      unfold wpOp
      rw [ho]
      show if Region.wanted o (yielded ops.toArray a.tmps) = true then _ else _
      rw [if_pos hw]
      refine .inl (hx _ (fun v w' ⟨hI, hf⟩ => ?_))
      refine ⟨by rw [put_defers']; exact j1, by rw [put_size]; exact j2, fun k hk => ?_, (if i = m then some v else y), fun hlm => ?_, ?_, fun j hj hlj => ?_⟩
      · cases hd : o.dst with
        | none => exact j3 k hk
        | some d =>
          show (a.tmps.setIfInBounds d v)[k]? = _
          rw [Array.getElem?_setIfInBounds_ne (fun e => hk i hil (by rw [hq i o ho', hd, e]))]
          exact j3 k hk
      · by_cases him : i = m
        · subst him
          simp [Array.getD] at hlm
        · rw [if_neg him]
          rw [getD_set_ne true him] at hlm
          exact j4 hlm
      · by_cases hip : i = p
        · subst hip
          have e1 : (l.setIfInBounds i true).getD i true = true := by simp [Array.getD]
          rw [e1]
          simpa using hI
        · rw [getD_set_ne true hip]
          have e1 : (i == p) = false := by simpa using hip
          rw [e1, Bool.or_false] at hI
          exact hI
      · by_cases hji : i = j
        · subst hji
          cases hd : o.dst with
          | none =>
            rw [hnone i o ho' hd, hp]
            trivial
          | some d =>
            obtain ⟨h1, h2⟩ := hdst i o d ho' hd
            have : valOf ops (a.put (some d) v) i = v := by
              unfold valOf
              rw [h1]
              show (a.tmps.setIfInBounds d v).getD d undef = v
              have h3 : d < a.tmps.size := by rw [j2]; exact h2
              simp [Array.getD, h3]
            rw [this]; exact hf
        · rw [getD_set_ne true hji] at hlj
          have h5 := j5 j hj hlj
          have h6 : (tbl.getD j .any).holds (if i = m then some v else y) (valOf ops a j) := by
            by_cases him : i = m
            · rw [if_pos him]
              subst him
              rw [j4 hu] at h5
              exact Fk.last h5
            · rw [if_neg him]; exact h5
          cases hd : o.dst with
          | none => exact h6
          | some d =>
            have hoj : ops[j]? = some ops[j] := List.getElem?_eq_getElem hj
            cases hdj : (ops[j]).dst with
            | none =>
              rw [hnone j _ hoj hdj, hp]
              trivial
            | some d' =>
              obtain ⟨h1, _⟩ := hdst j _ d' hoj hdj
              have hne : d ≠ d' := fun q => hji (hapart i j d hil hj (by rw [hq i o ho']; exact hd) (by rw [hq j _ hoj, hdj, q]))
              have e : valOf ops (a.put (some d) v) j = valOf ops a j := by
                unfold valOf
                rw [h1]
                show (a.tmps.setIfInBounds d v).getD d' undef = _
                rw [Array.getD_eq_getD_getElem?, Array.getD_eq_getD_getElem?, Array.getElem?_setIfInBounds_ne hne]
              rw [e]; exact h6
/-- An operation that leaves the world as it is. -/
theorem doesK_val {P : Program} {ops : List Oper} {Q : Exit → Act → World → Prop} {o : Oper} {a : Act} {w : World} {C : Value → World → Prop} {v : Value} (hw : Region.wanted o (yielded ops.toArray a.tmps) = true) (h : (execOp a.eval o).run P w = .ok (.value v) w) (hC : C v w) : DoesK P ops Q o a w C := by
  refine ⟨hw, fun K hK => ?_⟩
  unfold Oper.wp
  rw [h, Oper.upon_value]
  exact hK v w hC
theorem doesK_call {P : Program} {ops : List Oper} {Q : Exit → Act → World → Prop} {o : Oper} {a : Act} {w : World} {C : Value → World → Prop} {fn : FuncId} {args : Array Value} (hw : Region.wanted o (yielded ops.toArray a.tmps) = true) (h : (execOp a.eval o).run P w = .ok (.enter fn args) w)
    (hc : Calls P fn args w fun e w' => ∃ v, e = .returned v ∧ C v w') : DoesK P ops Q o a w C := by
  refine ⟨hw, fun K hK => ?_⟩
  unfold Oper.wp
  rw [h, Oper.upon_enter]
  refine hc.mono fun e w' hh => ?_
  obtain ⟨v, rfl, hf⟩ := hh
  exact hK v w' hf
/-- A row loaded. -/
theorem doesK_load {ops : List Oper} {Q : Exit → Act → World → Prop} {o : Oper} {a : Act} {w : World} {C : Value → World → Prop} (hw : Region.wanted o (yielded ops.toArray a.tmps) = true) (ty : TypeId) (x : Operand) (ho : o.op = .load ty x) (b f : Nat) (hx : a.eval x = .pointer (some ⟨b, f, none⟩)) (cs : List Value) (hr : w.rangeAt b f cs) (d : TypeDesc) (hu : Try.prog.underlying ty = some d) (hd : d.isRow = true) (hi : (Try.prog.info? ty).map (·.size) = some cs.length) (hC : C (.agg cs.toArray) w) : DoesK Try.prog ops Q o a w C :=
  ⟨hw, fun _ hK => wp_load_mid ty x ho b f hx cs d hr hu hd hi (hK _ _ hC)⟩
/-- A row stored over a block. -/
theorem doesK_store {ops : List Oper} {Q : Exit → Act → World → Prop} {o : Oper} {a : Act} {w : World} {C : Value → World → Prop} (hw : Region.wanted o (yielded ops.toArray a.tmps) = true) (ty t : TypeId) (p x : Operand) (ho : o.op = .store ty p x) (hdst : o.dst = none) (c : Nat) (D cs : List Value) (hp : a.eval p = .pointer (some ⟨c, 0, none⟩)) (hb : Blk w c t D) (hx : a.eval x = .agg cs.toArray) (hlen : cs.length = D.length)
    (hi : (Try.prog.info? ty).map (·.size) = some cs.length) (h1 : cs.toArray.all (·.oneCell') = true) (hC : ∀ w', w.grownBy w' (some c) → Blk w' c t cs → C undef w') : DoesK Try.prog ops Q o a w C := by
  refine ⟨hw, fun K hK => wp_store_mid ty p x ho c 0 cs.toArray hp hx (hb.there _ (by rw [List.size_toArray, hlen])) (by simpa using hi) h1 ?_⟩
  have hg : w.grownBy (w.setCells c 0 cs) (some c) := only_setCells c cs 0 w (World.grownBy.refl w _)
  have hk := hK undef (w.setCells c 0 cs) (hC _ hg (hb.whole cs hlen))
  rw [hdst] at hk ⊢
  exact hk
section
variable {ops : List Oper} {Q : Exit → Act → World → Prop} {o : Oper} {a : Act} {w : World} {I : Option Value → Bool → World → Prop} {tbl : List Fk} {y : Option Value} {b : Bool} {i m p : Nat}
/-- The same, as the law asks for it: neither the call nor the store. -/
theorem doesK_read {P : Program} {v : Value} (him : i ≠ m) (hip : i ≠ p) (hw : Region.wanted o (yielded ops.toArray a.tmps) = true) (h : (execOp a.eval o).run P w = .ok (.value v) w) (hI : I y b w) (hf : (tbl.getD i .any).holds y v) :
    DoesK P ops Q o a w (fun v w' => I (if i = m then some v else y) (b || i == p) w' ∧ (tbl.getD i .any).holds (if i = m then some v else y) v) := by
  have e : (i == p) = false := by simpa using hip
  rw [e, Bool.or_false]
  simp only [if_neg him]
  exact doesK_val hw h ⟨hI, hf⟩
theorem doesK_row (him : i ≠ m) (hip : i ≠ p) (hw : Region.wanted o (yielded ops.toArray a.tmps) = true) (ty : TypeId) (x : Operand) (ho : o.op = .load ty x) (c f : Nat) (hx : a.eval x = .pointer (some ⟨c, f, none⟩)) (cs : List Value) (hr : w.rangeAt c f cs) (d : TypeDesc) (hu : Try.prog.underlying ty = some d) (hd : d.isRow = true) (hi : (Try.prog.info? ty).map (·.size) = some cs.length) (hI : I y b w) (hf : (tbl.getD i .any).holds y (.agg cs.toArray)) :
    DoesK Try.prog ops Q o a w (fun v w' => I (if i = m then some v else y) (b || i == p) w' ∧ (tbl.getD i .any).holds (if i = m then some v else y) v) := by
  have e : (i == p) = false := by simpa using hip
  rw [e, Bool.or_false]
  simp only [if_neg him]
  exact doesK_load hw ty x ho c f hx cs hr d hu hd hi ⟨hI, hf⟩
theorem doesK_do {P : Program} {fn : FuncId} {args : Array Value} (him : i = m) (hip : i ≠ p) (hw : Region.wanted o (yielded ops.toArray a.tmps) = true) (h : (execOp a.eval o).run P w = .ok (.enter fn args) w) (hc : Calls P fn args w fun e w' => ∃ v, e = .returned v ∧ I (some v) b w' ∧ (tbl.getD i .any).holds (some v) v) :
    DoesK P ops Q o a w (fun v w' => I (if i = m then some v else y) (b || i == p) w' ∧ (tbl.getD i .any).holds (if i = m then some v else y) v) := by
  have e : (i == p) = false := by simpa using hip
  rw [e, Bool.or_false]
  simp only [if_pos him]
  exact doesK_call hw h hc
theorem doesK_put (him : i ≠ m) (hip : i = p) (hw : Region.wanted o (yielded ops.toArray a.tmps) = true) (ty t : TypeId) (q x : Operand) (ho : o.op = .store ty q x) (hdst : o.dst = none) (c : Nat) (D cs : List Value) (hp : a.eval q = .pointer (some ⟨c, 0, none⟩)) (hb : Blk w c t D) (hx : a.eval x = .agg cs.toArray) (hlen : cs.length = D.length)
    (hi : (Try.prog.info? ty).map (·.size) = some cs.length) (h1 : cs.toArray.all (·.oneCell') = true) (hT : tbl.getD i .any = .any) (hC : ∀ w', w.grownBy w' (some c) → Blk w' c t cs → I y true w') :
    DoesK Try.prog ops Q o a w (fun v w' => I (if i = m then some v else y) (b || i == p) w' ∧ (tbl.getD i .any).holds (if i = m then some v else y) v) := by
  have e : (i == p) = true := by simpa using hip
  rw [e, Bool.or_true]
  simp only [if_neg him]
  exact doesK_store hw ty t q x ho hdst c D cs hp hb hx hlen hi h1 (fun w' g k => ⟨hC w' g k, by rw [hT]; trivial⟩)
end
end Go.Proofs.Ytkagapgganoomaa
/- A region that draws its order: of each operation's value any condition that lasts while the world grows; nothing is turned in it but by the last operations, which come in order. Own work. -/
namespace Go.Proofs.Ytkagapgganoomaa
open Go.RowKit
/-- A condition that lasts while the world grows. -/
structure Last where
  holds : Value → World → Prop
  later : ∀ {v w w'}, holds v w → Below w.heap.size w w' → holds v w'
def Last.val (x : Value) : Last := ⟨fun v _ => v = x, fun h _ => h⟩
def DoesL (P : Program) (ops : List Oper) (Q : Exit → Act → World → Prop) (o : Oper) (a : Act) (w : World) (f : Last) : Prop :=
  Region.wanted o (yielded ops.toArray a.tmps) = true ∧ ∀ K : Act → World → Prop, (∀ v w', Below w.heap.size w w' → f.holds v w' → K (a.put o.dst v) w') → o.wp P a w K Q
theorem wp_region_l {P : Program} {id : Nat} {ops : List Oper} {Q : Exit → Act → World → Prop} {a0 : Act} {w0 : World} (hm : P.follows .mixedOrders = true) (n : Nat) (hn : n < ops.length)
    (hB : factsB (ops.take n) a0.tmps.size = true) (hL : tailB ops n = true) (hE : earlyB 0 ops = true) (tbl : List Last)
    (hop : eachOp (fun i o => ∀ a w, (∀ k, (∀ i, i < n → dstOf ops i ≠ k) → a.tmps.getD k undef = a0.tmps.getD k undef) → Below w0.heap.size w0 w → (∀ j ∈ depsOf o, (tbl.getD j (Last.val undef)).holds (valOf ops a j) w) → DoesL P ops Q o a w (tbl.getD i (Last.val undef))) 0 (ops.take n))
    (hend : ∀ (vs : Nat → Value) w, Below w0.heap.size w0 w → (∀ i, i < n → (tbl.getD i (Last.val undef)).holds (vs i) w) → wpList P ops.toArray Q (ops.drop n) (putOps (ops.take n) 0 vs a0) w) : (Code.region id ops.toArray true).wp P Q a0 w0 := by
  simp only [factsB, Bool.and_eq_true, List.all_eq_true, decide_eq_true_eq] at hB
  obtain ⟨⟨⟨_, hsome⟩, hnd⟩, hrange⟩ := hB
  have htl : (ops.take n).length = n := by rw [List.length_take]; omega
  rw [htl] at hrange
  have hget : ∀ i, i < n → (ops.take n)[i]? = ops[i]? := fun i hi => by rw [List.getElem?_take, if_pos hi]
  have hdstE : ∀ i, i < n → dstOf (ops.take n) i = dstOf ops i := fun i hi => by unfold dstOf; rw [hget i hi]
  have hdst : ∀ (i : Nat) o, i < n → ops[i]? = some o → o.dst = some (dstOf ops i) := fun i o hi ho => by
    have hs := hsome o (List.mem_of_getElem? (by rw [hget i hi]; exact ho))
    obtain ⟨d, hd⟩ := Option.isSome_iff_exists.1 hs
    unfold dstOf; rw [ho]; simp [hd]
  have hlt : ∀ i, i < n → dstOf ops i < a0.tmps.size := fun i hi => by
    rw [← hdstE i hi]; simpa using hrange i (by simpa using hi)
  have hat : ∀ i, i < n → ∃ o, ops[i]? = some o := fun i hi => ⟨ops[i], List.getElem?_eq_getElem (by omega)⟩
  have hapart : ∀ i j, i < n → j < n → dstOf ops i = dstOf ops j → i = j := fun i j hi hj e => by
    obtain ⟨oi, ei⟩ := hat i hi
    obtain ⟨oj, ej⟩ := hat j hj
    have e1 := hdst i oi hi ei
    have e2 := hdst j oj hj ej
    have hp := List.pairwise_iff_getElem.1 hnd
    have hi' : i < ((ops.take n).map (·.dst)).length := by simp; omega
    have hj' : j < ((ops.take n).map (·.dst)).length := by simp; omega
    have q1 : ops[i]'(by omega) = oi := (List.getElem?_eq_some_iff.1 ei).2
    have q2 : ops[j]'(by omega) = oj := (List.getElem?_eq_some_iff.1 ej).2
    rcases Nat.lt_trichotomy i j with q | q | q
    · exact absurd (by simp [q1, q2, e1, e2, e]) (hp i j hi' hj' q)
    · exact q
    · exact absurd (by simp [q1, q2, e1, e2, e]) (hp j i hj' hi' q)
  have hanc : ∀ i, n ≤ i → i < ops.length → ∀ j, j < i → ancB ops ops.length j i = true := fun i h1 h2 j h3 => by
    unfold tailB at hL
    rw [List.all_eq_true] at hL
    have h := hL i (by simpa using h2)
    simp only [Bool.or_eq_true, decide_eq_true_eq, List.all_eq_true] at h
    rcases h with q | q
    · omega
    · exact q j (by simpa using h3)
  refine wp_region_inv hm (fun l a w => (l.getD n true = false ∧ a.defers = a0.defers ∧ a.tmps.size = a0.tmps.size ∧ (∀ k, (∀ i, i < n → dstOf ops i ≠ k) → a.tmps[k]? = a0.tmps[k]?) ∧ Below w0.heap.size w0 w ∧ ∀ i, i < n → l.getD i true = true → (tbl.getD i (Last.val undef)).holds (valOf ops a i) w) ∨
      ∃ t, n < t ∧ t ≤ ops.length ∧ (∀ i, i < t → l.getD i true = true) ∧ (∀ i, t ≤ i → i < ops.length → l.getD i true = false) ∧ wpList P ops.toArray Q (ops.drop t) a w)
    (.inl ⟨by simp [Array.getD, hn], rfl, rfl, fun _ _ => rfl, (Below.refl _ _).drew, fun i hi h => by simp [Array.getD, Nat.lt_trans hi hn] at h⟩) ?_
  intro l a w hl hc hj
  have hlen : l.size = ops.length := by simpa using hl
  have hto : ∀ i, i < ops.length → l.getD i false = true → l.getD i true = true := fun i hi h => by
    simp [Array.getD, hlen, hi] at h ⊢; exact h
  have hfr : ∀ i, i < ops.length → l.getD i true = false → l.getD i false = false := fun i hi h => by
    simp [Array.getD, hlen, hi] at h ⊢; exact h
  have hin : ∀ i, l.getD i true = false → i < ops.length := fun i h => by
    rcases Nat.lt_or_ge i l.size with q | q
    · omega
    · simp [Array.getD, Nat.not_lt.mpr q] at h
  have hne : (∃ i, l.getD i true = false) → Region.ready .any ops.toArray l ≠ [] := fun hex => by
    have hmin : ∃ i, l.getD i true = false ∧ ∀ j, j < i → l.getD j true = true := by
      obtain ⟨i, hi⟩ := hex
      induction i using Nat.strongRecOn with
      | _ i ih =>
        rcases Classical.em (∃ j, j < i ∧ l.getD j true = false) with ⟨j, hji, hj⟩ | q
        · exact ih j hji hj
        · refine ⟨i, hi, fun j hj => ?_⟩
          cases h : l.getD j true with
          | true => rfl
          | false => exact absurd ⟨j, hj, h⟩ q
    obtain ⟨i, hi, hj⟩ := hmin
    have hil := hin i hi
    refine List.ne_nil_of_mem (a := i) (mem_ready.2 ⟨hi, ops[i], by simp [hil], fun e he hb => ?_⟩)
    have hdep : e.on ∈ depsOf ops[i] := List.mem_map.2 ⟨e, List.mem_filter.2 ⟨by simpa using he, hb⟩, rfl⟩
    have h1 := earlyB_get ops 0 i ops[i] hE (List.getElem?_eq_getElem hil) e.on hdep
    have h2 := hj e.on (by omega)
    have h3 : e.on < l.size := by omega
    simp [Array.getD, h3] at h2 ⊢
    exact h2
  have hready : ∀ i ∈ Region.ready .any ops.toArray l, ∃ o, ops[i]? = some o ∧ l.getD i true = false ∧ ∀ j ∈ depsOf o, l.getD j false = true := fun i hi => by
    obtain ⟨hu, o, ho, hdeps⟩ := mem_ready.1 hi
    refine ⟨o, by simpa using ho, hu, fun j hj => ?_⟩
    obtain ⟨e, he, q⟩ := List.mem_map.1 hj
    obtain ⟨he1, he2⟩ := List.mem_filter.1 he
    subst q
    exact hdeps e (by simpa using he1) he2
  have hset : ∀ i, l.getD i true = false → ∀ j, (l.setIfInBounds i true).getD j true = if i = j then true else l.getD j true := fun i hi j => by
    by_cases h : i = j
    · subst h; rw [if_pos rfl]; simp [Array.getD, hlen, hin i hi]
    · rw [if_neg h, getD_set_ne true h]
  rcases hj with ⟨hln, j1, j2, j3, j4, j5⟩ | ⟨t, ht1, ht2, ht3, ht4, hwp⟩
  · right
    refine ⟨hne ⟨n, hln⟩, ?_⟩
    intro i hi
    obtain ⟨o, ho', hu, hdeps'⟩ := hready i hi
    have hil := hin i hu
    rcases Nat.lt_trichotomy i n with hi' | hi' | hi'
    · have hx := eachOp_get (ops.take n) 0 i o hop (by rw [hget i hi']; exact ho') a w (fun k hk => by
        have := j3 k hk
        rw [Array.getD_eq_getD_getElem?, Array.getD_eq_getD_getElem?, this]) j4 (fun j hj => by
          have hjn : j < n := by
            have := earlyB_get ops 0 i o hE ho' j hj
            omega
          exact j5 j hjn (hto j (by omega) (hdeps' j hj)))
      rw [Nat.zero_add] at hx
      obtain ⟨hw, hx⟩ := hx
      unfold wpOp
      rw [show ops.toArray[i]? = some o by simpa using ho']
      show if Region.wanted o (yielded ops.toArray a.tmps) = true then _ else _
      rw [if_pos hw]
      refine .inl (hx _ (fun v w' hb hf => .inl ?_))
      have hd := hdst i o hi' ho'
      have hdl' := hlt i hi'
      rw [getD_set_ne true (show i ≠ n by omega)]
      refine ⟨hln, by rw [put_defers']; exact j1, by rw [put_size]; exact j2, fun k hk => ?_, j4.trans (hb.mono j4.size), fun j hj hlj => ?_⟩
      · rw [hd]
        show (a.tmps.setIfInBounds _ v)[k]? = _
        rw [Array.getElem?_setIfInBounds_ne (hk i hi')]
        exact j3 k hk
      · by_cases hji : i = j
        · subst hji
          have : valOf ops (a.put o.dst v) i = v := by
            unfold valOf
            rw [hd]
            show (a.tmps.setIfInBounds (dstOf ops i) v).getD (dstOf ops i) undef = v
            have h1 : dstOf ops i < a.tmps.size := by rw [j2]; exact hdl'
            simp [Array.getD, h1]
          rw [this]; exact hf
        · have e : valOf ops (a.put o.dst v) j = valOf ops a j := by
            unfold valOf
            rw [hd]
            show (a.tmps.setIfInBounds (dstOf ops i) v).getD (dstOf ops j) undef = _
            have hne : dstOf ops i ≠ dstOf ops j := fun q => hji (hapart i j hi' hj q)
            rw [Array.getD_eq_getD_getElem?, Array.getD_eq_getD_getElem?, Array.getElem?_setIfInBounds_ne hne]
          rw [e]
          rw [getD_set_ne true hji] at hlj
          exact Last.later _ (j5 j hj hlj) hb
    · subst hi'
      have hall : ∀ j, j < i → l.getD j true = true := fun j hj => hto j (by omega) (anc_listed hc hlen _ j i o ho' hdeps' (hanc i (Nat.le_refl _) hil j hj))
      have e := putOps_eq a (ops.take i) 0 (fun i => valOf ops a i) a0 j1.symm j2.symm (fun k hk => (j3 k (fun m hm q => by
        obtain ⟨om, em⟩ := hat m hm
        exact hk om (List.mem_of_getElem? (by rw [hget m hm]; exact em)) (by rw [hdst m om hm em, q]))).symm) (fun j o ho => by
        have hj : j < i := by
          have := (List.getElem?_eq_some_iff.1 ho).1
          omega
        rw [hget j hj] at ho
        refine ⟨_, hdst j o hj ho, ?_⟩
        have h1 : dstOf ops j < a.tmps.size := by rw [j2]; exact hlt j hj
        rw [Array.getElem?_eq_getElem h1, Nat.zero_add]
        unfold valOf
        simp [Array.getD, h1])
      have hx := hend (fun i => valOf ops a i) w j4 (fun j hj => j5 j hj (hall j hj))
      rw [e] at hx
      have hu' : ∀ m, i < m → m < ops.length → l.getD m true = false := fun m h1 h2 => by
        cases hm : l.getD m true with
        | false => rfl
        | true =>
          exfalso
          have hmo : ops[m]? = some ops[m] := List.getElem?_eq_getElem h2
          have := anc_listed hc hlen _ i m ops[m] hmo (fun k hk => by
            obtain ⟨x, hx, qe⟩ := List.mem_map.1 hk
            obtain ⟨hx1, hx2⟩ := List.mem_filter.1 hx
            have := hc m ops[m] (by simp [h2]) hm x (by simpa using hx1) hx2
            rw [qe] at this; exact this) (hanc m (by omega) h2 i h1)
          rw [hfr i hil hu] at this; cases this
      rw [List.drop_eq_getElem_cons hil] at hx
      have hoe : ops[i] = o := (List.getElem?_eq_some_iff.1 ho').2
      rw [hoe] at hx
      have key : wpOp P ops.toArray Q i (wpList P ops.toArray Q (ops.drop (i + 1))) a w := by
        unfold wpOp
        rw [show ops.toArray[i]? = some o by simpa using ho']
        exact hx
      refine wpOp_mono (fun a' w' hq => .inr ⟨i + 1, by omega, by omega, fun j hj => ?_, fun j h1 h2 => ?_, hq⟩) key
      · rw [hset i hu]
        split
        · rfl
        · exact hall j (by omega)
      · rw [hset i hu, if_neg (by omega)]
        exact hu' j (by omega) h2
    · exfalso
      have := anc_listed hc hlen _ n i o ho' hdeps' (hanc i (by omega) hil n hi')
      rw [hfr n hn hln] at this; cases this
  · by_cases hte : t = ops.length
    · left
      have hall : ∀ i, l.getD i true = true := fun i => by
        rcases Nat.lt_or_ge i ops.length with q | q
        · exact ht3 i (by omega)
        · simp [Array.getD, hlen, Nat.not_lt.mpr q]
      rw [rem_all hall]
      refine ⟨?_, ?_⟩
      · rw [List.eq_nil_iff_forall_not_mem]
        intro i hi
        have := (mem_ready.1 hi).1
        rw [hall i] at this; cases this
      · rw [hte, List.drop_length] at hwp
        exact hwp
    · right
      have htl' : t < ops.length := by omega
      refine ⟨hne ⟨t, ht4 t (Nat.le_refl _) htl'⟩, ?_⟩
      intro i hi
      obtain ⟨o, ho', hu, hdeps'⟩ := hready i hi
      have hil := hin i hu
      have hit : i = t := by
        rcases Nat.lt_trichotomy i t with q | q | q
        · rw [ht3 i q] at hu; cases hu
        · exact q
        · exfalso
          have := anc_listed hc hlen _ t i o ho' hdeps' (hanc i (by omega) hil t q)
          rw [hfr t htl' (ht4 t (Nat.le_refl _) htl')] at this; cases this
      subst hit
      rw [List.drop_eq_getElem_cons hil] at hwp
      have hoe : ops[i] = o := (List.getElem?_eq_some_iff.1 ho').2
      rw [hoe] at hwp
      have key : wpOp P ops.toArray Q i (wpList P ops.toArray Q (ops.drop (i + 1))) a w := by
        unfold wpOp
        rw [show ops.toArray[i]? = some o by simpa using ho']
        exact hwp
      refine wpOp_mono (fun a' w' hq => .inr ⟨i + 1, by omega, by omega, fun j hj => ?_, fun j h1 h2 => ?_, hq⟩) key
      · rw [hset i hu]
        split
        · rfl
        · exact ht3 j (by omega)
      · rw [hset i hu, if_neg (by omega)]
        exact ht4 j (by omega) h2
section
variable {P : Program} {ops : List Oper} {Q : Exit → Act → World → Prop} {o : Oper} {a : Act} {w : World} {f : Last}
theorem doesL_val {v : Value} (hw : Region.wanted o (yielded ops.toArray a.tmps) = true) (h : (execOp a.eval o).run P w = .ok (.value v) w) (hf : f.holds v w) : DoesL P ops Q o a w f := by
  refine ⟨hw, fun K hK => ?_⟩
  unfold Oper.wp
  rw [h, Oper.upon_value]
  exact hK v w (Below.refl _ _) hf
theorem doesL_wp (hw : Region.wanted o (yielded ops.toArray a.tmps) = true) (h : ∀ K : Act → World → Prop, (∀ v w', f.holds v w' → Below w.heap.size w w' → K (a.put o.dst v) w') → o.wp P a w K Q) : DoesL P ops Q o a w f :=
  ⟨hw, fun K hK => h K fun v w' hf hb => hK v w' hb hf⟩
theorem doesL_call {g : FuncId} {args : Array Value} (hw : Region.wanted o (yielded ops.toArray a.tmps) = true) (h : (execOp a.eval o).run P w = .ok (.enter g args) w) (hc : Calls P g args w fun e w' => ∃ v, e = .returned v ∧ f.holds v w' ∧ Below w.heap.size w w') : DoesL P ops Q o a w f :=
  doesL_wp hw fun K hK => by
    unfold Oper.wp
    rw [h, Oper.upon_enter]
    refine hc.mono fun e w' hh => ?_
    obtain ⟨v, rfl, hf, hb⟩ := hh
    exact hK v w' hf hb
end
end Go.Proofs.Ytkagapgganoomaa
/- A region that draws its order and makes only (callees, rows, conversions of constants): of each operation's value any condition that lasts while cells keep what they hold; the last operations come in order. As FactsL, but a constant's row may be marked. Own work. -/
namespace Go.Proofs.Ytkagapgganoomaa
open Go.RowKit
/-- Nothing below B is another, and each cell that was there holds what it held (a constant's row may have been marked). -/
structure Keep (B : Nat) (w w' : World) : Prop where
  below : Below B w w'
  cell : ∀ a v, w.cell? a = some v → w'.cell? a = some v
theorem keep_below {B : Nat} {w w' : World} (h : Below w.heap.size w w') (hB : B ≤ w.heap.size) : Keep B w w' := ⟨h.mono hB, fun a v hc => by
  rw [World.cell?_of_block (w := w) (h.block _ (World.block_lt_of_cell? w _ hc))]; exact hc⟩
theorem Keep.refl (B : Nat) (w : World) : Keep B w w := ⟨Below.refl _ _, fun _ _ h => h⟩
/-- A condition that lasts so. -/
structure LastC (B : Nat) where
  holds : Value → World → Prop
  later : ∀ {v w w'}, holds v w → Keep B w w' → holds v w'
def LastC.val {B : Nat} (x : Value) : LastC B := ⟨fun v _ => v = x, fun h _ => h⟩
def DoesC (B : Nat) (P : Program) (ops : List Oper) (Q : Exit → Act → World → Prop) (o : Oper) (a : Act) (w : World) (f : LastC B) : Prop :=
  Region.wanted o (yielded ops.toArray a.tmps) = true ∧ ∀ K : Act → World → Prop, (∀ v w', Keep B w w' → f.holds v w' → K (a.put o.dst v) w') → o.wp P a w K Q
theorem wp_region_c {P : Program} {id : Nat} {ops : List Oper} {Q : Exit → Act → World → Prop} {a0 : Act} {w0 : World} (hm : P.follows .mixedOrders = true) (n : Nat) (hn : n < ops.length)
    (hB : factsB (ops.take n) a0.tmps.size = true) (hL : tailB ops n = true) (hE : earlyB 0 ops = true) (B : Nat) (_hB0 : B = w0.heap.size) (tbl : List (LastC B))
    (hop : eachOp (fun i o => ∀ a w, (∀ k, (∀ i, i < n → dstOf ops i ≠ k) → a.tmps.getD k undef = a0.tmps.getD k undef) → Keep B w0 w → (∀ j ∈ depsOf o, (tbl.getD j (LastC.val undef)).holds (valOf ops a j) w) → DoesC B P ops Q o a w (tbl.getD i (LastC.val undef))) 0 (ops.take n))
    (hend : ∀ (vs : Nat → Value) w, Keep B w0 w → (∀ i, i < n → (tbl.getD i (LastC.val undef)).holds (vs i) w) → wpList P ops.toArray Q (ops.drop n) (putOps (ops.take n) 0 vs a0) w) : (Code.region id ops.toArray true).wp P Q a0 w0 := by
  simp only [factsB, Bool.and_eq_true, List.all_eq_true, decide_eq_true_eq] at hB
  obtain ⟨⟨⟨_, hsome⟩, hnd⟩, hrange⟩ := hB
  have htl : (ops.take n).length = n := by rw [List.length_take]; omega
  rw [htl] at hrange
  have hget : ∀ i, i < n → (ops.take n)[i]? = ops[i]? := fun i hi => by rw [List.getElem?_take, if_pos hi]
  have hdstE : ∀ i, i < n → dstOf (ops.take n) i = dstOf ops i := fun i hi => by unfold dstOf; rw [hget i hi]
  have hdst : ∀ (i : Nat) o, i < n → ops[i]? = some o → o.dst = some (dstOf ops i) := fun i o hi ho => by
    have hs := hsome o (List.mem_of_getElem? (by rw [hget i hi]; exact ho))
    obtain ⟨d, hd⟩ := Option.isSome_iff_exists.1 hs
    unfold dstOf; rw [ho]; simp [hd]
  have hlt : ∀ i, i < n → dstOf ops i < a0.tmps.size := fun i hi => by
    rw [← hdstE i hi]; simpa using hrange i (by simpa using hi)
  have hat : ∀ i, i < n → ∃ o, ops[i]? = some o := fun i hi => ⟨ops[i], List.getElem?_eq_getElem (by omega)⟩
  have hapart : ∀ i j, i < n → j < n → dstOf ops i = dstOf ops j → i = j := fun i j hi hj e => by
    obtain ⟨oi, ei⟩ := hat i hi
    obtain ⟨oj, ej⟩ := hat j hj
    have e1 := hdst i oi hi ei
    have e2 := hdst j oj hj ej
    have hp := List.pairwise_iff_getElem.1 hnd
    have hi' : i < ((ops.take n).map (·.dst)).length := by simp; omega
    have hj' : j < ((ops.take n).map (·.dst)).length := by simp; omega
    have q1 : ops[i]'(by omega) = oi := (List.getElem?_eq_some_iff.1 ei).2
    have q2 : ops[j]'(by omega) = oj := (List.getElem?_eq_some_iff.1 ej).2
    rcases Nat.lt_trichotomy i j with q | q | q
    · exact absurd (by simp [q1, q2, e1, e2, e]) (hp i j hi' hj' q)
    · exact q
    · exact absurd (by simp [q1, q2, e1, e2, e]) (hp j i hj' hi' q)
  have hanc : ∀ i, n ≤ i → i < ops.length → ∀ j, j < i → ancB ops ops.length j i = true := fun i h1 h2 j h3 => by
    unfold tailB at hL
    rw [List.all_eq_true] at hL
    have h := hL i (by simpa using h2)
    simp only [Bool.or_eq_true, decide_eq_true_eq, List.all_eq_true] at h
    rcases h with q | q
    · omega
    · exact q j (by simpa using h3)
  refine wp_region_inv hm (fun l a w => (l.getD n true = false ∧ a.defers = a0.defers ∧ a.tmps.size = a0.tmps.size ∧ (∀ k, (∀ i, i < n → dstOf ops i ≠ k) → a.tmps[k]? = a0.tmps[k]?) ∧ Keep B w0 w ∧ ∀ i, i < n → l.getD i true = true → (tbl.getD i (LastC.val undef)).holds (valOf ops a i) w) ∨
      ∃ t, n < t ∧ t ≤ ops.length ∧ (∀ i, i < t → l.getD i true = true) ∧ (∀ i, t ≤ i → i < ops.length → l.getD i true = false) ∧ wpList P ops.toArray Q (ops.drop t) a w)
    (.inl ⟨by simp [Array.getD, hn], rfl, rfl, fun _ _ => rfl, ⟨(Below.refl _ _).drew, fun _ _ h => h⟩, fun i hi h => by simp [Array.getD, Nat.lt_trans hi hn] at h⟩) ?_
  intro l a w hl hc hj
  have hlen : l.size = ops.length := by simpa using hl
  have hto : ∀ i, i < ops.length → l.getD i false = true → l.getD i true = true := fun i hi h => by
    simp [Array.getD, hlen, hi] at h ⊢; exact h
  have hfr : ∀ i, i < ops.length → l.getD i true = false → l.getD i false = false := fun i hi h => by
    simp [Array.getD, hlen, hi] at h ⊢; exact h
  have hin : ∀ i, l.getD i true = false → i < ops.length := fun i h => by
    rcases Nat.lt_or_ge i l.size with q | q
    · omega
    · simp [Array.getD, Nat.not_lt.mpr q] at h
  have hne : (∃ i, l.getD i true = false) → Region.ready .any ops.toArray l ≠ [] := fun hex => by
    have hmin : ∃ i, l.getD i true = false ∧ ∀ j, j < i → l.getD j true = true := by
      obtain ⟨i, hi⟩ := hex
      induction i using Nat.strongRecOn with
      | _ i ih =>
        rcases Classical.em (∃ j, j < i ∧ l.getD j true = false) with ⟨j, hji, hj⟩ | q
        · exact ih j hji hj
        · refine ⟨i, hi, fun j hj => ?_⟩
          cases h : l.getD j true with
          | true => rfl
          | false => exact absurd ⟨j, hj, h⟩ q
    obtain ⟨i, hi, hj⟩ := hmin
    have hil := hin i hi
    refine List.ne_nil_of_mem (a := i) (mem_ready.2 ⟨hi, ops[i], by simp [hil], fun e he hb => ?_⟩)
    have hdep : e.on ∈ depsOf ops[i] := List.mem_map.2 ⟨e, List.mem_filter.2 ⟨by simpa using he, hb⟩, rfl⟩
    have h1 := earlyB_get ops 0 i ops[i] hE (List.getElem?_eq_getElem hil) e.on hdep
    have h2 := hj e.on (by omega)
    have h3 : e.on < l.size := by omega
    simp [Array.getD, h3] at h2 ⊢
    exact h2
  have hready : ∀ i ∈ Region.ready .any ops.toArray l, ∃ o, ops[i]? = some o ∧ l.getD i true = false ∧ ∀ j ∈ depsOf o, l.getD j false = true := fun i hi => by
    obtain ⟨hu, o, ho, hdeps⟩ := mem_ready.1 hi
    refine ⟨o, by simpa using ho, hu, fun j hj => ?_⟩
    obtain ⟨e, he, q⟩ := List.mem_map.1 hj
    obtain ⟨he1, he2⟩ := List.mem_filter.1 he
    subst q
    exact hdeps e (by simpa using he1) he2
  have hset : ∀ i, l.getD i true = false → ∀ j, (l.setIfInBounds i true).getD j true = if i = j then true else l.getD j true := fun i hi j => by
    by_cases h : i = j
    · subst h; rw [if_pos rfl]; simp [Array.getD, hlen, hin i hi]
    · rw [if_neg h, getD_set_ne true h]
  rcases hj with ⟨hln, j1, j2, j3, j4, j5⟩ | ⟨t, ht1, ht2, ht3, ht4, hwp⟩
  · right
    refine ⟨hne ⟨n, hln⟩, ?_⟩
    intro i hi
    obtain ⟨o, ho', hu, hdeps'⟩ := hready i hi
    have hil := hin i hu
    rcases Nat.lt_trichotomy i n with hi' | hi' | hi'
    · have hx := eachOp_get (ops.take n) 0 i o hop (by rw [hget i hi']; exact ho') a w (fun k hk => by
        have := j3 k hk
        rw [Array.getD_eq_getD_getElem?, Array.getD_eq_getD_getElem?, this]) j4 (fun j hj => by
          have hjn : j < n := by
            have := earlyB_get ops 0 i o hE ho' j hj
            omega
          exact j5 j hjn (hto j (by omega) (hdeps' j hj)))
      rw [Nat.zero_add] at hx
      obtain ⟨hw, hx⟩ := hx
      unfold wpOp
      rw [show ops.toArray[i]? = some o by simpa using ho']
      show if Region.wanted o (yielded ops.toArray a.tmps) = true then _ else _
      rw [if_pos hw]
      refine .inl (hx _ (fun v w' hb hf => .inl ?_))
      have hd := hdst i o hi' ho'
      have hdl' := hlt i hi'
      rw [getD_set_ne true (show i ≠ n by omega)]
      refine ⟨hln, by rw [put_defers']; exact j1, by rw [put_size]; exact j2, fun k hk => ?_, ⟨j4.below.trans hb.below, fun a v h => hb.cell a v (j4.cell a v h)⟩, fun j hj hlj => ?_⟩
      · rw [hd]
        show (a.tmps.setIfInBounds _ v)[k]? = _
        rw [Array.getElem?_setIfInBounds_ne (hk i hi')]
        exact j3 k hk
      · by_cases hji : i = j
        · subst hji
          have : valOf ops (a.put o.dst v) i = v := by
            unfold valOf
            rw [hd]
            show (a.tmps.setIfInBounds (dstOf ops i) v).getD (dstOf ops i) undef = v
            have h1 : dstOf ops i < a.tmps.size := by rw [j2]; exact hdl'
            simp [Array.getD, h1]
          rw [this]; exact hf
        · have e : valOf ops (a.put o.dst v) j = valOf ops a j := by
            unfold valOf
            rw [hd]
            show (a.tmps.setIfInBounds (dstOf ops i) v).getD (dstOf ops j) undef = _
            have hne : dstOf ops i ≠ dstOf ops j := fun q => hji (hapart i j hi' hj q)
            rw [Array.getD_eq_getD_getElem?, Array.getD_eq_getD_getElem?, Array.getElem?_setIfInBounds_ne hne]
          rw [e]
          rw [getD_set_ne true hji] at hlj
          exact LastC.later _ (j5 j hj hlj) hb
    · subst hi'
      have hall : ∀ j, j < i → l.getD j true = true := fun j hj => hto j (by omega) (anc_listed hc hlen _ j i o ho' hdeps' (hanc i (Nat.le_refl _) hil j hj))
      have e := putOps_eq a (ops.take i) 0 (fun i => valOf ops a i) a0 j1.symm j2.symm (fun k hk => (j3 k (fun m hm q => by
        obtain ⟨om, em⟩ := hat m hm
        exact hk om (List.mem_of_getElem? (by rw [hget m hm]; exact em)) (by rw [hdst m om hm em, q]))).symm) (fun j o ho => by
        have hj : j < i := by
          have := (List.getElem?_eq_some_iff.1 ho).1
          omega
        rw [hget j hj] at ho
        refine ⟨_, hdst j o hj ho, ?_⟩
        have h1 : dstOf ops j < a.tmps.size := by rw [j2]; exact hlt j hj
        rw [Array.getElem?_eq_getElem h1, Nat.zero_add]
        unfold valOf
        simp [Array.getD, h1])
      have hx := hend (fun i => valOf ops a i) w j4 (fun j hj => j5 j hj (hall j hj))
      rw [e] at hx
      have hu' : ∀ m, i < m → m < ops.length → l.getD m true = false := fun m h1 h2 => by
        cases hm : l.getD m true with
        | false => rfl
        | true =>
          exfalso
          have hmo : ops[m]? = some ops[m] := List.getElem?_eq_getElem h2
          have := anc_listed hc hlen _ i m ops[m] hmo (fun k hk => by
            obtain ⟨x, hx, qe⟩ := List.mem_map.1 hk
            obtain ⟨hx1, hx2⟩ := List.mem_filter.1 hx
            have := hc m ops[m] (by simp [h2]) hm x (by simpa using hx1) hx2
            rw [qe] at this; exact this) (hanc m (by omega) h2 i h1)
          rw [hfr i hil hu] at this; cases this
      rw [List.drop_eq_getElem_cons hil] at hx
      have hoe : ops[i] = o := (List.getElem?_eq_some_iff.1 ho').2
      rw [hoe] at hx
      have key : wpOp P ops.toArray Q i (wpList P ops.toArray Q (ops.drop (i + 1))) a w := by
        unfold wpOp
        rw [show ops.toArray[i]? = some o by simpa using ho']
        exact hx
      refine wpOp_mono (fun a' w' hq => .inr ⟨i + 1, by omega, by omega, fun j hj => ?_, fun j h1 h2 => ?_, hq⟩) key
      · rw [hset i hu]
        split
        · rfl
        · exact hall j (by omega)
      · rw [hset i hu, if_neg (by omega)]
        exact hu' j (by omega) h2
    · exfalso
      have := anc_listed hc hlen _ n i o ho' hdeps' (hanc i (by omega) hil n hi')
      rw [hfr n hn hln] at this; cases this
  · by_cases hte : t = ops.length
    · left
      have hall : ∀ i, l.getD i true = true := fun i => by
        rcases Nat.lt_or_ge i ops.length with q | q
        · exact ht3 i (by omega)
        · simp [Array.getD, hlen, Nat.not_lt.mpr q]
      rw [rem_all hall]
      refine ⟨?_, ?_⟩
      · rw [List.eq_nil_iff_forall_not_mem]
        intro i hi
        have := (mem_ready.1 hi).1
        rw [hall i] at this; cases this
      · rw [hte, List.drop_length] at hwp
        exact hwp
    · right
      have htl' : t < ops.length := by omega
      refine ⟨hne ⟨t, ht4 t (Nat.le_refl _) htl'⟩, ?_⟩
      intro i hi
      obtain ⟨o, ho', hu, hdeps'⟩ := hready i hi
      have hil := hin i hu
      have hit : i = t := by
        rcases Nat.lt_trichotomy i t with q | q | q
        · rw [ht3 i q] at hu; cases hu
        · exact q
        · exfalso
          have := anc_listed hc hlen _ t i o ho' hdeps' (hanc i (by omega) hil t q)
          rw [hfr t htl' (ht4 t (Nat.le_refl _) htl')] at this; cases this
      subst hit
      rw [List.drop_eq_getElem_cons hil] at hwp
      have hoe : ops[i] = o := (List.getElem?_eq_some_iff.1 ho').2
      rw [hoe] at hwp
      have key : wpOp P ops.toArray Q i (wpList P ops.toArray Q (ops.drop (i + 1))) a w := by
        unfold wpOp
        rw [show ops.toArray[i]? = some o by simpa using ho']
        exact hwp
      refine wpOp_mono (fun a' w' hq => .inr ⟨i + 1, by omega, by omega, fun j hj => ?_, fun j h1 h2 => ?_, hq⟩) key
      · rw [hset i hu]
        split
        · rfl
        · exact ht3 j (by omega)
      · rw [hset i hu, if_neg (by omega)]
        exact ht4 j (by omega) h2
section
variable {B : Nat} {P : Program} {ops : List Oper} {Q : Exit → Act → World → Prop} {o : Oper} {a : Act} {w : World} {f : LastC B}
theorem doesC_val {v : Value} (hw : Region.wanted o (yielded ops.toArray a.tmps) = true) (h : (execOp a.eval o).run P w = .ok (.value v) w) (hf : f.holds v w) : DoesC B P ops Q o a w f := by
  refine ⟨hw, fun K hK => ?_⟩
  unfold Oper.wp
  rw [h, Oper.upon_value]
  exact hK v w (Keep.refl _ _) hf
theorem doesC_wp (hB : B ≤ w.heap.size) (hw : Region.wanted o (yielded ops.toArray a.tmps) = true) (h : ∀ K : Act → World → Prop, (∀ v w', f.holds v w' → Below w.heap.size w w' → K (a.put o.dst v) w') → o.wp P a w K Q) : DoesC B P ops Q o a w f :=
  ⟨hw, fun K hK => h K fun v w' hf hb => hK v w' (keep_below hb hB) hf⟩
theorem doesC_call (hB : B ≤ w.heap.size) {g : FuncId} {args : Array Value} (hw : Region.wanted o (yielded ops.toArray a.tmps) = true) (h : (execOp a.eval o).run P w = .ok (.enter g args) w) (hc : Calls P g args w fun e w' => ∃ v, e = .returned v ∧ f.holds v w' ∧ Below w.heap.size w w') : DoesC B P ops Q o a w f :=
  doesC_wp hB hw fun K hK => by
    unfold Oper.wp
    rw [h, Oper.upon_enter]
    refine hc.mono fun e w' hh => ?_
    obtain ⟨v, rfl, hf, hb⟩ := hh
    exact hK v w' hf hb
end
theorem Keep.rd {B : Nat} {w w' : World} {v : Value} {l : List Nat} (k : Keep B w w') (h : Rd w v l) : Rd w' v l := by
  refine ⟨h.byte, h.fits, ?_⟩
  rcases h.form with q | ⟨ad, cap, e, hc, hs⟩
  · exact .inl q
  · exact .inr ⟨ad, cap, e, hc, fun j hj => k.cell _ _ (hs j hj)⟩
theorem Keep.rds {B : Nat} {w w' : World} {v : Value} {ls : List (List Nat)} (k : Keep B w w') (h : Rds w v ls) : Rds w' v ls := by
  refine ⟨h.fits, ?_⟩
  rcases h.form with q | ⟨ad, cap, e, hc, hs⟩
  · exact .inl q
  · refine .inr ⟨ad, cap, e, hc, fun j l hj => ?_⟩
    obtain ⟨x, h1, h2⟩ := hs j l hj
    exact ⟨x, k.cell _ _ h1, k.rd h2⟩
def LastC.rd {B : Nat} (l : List Nat) : LastC B := ⟨fun v w => Rd w v l, fun h k => k.rd h⟩
def LastC.rds {B : Nat} (ls : List (List Nat)) : LastC B := ⟨fun v w => Rds w v ls, fun h k => k.rds h⟩
/-- A row of bytes of the region's own, which may be marked. -/
def Lit (B : Nat) (v : Value) (l : List Nat) (w : World) : Prop := ∃ b, v = .slice (some ⟨b, 0, none⟩) l.length l.length ∧ B ≤ b ∧ Rd w v l ∧ b < w.heap.size
def LastC.lit {B : Nat} (l : List Nat) : LastC B := ⟨fun v w => Lit B v l w, fun ⟨b, e, hb, h, hl⟩ k => ⟨b, e, hb, k.rd h, Nat.lt_of_lt_of_le hl k.below.size⟩⟩
theorem keep_freeze {B : Nat} (w : World) (b k : Nat) (hb : B ≤ b) : Keep B w (w.freeze ⟨b, k, none⟩ 1) := by
  have hs : (w.freeze ⟨b, k, none⟩ 1).heap.size = w.heap.size := by unfold World.freeze; rw [if_neg (by decide)]; simp
  have hg : ∀ j, (w.freeze ⟨b, k, none⟩ 1).heap[j]? = if b = j then (w.heap[j]?).map (fun | .cells c e (lo, hi) => .cells c e (if lo == hi then (k, k + 1) else (min lo k, max hi (k + 1))) | o => o) else w.heap[j]? := fun j => by
    unfold World.freeze
    rw [if_neg (by decide)]
    show (w.heap.modify b _)[j]? = _
    rw [Array.getElem?_modify]
    split
    · rfl
    · rfl
  refine ⟨⟨by unfold World.freeze; rw [if_neg (by decide)], by unfold World.freeze; rw [if_neg (by decide)], by unfold World.freeze; rw [if_neg (by decide)], Nat.le_of_eq hs.symm, fun j hj => by rw [hg j, if_neg (by omega)]⟩, fun a v hc => ?_⟩
  unfold World.cell? at hc ⊢
  rw [hg a.block]
  by_cases e : b = a.block
  · rw [if_pos e]
    cases q : w.heap[a.block]? with
    | none => rw [q] at hc; cases hc
    | some o =>
      rw [q] at hc
      cases o with
      | cells c t m => obtain ⟨lo, hi⟩ := m; simpa using hc
      | _ => cases hc
  · rw [if_neg e]; exact hc
/-- A constant's row is marked. -/
theorem doesC_mark {B : Nat} {ops : List Oper} {Q : Exit → Act → World → Prop} {o : Oper} {a : Act} {w : World} (hw : Region.wanted o (yielded ops.toArray a.tmps) = true) (x : Operand) (ho : o.op = .convert 33 33 x) (l : List Nat) (hx : Lit B (a.eval x) l w) : DoesC B Try.prog ops Q o a w (.rd l) := by
  obtain ⟨b, e, hb, hr, hlt⟩ := hx
  rw [e] at hr
  refine ⟨hw, fun K hK => ?_⟩
  have key : ∃ w', (convert 33 33 (.slice (some ⟨b, 0, none⟩) l.length l.length)).run Try.prog w = .ok (.slice (some ⟨b, 0, none⟩) l.length l.length) w' ∧ Keep B w w' := by
    cases hs : w.shape? b with
    | none => exact ⟨w, by simp [convert, run_underlying Try.underlying33, run_underlying Try.underlying5, markStringish, hs], Keep.refl _ _⟩
    | some p =>
      obtain ⟨t, n⟩ := p
      exact ⟨w.freeze ⟨b, n, none⟩ 1, by simp [convert, run_underlying Try.underlying33, run_underlying Try.underlying5, markStringish, hs], keep_freeze w b n hb⟩
  obtain ⟨w', hrun, hk⟩ := key
  unfold Oper.wp execOp
  simp only [ho, e, Sem.run_bind, hrun, Result.andThen_ok, Sem.run_pure, Oper.upon_value]
  exact hK _ _ hk (hk.rd hr)
end Go.Proofs.Ytkagapgganoomaa

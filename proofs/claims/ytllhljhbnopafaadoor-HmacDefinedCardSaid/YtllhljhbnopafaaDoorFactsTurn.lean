/- A region that draws its order in which one operation turns the world and all others leave what is known of it: a table of facts, and what holds of the world ahead of that operation and behind it. Own work. -/
import Derived.Test.YtllhljhbnopafaaDoorFacts
import Derived.Test.YtllhljhbnopafaaDoorRdCut
namespace Go.Proofs.YtllhljhbnopafaaDoor
open Go.RowKit
/-- What is known of an operation's value, where block g may turn: what reads as bytes stands elsewhere. -/
def Fact.apart (g : Nat) : Fact → Value → World → Prop
  | .val x, v, _ => v = x
  | .rd l, v, w => Rd w v l ∧ v.ownBlock ≠ some g
theorem Fact.turned {g : Nat} {f : Fact} {v : Value} {w w' : World} (h : f.apart g v w) (hb : w.grownBy w' (some g)) : f.apart g v w' := by
  cases f with
  | val x => exact h
  | rd l => exact ⟨h.1.grown hb (.inr h.2), h.2⟩
/-- What an operation of the region does: it makes the fact f, and the world goes from one that meets I to one that meets I', of the old blocks at the most g turning. -/
def Turns (P : Program) (ops : List Oper) (Q : Exit → Act → World → Prop) (g : Nat) (I' : World → Prop) (o : Oper) (a : Act) (w : World) (f : Fact) : Prop :=
  Region.wanted o (yielded ops.toArray a.tmps) = true ∧ ∀ K : Act → World → Prop, (∀ v w', w.grownBy w' (some g) → I' w' → f.apart g v w' → K (a.put o.dst v) w') → o.wp P a w K Q
theorem wp_region_turn {P : Program} {id : Nat} {ops : List Oper} {Q : Exit → Act → World → Prop} {a0 : Act} {w0 : World} (hm : P.follows .mixedOrders = true) (hB : factsB ops a0.tmps.size = true) (tbl : List Fact) (g m : Nat) (hmo : m < ops.length) (I : Bool → World → Prop) (hI0 : I false w0.drew)
    (hop : eachOp (fun i o => ∀ a w (b : Bool), (∀ k, (∀ i, i < ops.length → dstOf ops i ≠ k) → a.tmps.getD k undef = a0.tmps.getD k undef) → w0.grownBy w (some g) → I b w → (i = m → b = false) → (∀ j ∈ depsOf o, (tbl.getD j (.val undef)).apart g (valOf ops a j) w) → Turns P ops Q g (I (b || i == m)) o a w (tbl.getD i (.val undef))) 0 ops)
    (hend : ∀ (vs : Nat → Value) w, w0.grownBy w (some g) → I true w → (∀ i, i < ops.length → (tbl.getD i (.val undef)).apart g (vs i) w) → Q .normal (putOps ops 0 vs a0) w) : (Code.region id ops.toArray true).wp P Q a0 w0 := by
  simp only [factsB, Bool.and_eq_true, List.all_eq_true, decide_eq_true_eq] at hB
  obtain ⟨⟨⟨hearly, hsome⟩, hnd⟩, hrange⟩ := hB
  have hdst : ∀ (i : Nat) o, ops[i]? = some o → o.dst = some (dstOf ops i) := fun i o ho => by
    have hs := hsome o (List.mem_of_getElem? ho)
    obtain ⟨d, hd⟩ := Option.isSome_iff_exists.1 hs
    unfold dstOf; rw [ho]; simp [hd]
  have hlt : ∀ i, i < ops.length → dstOf ops i < a0.tmps.size := fun i hi => by simpa using hrange i (by simpa using hi)
  have hapart : ∀ i j, i < ops.length → j < ops.length → dstOf ops i = dstOf ops j → i = j := fun i j hi hj e => by
    have e1 := hdst i ops[i] (List.getElem?_eq_getElem hi)
    have e2 := hdst j ops[j] (List.getElem?_eq_getElem hj)
    have hi' : i < (ops.map (·.dst)).length := by simpa using hi
    have hj' : j < (ops.map (·.dst)).length := by simpa using hj
    have hp := List.pairwise_iff_getElem.1 hnd
    rcases Nat.lt_trichotomy i j with q | q | q
    · exact absurd (by simp [e1, e2, e]) (hp i j hi' hj' q)
    · exact q
    · exact absurd (by simp [e1, e2, e]) (hp j i hj' hi' q)
  refine wp_region_inv hm (fun l a w => a.defers = a0.defers ∧ a.tmps.size = a0.tmps.size ∧ (∀ k, (∀ i, i < ops.length → dstOf ops i ≠ k) → a.tmps[k]? = a0.tmps[k]?) ∧ w0.grownBy w (some g) ∧ I (l.getD m true) w ∧ ∀ i, i < ops.length → l.getD i true = true → (tbl.getD i (.val undef)).apart g (valOf ops a i) w)
    ⟨rfl, rfl, fun _ _ => rfl, grown_of_below (Below.refl _ _).drew _, by simpa [Array.getD, hmo] using hI0, fun i hi h => by simp [Array.getD, hi] at h⟩ ?_
  intro l a w hl hc ⟨j1, j2, j3, j4, jI, j5⟩
  have hlen : l.size = ops.length := by simpa using hl
  by_cases hall : ∀ i, l.getD i true = true
  · left
    rw [rem_all hall]
    refine ⟨?_, ?_⟩
    · rw [List.eq_nil_iff_forall_not_mem]
      intro i hi
      have := (mem_ready.1 hi).1
      rw [hall i] at this; cases this
    · have e := putOps_eq a ops 0 (fun i => valOf ops a i) a0 j1.symm j2.symm (fun k hk => (j3 k (fun i hi q => hk ops[i] (List.getElem_mem hi) (by rw [hdst i ops[i] (List.getElem?_eq_getElem hi), q]))).symm) (fun j o ho => by
        have hj : j < ops.length := (List.getElem?_eq_some_iff.1 ho).1
        refine ⟨_, hdst j o ho, ?_⟩
        have h1 : dstOf ops j < a.tmps.size := by rw [j2]; exact hlt j hj
        rw [Array.getElem?_eq_getElem h1, Nat.zero_add]
        unfold valOf
        simp [Array.getD, h1])
      rw [← e]
      rw [hall m] at jI
      exact hend _ w j4 jI (fun i hi => j5 i hi (hall i))
  · right
    have hex : ∃ i, l.getD i true = false := by
      rcases Classical.em (∃ i, l.getD i true = false) with q | q
      · exact q
      · exact absurd (fun i => by
          cases h : l.getD i true with
          | true => rfl
          | false => exact absurd ⟨i, h⟩ q) hall
    have hmin : ∃ i, l.getD i true = false ∧ ∀ j, j < i → l.getD j true = true := by
      obtain ⟨i, hi⟩ := hex
      induction i using Nat.strongRecOn with
      | _ i ih =>
        rcases Classical.em (∃ j, j < i ∧ l.getD j true = false) with ⟨j, hji, hj⟩ | q
        · exact ih j hji hj
        · refine ⟨i, hi, fun j hj => ?_⟩
          cases h : l.getD j true with
          | true => rfl
          | false => exact absurd ⟨j, hj, h⟩ q
    have hin : ∀ i, l.getD i true = false → i < ops.length := fun i h => by
      rcases Nat.lt_or_ge i l.size with q | q
      · omega
      · simp [Array.getD, Nat.not_lt.mpr q] at h
    refine ⟨?_, ?_⟩
    · obtain ⟨i, hi, hj⟩ := hmin
      have hil := hin i hi
      refine List.ne_nil_of_mem (a := i) (mem_ready.2 ⟨hi, ops[i], by simp [hil], fun e he hb => ?_⟩)
      have hdep : e.on ∈ depsOf ops[i] := List.mem_map.2 ⟨e, List.mem_filter.2 ⟨by simpa using he, hb⟩, rfl⟩
      have h1 := earlyB_get ops 0 i ops[i] hearly (List.getElem?_eq_getElem hil) e.on hdep
      have h2 := hj e.on (by omega)
      have h3 : e.on < l.size := by omega
      simp [Array.getD, h3] at h2 ⊢
      exact h2
    · intro i hi
      obtain ⟨hu, o, ho, hdeps⟩ := mem_ready.1 hi
      have ho' : ops[i]? = some o := by simpa using ho
      have hil : i < ops.length := (List.getElem?_eq_some_iff.1 ho').1
      have hx := eachOp_get ops 0 i o hop ho' a w (l.getD m true) (fun k hk => by
        have := j3 k hk
        rw [Array.getD_eq_getD_getElem?, Array.getD_eq_getD_getElem?, this]) j4 jI (fun q => by rw [Nat.zero_add] at q; subst q; exact hu) (fun j hj => by
          obtain ⟨e, he, q⟩ := List.mem_map.1 hj
          obtain ⟨he1, he2⟩ := List.mem_filter.1 he
          subst q
          have h1 := hdeps e (by simpa using he1) he2
          have h3 : e.on < l.size := by
            rcases Nat.lt_or_ge e.on l.size with z | z
            · exact z
            · simp [Array.getD, Nat.not_lt.mpr z] at h1
          exact j5 e.on (by omega) (by simp [Array.getD, h3] at h1 ⊢; exact h1))
      rw [Nat.zero_add] at hx
      obtain ⟨hw, hx⟩ := hx
      unfold wpOp
      rw [ho]
      show if Region.wanted o (yielded ops.toArray a.tmps) = true then _ else _
      rw [if_pos hw]
      refine .inl (hx _ (fun v w' hb hI hf => ?_))
      have hd := hdst i o ho'
      have hdl := hlt i hil
      refine ⟨by rw [put_defers']; exact j1, by rw [put_size]; exact j2, fun k hk => ?_, only_trans j4 hb, ?_, fun j hj hlj => ?_⟩
      · rw [hd]
        show (a.tmps.setIfInBounds _ v)[k]? = _
        rw [Array.getElem?_setIfInBounds_ne (hk i hil)]
        exact j3 k hk
      · by_cases him : i = m
        · subst him
          have e1 : (l.setIfInBounds i true).getD i true = true := by simp [Array.getD]
          rw [e1]
          simpa using hI
        · rw [getD_set_ne true him]
          have e1 : (i == m) = false := by simpa using him
          rw [e1, Bool.or_false] at hI
          exact hI
      · by_cases hji : i = j
        · subst hji
          have : valOf ops (a.put o.dst v) i = v := by
            unfold valOf
            rw [hd]
            show (a.tmps.setIfInBounds (dstOf ops i) v).getD (dstOf ops i) undef = v
            have h1 : dstOf ops i < a.tmps.size := by rw [j2]; exact hdl
            simp [Array.getD, h1]
          rw [this]; exact hf
        · have e : valOf ops (a.put o.dst v) j = valOf ops a j := by
            unfold valOf
            rw [hd]
            show (a.tmps.setIfInBounds (dstOf ops i) v).getD (dstOf ops j) undef = _
            have hne : dstOf ops i ≠ dstOf ops j := fun q => hji (hapart i j hil hj q)
            rw [Array.getD_eq_getD_getElem?, Array.getD_eq_getD_getElem?, Array.getElem?_setIfInBounds_ne hne]
          rw [e]
          rw [getD_set_ne true hji] at hlj
          exact Fact.turned (j5 j hj hlj) hb
/-- An operation that leaves the world as it is. -/
theorem turns_val {P : Program} {ops : List Oper} {Q : Exit → Act → World → Prop} {g : Nat} {I' : World → Prop} {o : Oper} {a : Act} {w : World} {f : Fact} {v : Value} (hw : Region.wanted o (yielded ops.toArray a.tmps) = true) (h : (execOp a.eval o).run P w = .ok (.value v) w) (hI : I' w) (hf : f.apart g v w) : Turns P ops Q g I' o a w f := by
  refine ⟨hw, fun K hK => ?_⟩
  unfold Oper.wp
  rw [h, Oper.upon_value]
  exact hK v w (World.grownBy.refl w _) hI hf
/-- An operation that calls what makes memory of its own. -/
theorem turns_call {P : Program} {ops : List Oper} {Q : Exit → Act → World → Prop} {g : Nat} {I' : World → Prop} {o : Oper} {a : Act} {w : World} {f : Fact} {fn : FuncId} {args : Array Value} (hw : Region.wanted o (yielded ops.toArray a.tmps) = true) (h : (execOp a.eval o).run P w = .ok (.enter fn args) w)
    (hc : Calls P fn args w fun e w' => ∃ v, e = .returned v ∧ f.apart g v w' ∧ Below w.heap.size w w' ∧ I' w') : Turns P ops Q g I' o a w f := by
  refine ⟨hw, fun K hK => ?_⟩
  unfold Oper.wp
  rw [h, Oper.upon_enter]
  refine hc.mono fun e w' hh => ?_
  obtain ⟨v, rfl, hf, hb, hI⟩ := hh
  exact hK v w' (grown_of_below hb _) hI hf
end Go.Proofs.YtllhljhbnopafaaDoor

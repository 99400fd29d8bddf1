/- A region that draws its order, with a last operation that waits for all others (a store of what a call told): facts for the others, one obligation for the last. Own work. -/
import Derived.Test.YtllhljhbnopafaaDoorFacts
namespace Go.Proofs.YtllhljhbnopafaaDoor
open Go.RowKit
def lastB (o : Oper) (n : Nat) : Bool := (List.range n).all (fun i => (depsOf o).contains i)
theorem wp_region_last {P : Program} {id : Nat} {ops : List Oper} {Q : Exit → Act → World → Prop} {a0 : Act} {w0 : World} (hm : P.follows .mixedOrders = true) (n : Nat) (last : Oper) (hn : ops.length = n + 1) (hlast : ops[n]? = some last)
    (hB : factsB (ops.take n) a0.tmps.size = true) (hL : lastB last n = true) (hE : earlyB 0 ops = true) (tbl : List Fact)
    (hop : eachOp (fun i o => ∀ a w, (∀ k, (∀ i, i < n → dstOf ops i ≠ k) → a.tmps.getD k undef = a0.tmps.getD k undef) → Below w0.heap.size w0 w → (∀ j ∈ depsOf o, (tbl.getD j (.val undef)).holds (valOf ops a j) w) → Does P ops Q o a w (tbl.getD i (.val undef))) 0 (ops.take n))
    (hend : ∀ (vs : Nat → Value) w, Below w0.heap.size w0 w → (∀ i, i < n → (tbl.getD i (.val undef)).holds (vs i) w) → Region.wanted last (yielded ops.toArray (putOps (ops.take n) 0 vs a0).tmps) = true ∧ last.wp P (putOps (ops.take n) 0 vs a0) w (fun a' w' => Q .normal a' w') Q) : (Code.region id ops.toArray true).wp P Q a0 w0 := by
  simp only [factsB, Bool.and_eq_true, List.all_eq_true, decide_eq_true_eq] at hB
  obtain ⟨⟨⟨_, hsome⟩, hnd⟩, hrange⟩ := hB
  have htl : (ops.take n).length = n := by rw [List.length_take]; omega
  rw [htl] at hrange
  have hget : ∀ i, i < n → (ops.take n)[i]? = ops[i]? := fun i hi => by rw [List.getElem?_take, if_pos hi]
  have hdstE : ∀ i, i < n → dstOf (ops.take n) i = dstOf ops i := fun i hi => by unfold dstOf; rw [hget i hi]
  have hdst : ∀ (i : Nat) o, i < n → ops[i]? = some o → o.dst = some (dstOf ops i) := fun i o hi ho => by
    have hs := hsome o (List.mem_of_getElem? (by rw [hget i hi]; exact ho))
    obtain ⟨d, hd⟩ := Option.isSome_iff_exists.1 hs
    unfold dstOf; rw [ho]; simp [hd]
  have hlt : ∀ i, i < n → dstOf ops i < a0.tmps.size := fun i hi => by
    rw [← hdstE i hi]; simpa using hrange i (by simpa using hi)
  have hat : ∀ i, i < n → ∃ o, ops[i]? = some o := fun i hi => ⟨ops[i], List.getElem?_eq_getElem (by omega)⟩
  have hapart : ∀ i j, i < n → j < n → dstOf ops i = dstOf ops j → i = j := fun i j hi hj e => by
    obtain ⟨oi, ei⟩ := hat i hi
    obtain ⟨oj, ej⟩ := hat j hj
    have e1 := hdst i oi hi ei
    have e2 := hdst j oj hj ej
    have hp := List.pairwise_iff_getElem.1 hnd
    have hi' : i < ((ops.take n).map (·.dst)).length := by simp; omega
    have hj' : j < ((ops.take n).map (·.dst)).length := by simp; omega
    have q1 : ops[i]'(by omega) = oi := (List.getElem?_eq_some_iff.1 ei).2
    have q2 : ops[j]'(by omega) = oj := (List.getElem?_eq_some_iff.1 ej).2
    rcases Nat.lt_trichotomy i j with q | q | q
    · exact absurd (by simp [q1, q2, e1, e2, e]) (hp i j hi' hj' q)
    · exact q
    · exact absurd (by simp [q1, q2, e1, e2, e]) (hp j i hj' hi' q)
  have hdl : ∀ i, i < n → i ∈ depsOf last := fun i hi => by
    unfold lastB at hL
    rw [List.all_eq_true] at hL
    simpa using hL i (by simpa using hi)
  refine wp_region_inv hm (fun l a w => (l.getD n true = true → Q .normal a w) ∧ (l.getD n true = false → a.defers = a0.defers ∧ a.tmps.size = a0.tmps.size ∧ (∀ k, (∀ i, i < n → dstOf ops i ≠ k) → a.tmps[k]? = a0.tmps[k]?) ∧ Below w0.heap.size w0 w ∧ ∀ i, i < n → l.getD i true = true → (tbl.getD i (.val undef)).holds (valOf ops a i) w))
    ⟨fun h => by simp [Array.getD, hn] at h, fun _ => ⟨rfl, rfl, fun _ _ => rfl, (Below.refl _ _).drew, fun i hi h => by simp [Array.getD, hn, Nat.lt_succ_of_lt hi] at h⟩⟩ ?_
  intro l a w hl hc ⟨jq, jr⟩
  have hlen : l.size = n + 1 := by simpa [hn] using hl
  have hto : ∀ i, i < n + 1 → l.getD i false = true → l.getD i true = true := fun i hi h => by
    simp [Array.getD, hlen, hi] at h ⊢; exact h
  cases hln : l.getD n true with
  | true =>
    left
    have hall : ∀ i, l.getD i true = true := fun i => by
      rcases Nat.lt_trichotomy i n with q | q | q
      · have hd := hdl i q
        obtain ⟨e, he, qe⟩ := List.mem_map.1 hd
        obtain ⟨he1, he2⟩ := List.mem_filter.1 he
        have := hc n last (by simpa using hlast) hln e (by simpa using he1) he2
        rw [qe] at this
        exact hto i (by omega) this
      · rw [q]; exact hln
      · simp [Array.getD, hlen, Nat.not_lt.mpr (show n + 1 ≤ i by omega)]
    rw [rem_all hall]
    refine ⟨?_, jq hln⟩
    rw [List.eq_nil_iff_forall_not_mem]
    intro i hi
    have := (mem_ready.1 hi).1
    rw [hall i] at this; cases this
  | false =>
    right
    obtain ⟨j1, j2, j3, j4, j5⟩ := jr hln
    have hin : ∀ i, l.getD i true = false → i < n + 1 := fun i h => by
      rcases Nat.lt_or_ge i l.size with q | q
      · omega
      · simp [Array.getD, Nat.not_lt.mpr q] at h
    have hmin : ∃ i, l.getD i true = false ∧ ∀ j, j < i → l.getD j true = true := by
      have hex : ∃ i, l.getD i true = false := ⟨n, hln⟩
      obtain ⟨i, hi⟩ := hex
      induction i using Nat.strongRecOn with
      | _ i ih =>
        rcases Classical.em (∃ j, j < i ∧ l.getD j true = false) with ⟨j, hji, hj⟩ | q
        · exact ih j hji hj
        · refine ⟨i, hi, fun j hj => ?_⟩
          cases h : l.getD j true with
          | true => rfl
          | false => exact absurd ⟨j, hj, h⟩ q
    refine ⟨?_, ?_⟩
    · obtain ⟨i, hi, hj⟩ := hmin
      have hil : i < ops.length := by have := hin i hi; omega
      refine List.ne_nil_of_mem (a := i) (mem_ready.2 ⟨hi, ops[i], by simp [hil], fun e he hb => ?_⟩)
      have hdep : e.on ∈ depsOf ops[i] := List.mem_map.2 ⟨e, List.mem_filter.2 ⟨by simpa using he, hb⟩, rfl⟩
      have h1 := earlyB_get ops 0 i ops[i] hE (List.getElem?_eq_getElem hil) e.on hdep
      have h2 := hj e.on (by omega)
      have h3 : e.on < l.size := by omega
      simp [Array.getD, h3] at h2 ⊢
      exact h2
    · intro i hi
      obtain ⟨hu, o, ho, hdeps⟩ := mem_ready.1 hi
      have ho' : ops[i]? = some o := by simpa using ho
      have hil := hin i hu
      have hdeps' : ∀ j ∈ depsOf o, l.getD j false = true := fun j hj => by
        obtain ⟨e, he, q⟩ := List.mem_map.1 hj
        obtain ⟨he1, he2⟩ := List.mem_filter.1 he
        subst q
        exact hdeps e (by simpa using he1) he2
      by_cases hin' : i = n
      · subst hin'
        rw [hlast] at ho'
        cases ho'
        have hall : ∀ j, j < i → l.getD j true = true := fun j hj => hto j (by omega) (hdeps' j (hdl j hj))
        have e := putOps_eq a (ops.take i) 0 (fun i => valOf ops a i) a0 j1.symm j2.symm (fun k hk => (j3 k (fun m hm q => by
          obtain ⟨om, em⟩ := hat m hm
          exact hk om (List.mem_of_getElem? (by rw [hget m hm]; exact em)) (by rw [hdst m om hm em, q]))).symm) (fun j o ho => by
          have hj : j < i := by
            have := (List.getElem?_eq_some_iff.1 ho).1
            omega
          rw [hget j hj] at ho
          refine ⟨_, hdst j o hj ho, ?_⟩
          have h1 : dstOf ops j < a.tmps.size := by rw [j2]; exact hlt j hj
          rw [Array.getElem?_eq_getElem h1, Nat.zero_add]
          unfold valOf
          simp [Array.getD, h1])
        obtain ⟨hw, hx⟩ := hend (fun i => valOf ops a i) w j4 (fun j hj => j5 j hj (hall j hj))
        rw [e] at hw hx
        unfold wpOp
        rw [ho]
        show if Region.wanted last (yielded ops.toArray a.tmps) = true then _ else _
        rw [if_pos hw]
        refine .inl (Oper.wp_mono (fun a' w' hq => ⟨fun _ => hq, fun h => ?_⟩) hx)
        simp [Array.getD, hlen] at h
      · have hi' : i < n := by omega
        have hx := eachOp_get (ops.take n) 0 i o hop (by rw [hget i hi']; exact ho') a w (fun k hk => by
          have := j3 k hk
          rw [Array.getD_eq_getD_getElem?, Array.getD_eq_getD_getElem?, this]) j4 (fun j hj => by
            have hjn : j < n := by
              have := earlyB_get ops 0 i o hE ho' j hj
              omega
            exact j5 j hjn (hto j (by omega) (hdeps' j hj)))
        rw [Nat.zero_add] at hx
        obtain ⟨hw, hx⟩ := hx
        unfold wpOp
        rw [ho]
        show if Region.wanted o (yielded ops.toArray a.tmps) = true then _ else _
        rw [if_pos hw]
        refine .inl (hx _ (fun v w' hb hf => ?_))
        have hd := hdst i o hi' ho'
        have hdl' := hlt i hi'
        rw [getD_set_ne true (show i ≠ n by omega), hln]
        refine ⟨fun h => (by cases h), fun _ => ⟨by rw [put_defers']; exact j1, by rw [put_size]; exact j2, fun k hk => ?_, j4.trans (hb.mono j4.size), fun j hj hlj => ?_⟩⟩
        · rw [hd]
          show (a.tmps.setIfInBounds _ v)[k]? = _
          rw [Array.getElem?_setIfInBounds_ne (hk i hi')]
          exact j3 k hk
        · by_cases hji : i = j
          · subst hji
            have : valOf ops (a.put o.dst v) i = v := by
              unfold valOf
              rw [hd]
              show (a.tmps.setIfInBounds (dstOf ops i) v).getD (dstOf ops i) undef = v
              have h1 : dstOf ops i < a.tmps.size := by rw [j2]; exact hdl'
              simp [Array.getD, h1]
            rw [this]; exact hf
          · have e : valOf ops (a.put o.dst v) j = valOf ops a j := by
              unfold valOf
              rw [hd]
              show (a.tmps.setIfInBounds (dstOf ops i) v).getD (dstOf ops j) undef = _
              have hne : dstOf ops i ≠ dstOf ops j := fun q => hji (hapart i j hi' hj q)
              rw [Array.getD_eq_getD_getElem?, Array.getD_eq_getD_getElem?, Array.getElem?_setIfInBounds_ne hne]
            rw [e]
            rw [getD_set_ne true hji] at hlj
            exact Fact.later (j5 j hj hlj) hb
end Go.Proofs.YtllhljhbnopafaaDoor

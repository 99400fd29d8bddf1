/- As FactsZ, and a slot that the region writes still holds what it held, until the operation that writes it is done (x = f(x)). Own work. -/
import Derived.Test.YtoacdeddkfcllaaDoorZed
namespace Go.Proofs.YtoacdeddkfcllaaDoor
open Go.RowKit
theorem any_w {P : Program} {ops : List Oper} {Q : Exit → Act → World → Prop} {a0 : Act} {w0 : World} (S : List Nat) (hE : earlyB 0 ops = true) (hB : factsZ ops S a0.tmps.size = true)
    (I : Told → World → Prop) (tbl : List Fz) (hT : ∀ i ∈ S, dstQ ops i = none → tbl.getD i .any = .any) (hI0 : I (fun _ => none) w0.drew)
    (hop : eachOp (fun i o => ∀ a w r, (∀ k, (∀ j, j < ops.length → dstQ ops j = some k → j = i ∨ ancB ops ops.length i j = true) → a.tmps.getD k undef = a0.tmps.getD k undef) → I r w → (∀ j, j ∉ S → r j = none) → r i = none → (∀ j ∈ S, ancB ops ops.length i j = true → r j = none) → (∀ j ∈ S, ancB ops ops.length j i = true → ∃ u, r j = some u) → (∀ j ∈ depsOf o, (tbl.getD j .any).holds r (valOf ops a j)) →
      DoesK P ops Q o a w (fun v w' => I (if i ∈ S then r.set i v else r) w' ∧ (tbl.getD i .any).holds (if i ∈ S then r.set i v else r) v)) 0 ops)
    (hend : ∀ (vs : Nat → Value) r w, I r w → (∀ j ∈ S, ∃ u, r j = some u) → (∀ i, i < ops.length → (tbl.getD i .any).holds r (vs i)) → Q .normal (putOps ops 0 vs a0) w) : RegAny P ops.toArray Q a0 w0 := by
  simp only [factsZ, Bool.and_eq_true, List.all_eq_true, List.mem_range] at hB
  obtain ⟨⟨hB1, hB2⟩, hB3⟩ := hB
  have hq : ∀ (i : Nat) o, ops[i]? = some o → dstQ ops i = o.dst := fun i o ho => by unfold dstQ; rw [ho]; rfl
  have hdst : ∀ (i : Nat) o d, ops[i]? = some o → o.dst = some d → dstOf ops i = d ∧ d < a0.tmps.size := fun i o d ho hd => by
    have h := hB1 i (List.getElem?_eq_some_iff.1 ho).1
    rw [hq i o ho, hd] at h
    simp only [decide_eq_true_eq] at h
    exact ⟨by unfold dstOf; rw [ho]; simp [hd], h⟩
  have hnone : ∀ (i : Nat) o, ops[i]? = some o → o.dst = none → i ∈ S := fun i o ho hd => by
    have h := hB1 i (List.getElem?_eq_some_iff.1 ho).1
    rw [hq i o ho, hd] at h
    simpa using h
  have hS : ∀ j ∈ S, j < ops.length := fun j hj => by simpa using hB3 j hj
  have hapart : ∀ i j d, i < ops.length → j < ops.length → dstQ ops i = some d → dstQ ops j = some d → i = j := fun i j d hi hj e1 e2 => by
    have h := hB2 i hi j hj
    simp only [Bool.or_eq_true, decide_eq_true_eq] at h
    rcases h with (h | h) | h
    · exact h
    · rw [e1] at h; cases h
    · exact absurd (e1.trans e2.symm) h
  refine any_inv (fun l a w => a.defers = a0.defers ∧ a.tmps.size = a0.tmps.size ∧ (∀ k, (∀ i, i < ops.length → dstQ ops i = some k → l.getD i true = false) → a.tmps[k]? = a0.tmps[k]?) ∧ ∃ r : Told, (∀ j, j ∉ S → r j = none) ∧ (∀ j ∈ S, l.getD j true = false → r j = none) ∧ (∀ j ∈ S, l.getD j true = true → ∃ u, r j = some u) ∧ I r w ∧ ∀ i, i < ops.length → l.getD i true = true → (tbl.getD i .any).holds r (valOf ops a i))
    ⟨rfl, rfl, fun _ _ => rfl, fun _ => none, fun _ _ => rfl, fun _ _ _ => rfl, fun j hj h => by simp [Array.getD, hS j hj] at h, hI0, fun i hi h => by simp [Array.getD, hi] at h⟩ ?_
  intro l a w hl hc ⟨j1, j2, j3, r, j4, j5, j6, jI, j7⟩
  have hlen : l.size = ops.length := by simpa using hl
  by_cases hall : ∀ i, l.getD i true = true
  · left
    rw [rem_all hall]
    refine ⟨?_, ?_⟩
    · rw [List.eq_nil_iff_forall_not_mem]
      intro i hi
      have := (mem_ready.1 hi).1
      rw [hall i] at this; cases this
    · have e := putOps_eqS a ops 0 (fun i => valOf ops a i) a0 j1.symm j2.symm (fun k hk => (j3 k (fun i hi q => absurd (by rw [← hq i ops[i] (List.getElem?_eq_getElem hi)]; exact q) (hk ops[i] (List.getElem_mem hi)))).symm) (fun j o d ho hd => by
        obtain ⟨h1, h2⟩ := hdst j o d ho hd
        have h3 : d < a.tmps.size := by rw [j2]; exact h2
        rw [Array.getElem?_eq_getElem h3, Nat.zero_add]
        unfold valOf
        rw [h1]
        simp [Array.getD, h3])
      rw [← e]
      exact hend _ r w jI (fun j hj => j6 j hj (hall j)) (fun i hi => j7 i hi (hall i))
  · right
    have hex : ∃ i, l.getD i true = false := by
      rcases Classical.em (∃ i, l.getD i true = false) with q | q
      · exact q
      · exact absurd (fun i => by
          cases h : l.getD i true with
          | true => rfl
          | false => exact absurd ⟨i, h⟩ q) hall
    have hmin : ∃ i, l.getD i true = false ∧ ∀ j, j < i → l.getD j true = true := by
      obtain ⟨i, hi⟩ := hex
      induction i using Nat.strongRecOn with
      | _ i ih =>
        rcases Classical.em (∃ j, j < i ∧ l.getD j true = false) with ⟨j, hji, hj⟩ | q
        · exact ih j hji hj
        · refine ⟨i, hi, fun j hj => ?_⟩
          cases h : l.getD j true with
          | true => rfl
          | false => exact absurd ⟨j, hj, h⟩ q
    have hin : ∀ i, l.getD i true = false → i < ops.length := fun i h => by
      rcases Nat.lt_or_ge i l.size with q | q
      · omega
      · simp [Array.getD, Nat.not_lt.mpr q] at h
    refine ⟨?_, ?_⟩
    · obtain ⟨i, hi, hj⟩ := hmin
      have hil := hin i hi
      refine List.ne_nil_of_mem (a := i) (mem_ready.2 ⟨hi, ops[i], by simp [hil], fun e he hb => ?_⟩)
      have hdep : e.on ∈ depsOf ops[i] := List.mem_map.2 ⟨e, List.mem_filter.2 ⟨by simpa using he, hb⟩, rfl⟩
      have h1 := earlyB_get ops 0 i ops[i] hE (List.getElem?_eq_getElem hil) e.on hdep
      have h2 := hj e.on (by omega)
      have h3 : e.on < l.size := by omega
      simp [Array.getD, h3] at h2 ⊢
      exact h2
    · intro i hi
      obtain ⟨hu, o, ho, hdeps⟩ := mem_ready.1 hi
      have ho' : ops[i]? = some o := by simpa using ho
      have hil : i < ops.length := (List.getElem?_eq_some_iff.1 ho').1
      have hin2 : ∀ j, j < ops.length → l.getD j false = l.getD j true := fun j hj => by simp [Array.getD, hlen, hj]
      have hri : r i = none := by
        by_cases hiS : i ∈ S
        · exact j5 i hiS hu
        · exact j4 i hiS
      have hfree : ∀ j, j < ops.length → ancB ops ops.length i j = true → l.getD j true = false := fun j hjl ha => by
        cases hlj : l.getD j true with
        | false => rfl
        | true =>
          have h1 := anc_listed hc hlen _ i j ops[j] (List.getElem?_eq_getElem hjl) (fun k hk => by
            obtain ⟨x, hx, qe⟩ := List.mem_map.1 hk
            obtain ⟨hx1, hx2⟩ := List.mem_filter.1 hx
            have := hc j ops[j] (by simp [hjl]) hlj x (by simpa using hx1) hx2
            rw [qe] at this; exact this) ha
          rw [hin2 i hil, hu] at h1; cases h1
      have hx := eachOp_get ops 0 i o hop ho' a w r (fun k hk => by
        have := j3 k (fun j hj hd => by
          rcases hk j hj hd with q | q
          · rw [Nat.zero_add] at q
            subst q; exact hu
          · rw [Nat.zero_add] at q
            exact hfree j hj q)
        rw [Array.getD_eq_getD_getElem?, Array.getD_eq_getD_getElem?, this]) jI j4 (by rw [Nat.zero_add]; exact hri) (fun j hj ha => by
          rw [Nat.zero_add] at ha
          cases hlj : l.getD j true with
          | false => exact j5 j hj hlj
          | true =>
            have hjl := hS j hj
            have h1 := anc_listed hc hlen _ i j ops[j] (List.getElem?_eq_getElem hjl) (fun k hk => by
              obtain ⟨x, hx, qe⟩ := List.mem_map.1 hk
              obtain ⟨hx1, hx2⟩ := List.mem_filter.1 hx
              have := hc j ops[j] (by simp [hjl]) hlj x (by simpa using hx1) hx2
              rw [qe] at this; exact this) ha
            rw [hin2 i hil, hu] at h1; cases h1) (fun j hj ha => by
          rw [Nat.zero_add] at ha
          refine j6 j hj ?_
          have h1 := anc_listed hc hlen _ j i o ho' (fun k hk => by
            obtain ⟨x, hx, qe⟩ := List.mem_map.1 hk
            obtain ⟨hx1, hx2⟩ := List.mem_filter.1 hx
            rw [← qe]; exact hdeps x (by simpa using hx1) hx2) ha
          rw [hin2 j (hS j hj)] at h1; exact h1) (fun j hj => by
          obtain ⟨e, he, q⟩ := List.mem_map.1 hj
          obtain ⟨he1, he2⟩ := List.mem_filter.1 he
          subst q
          have h1 := hdeps e (by simpa using he1) he2
          have h3 : e.on < l.size := by
            rcases Nat.lt_or_ge e.on l.size with z | z
            · exact z
            · simp [Array.getD, Nat.not_lt.mpr z] at h1
          exact j7 e.on (by omega) (by simp [Array.getD, h3] at h1 ⊢; exact h1))
      rw [Nat.zero_add] at hx
      obtain ⟨hw, hx⟩ := hx
      unfold wpOp
      rw [ho]
      show if Region.wanted o (yielded ops.toArray a.tmps) = true then _ else _
      rw [if_pos hw]
      refine .inl (hx _ (fun v w' ⟨hI, hf⟩ => ?_))
      obtain ⟨r', hr'⟩ : ∃ r', r' = (if i ∈ S then r.set i v else r) := ⟨_, rfl⟩
      rw [← hr'] at hI hf
      have hro : ∀ j, j ≠ i → r' j = r j := fun j hj => by
        rw [hr']; split
        · exact Told.set_ne hj
        · rfl
      refine ⟨by rw [put_defers']; exact j1, by rw [put_size]; exact j2, fun k hk => ?_, r', fun j hj => ?_, fun j hj hlj => ?_, fun j hj hlj => ?_, hI, fun j hj hlj => ?_⟩
      · have hlast : ∀ j, j < ops.length → dstQ ops j = some k → l.getD j true = false := fun j hj hd => by
          have h := hk j hj hd
          by_cases hji : i = j
          · subst hji
            simp [Array.getD] at h
          · rw [getD_set_ne true hji] at h; exact h
        cases hd : o.dst with
        | none => exact j3 k hlast
        | some d =>
          show (a.tmps.setIfInBounds d v)[k]? = _
          rw [Array.getElem?_setIfInBounds_ne (fun e => by
            have h := hk i hil (by rw [hq i o ho', hd, e])
            simp [Array.getD] at h)]
          exact j3 k hlast
      · by_cases hji : j = i
        · subst hji; rw [hr', if_neg hj]; exact hri
        · rw [hro j hji]; exact j4 j hj
      · by_cases hji : i = j
        · subst hji
          simp [Array.getD] at hlj
        · rw [hro j (fun e => hji e.symm)]
          rw [getD_set_ne true hji] at hlj
          exact j5 j hj hlj
      · by_cases hji : i = j
        · subst hji
          rw [hr', if_pos hj]
          exact ⟨v, Told.set_same _ _ _⟩
        · rw [hro j (fun e => hji e.symm)]
          rw [getD_set_ne true hji] at hlj
          exact j6 j hj hlj
      · by_cases hji : i = j
        · subst hji
          cases hd : o.dst with
          | none =>
            rw [hT i (hnone i o ho' hd) (by rw [hq i o ho', hd])]
            trivial
          | some d =>
            obtain ⟨h1, h2⟩ := hdst i o d ho' hd
            have : valOf ops (a.put (some d) v) i = v := by
              unfold valOf
              rw [h1]
              show (a.tmps.setIfInBounds d v).getD d undef = v
              have h3 : d < a.tmps.size := by rw [j2]; exact h2
              simp [Array.getD, h3]
            rw [this]; exact hf
        · rw [getD_set_ne true hji] at hlj
          have h5 := j7 j hj hlj
          have h6 : (tbl.getD j .any).holds r' (valOf ops a j) := by
            rw [hr']; split
            · exact Fz.last hri h5
            · exact h5
          cases hd : o.dst with
          | none => exact h6
          | some d =>
            have hoj : ops[j]? = some ops[j] := List.getElem?_eq_getElem hj
            cases hdj : (ops[j]).dst with
            | none =>
              rw [hT j (hnone j _ hoj hdj) (by rw [hq j _ hoj, hdj])]
              trivial
            | some d' =>
              obtain ⟨h1, _⟩ := hdst j _ d' hoj hdj
              have hne : d ≠ d' := fun q => hji (hapart i j d hil hj (by rw [hq i o ho']; exact hd) (by rw [hq j _ hoj, hdj, q]))
              have e : valOf ops (a.put (some d) v) j = valOf ops a j := by
                unfold valOf
                rw [h1]
                show (a.tmps.setIfInBounds d v).getD d' undef = _
                rw [Array.getD_eq_getD_getElem?, Array.getD_eq_getD_getElem?, Array.getElem?_setIfInBounds_ne hne]
              rw [e]; exact h6
theorem wp_region_w {P : Program} {id : Nat} {ops : List Oper} {Q : Exit → Act → World → Prop} {a0 : Act} {w0 : World} (hm : P.follows .mixedOrders = true) (S : List Nat) (hE : earlyB 0 ops = true) (hB : factsZ ops S a0.tmps.size = true)
    (I : Told → World → Prop) (tbl : List Fz) (hT : ∀ i ∈ S, dstQ ops i = none → tbl.getD i .any = .any) (hI0 : I (fun _ => none) w0.drew)
    (hop : eachOp (fun i o => ∀ a w r, (∀ k, (∀ j, j < ops.length → dstQ ops j = some k → j = i ∨ ancB ops ops.length i j = true) → a.tmps.getD k undef = a0.tmps.getD k undef) → I r w → (∀ j, j ∉ S → r j = none) → r i = none → (∀ j ∈ S, ancB ops ops.length i j = true → r j = none) → (∀ j ∈ S, ancB ops ops.length j i = true → ∃ u, r j = some u) → (∀ j ∈ depsOf o, (tbl.getD j .any).holds r (valOf ops a j)) →
      DoesK P ops Q o a w (fun v w' => I (if i ∈ S then r.set i v else r) w' ∧ (tbl.getD i .any).holds (if i ∈ S then r.set i v else r) v)) 0 ops)
    (hend : ∀ (vs : Nat → Value) r w, I r w → (∀ j ∈ S, ∃ u, r j = some u) → (∀ i, i < ops.length → (tbl.getD i .any).holds r (vs i)) → Q .normal (putOps ops 0 vs a0) w) : (Code.region id ops.toArray true).wp P Q a0 w0 :=
  wp_region_any hm (any_w S hE hB I tbl hT hI0 hop hend)
end Go.Proofs.YtoacdeddkfcllaaDoor

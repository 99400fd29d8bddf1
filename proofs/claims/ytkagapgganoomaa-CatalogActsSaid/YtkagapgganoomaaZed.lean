/- Texts of one subject in one file: FactsZ, Stages. Own work. -/
import Derived.Test.YtkagapgganoomaaFactX
/- A region that draws its order in which some operations (calls, appends, stores, blocks that are made) may turn the world at will, each as the law's user says of what was done ahead of it; all others read, and what is known of their values hangs on no world, but may hang on what one of those told. Own work. -/
namespace Go.Proofs.Ytkagapgganoomaa
open Go.RowKit
/-- What is known of an operation's value: what it is; how it hangs on what the operation j told; nothing. -/
inductive Fz where
  | pre (x : Value)
  | of (j : Nat) (f : Value → Value → Prop)
  | any
/-- What the operations that may turn the world told, those that are done. -/
abbrev Told := Nat → Option Value
def Told.set (r : Told) (i : Nat) (v : Value) : Told := fun j => if j = i then some v else r j
theorem Told.set_same (r : Told) (i : Nat) (v : Value) : r.set i v i = some v := if_pos rfl
theorem Told.set_ne {r : Told} {i j : Nat} {v : Value} (h : j ≠ i) : r.set i v j = r j := if_neg h
def Fz.holds : Fz → Told → Value → Prop
  | .pre x, _, v => v = x
  | .of j f, r, v => ∃ u, r j = some u ∧ f u v
  | .any, _, _ => True
theorem Fz.last {f : Fz} {r : Told} {i : Nat} {u v : Value} (hi : r i = none) (h : f.holds r v) : f.holds (r.set i u) v := by
  cases f with
  | pre x => exact h
  | of j g =>
    obtain ⟨z, e, hg⟩ := h
    refine ⟨z, ?_, hg⟩
    rw [Told.set_ne (fun q => by rw [q, hi] at e; cases e)]; exact e
  | any => trivial
def factsZ (ops : List Oper) (S : List Nat) (n : Nat) : Bool := (List.range ops.length).all (fun i => match dstQ ops i with | none => S.contains i | some d => decide (d < n)) && (List.range ops.length).all (fun i => (List.range ops.length).all fun j => decide (i = j) || decide (dstQ ops i = none) || decide (dstQ ops i ≠ dstQ ops j)) && S.all (· < ops.length)
theorem any_z {P : Program} {ops : List Oper} {Q : Exit → Act → World → Prop} {a0 : Act} {w0 : World} (S : List Nat) (hE : earlyB 0 ops = true) (hB : factsZ ops S a0.tmps.size = true)
    (I : Told → World → Prop) (tbl : List Fz) (hT : ∀ i ∈ S, dstQ ops i = none → tbl.getD i .any = .any) (hI0 : I (fun _ => none) w0.drew)
    (hop : eachOp (fun i o => ∀ a w r, (∀ k, (∀ i, i < ops.length → dstQ ops i ≠ some k) → a.tmps.getD k undef = a0.tmps.getD k undef) → I r w → (∀ j, j ∉ S → r j = none) → r i = none → (∀ j ∈ S, ancB ops ops.length i j = true → r j = none) → (∀ j ∈ S, ancB ops ops.length j i = true → ∃ u, r j = some u) → (∀ j ∈ depsOf o, (tbl.getD j .any).holds r (valOf ops a j)) →
      DoesK P ops Q o a w (fun v w' => I (if i ∈ S then r.set i v else r) w' ∧ (tbl.getD i .any).holds (if i ∈ S then r.set i v else r) v)) 0 ops)
    (hend : ∀ (vs : Nat → Value) r w, I r w → (∀ j ∈ S, ∃ u, r j = some u) → (∀ i, i < ops.length → (tbl.getD i .any).holds r (vs i)) → Q .normal (putOps ops 0 vs a0) w) : RegAny P ops.toArray Q a0 w0 := by
  simp only [factsZ, Bool.and_eq_true, List.all_eq_true, List.mem_range] at hB
  obtain ⟨⟨hB1, hB2⟩, hB3⟩ := hB
  have hq : ∀ (i : Nat) o, ops[i]? = some o → dstQ ops i = o.dst := fun i o ho => by unfold dstQ; rw [ho]; rfl
  have hdst : ∀ (i : Nat) o d, ops[i]? = some o → o.dst = some d → dstOf ops i = d ∧ d < a0.tmps.size := fun i o d ho hd => by
    have h := hB1 i (List.getElem?_eq_some_iff.1 ho).1
    rw [hq i o ho, hd] at h
    simp only [decide_eq_true_eq] at h
    exact ⟨by unfold dstOf; rw [ho]; simp [hd], h⟩
  have hnone : ∀ (i : Nat) o, ops[i]? = some o → o.dst = none → i ∈ S := fun i o ho hd => by
    have h := hB1 i (List.getElem?_eq_some_iff.1 ho).1
    rw [hq i o ho, hd] at h
    simpa using h
  have hS : ∀ j ∈ S, j < ops.length := fun j hj => by simpa using hB3 j hj
  have hapart : ∀ i j d, i < ops.length → j < ops.length → dstQ ops i = some d → dstQ ops j = some d → i = j := fun i j d hi hj e1 e2 => by
    have h := hB2 i hi j hj
    simp only [Bool.or_eq_true, decide_eq_true_eq] at h
    rcases h with (h | h) | h
    · exact h
    · rw [e1] at h; cases h
    · exact absurd (e1.trans e2.symm) h
  refine any_inv (fun l a w => a.defers = a0.defers ∧ a.tmps.size = a0.tmps.size ∧ (∀ k, (∀ i, i < ops.length → dstQ ops i ≠ some k) → a.tmps[k]? = a0.tmps[k]?) ∧ ∃ r : Told, (∀ j, j ∉ S → r j = none) ∧ (∀ j ∈ S, l.getD j true = false → r j = none) ∧ (∀ j ∈ S, l.getD j true = true → ∃ u, r j = some u) ∧ I r w ∧ ∀ i, i < ops.length → l.getD i true = true → (tbl.getD i .any).holds r (valOf ops a i))
    ⟨rfl, rfl, fun _ _ => rfl, fun _ => none, fun _ _ => rfl, fun _ _ _ => rfl, fun j hj h => by simp [Array.getD, hS j hj] at h, hI0, fun i hi h => by simp [Array.getD, hi] at h⟩ ?_
  intro l a w hl hc ⟨j1, j2, j3, r, j4, j5, j6, jI, j7⟩
  have hlen : l.size = ops.length := by simpa using hl
  by_cases hall : ∀ i, l.getD i true = true
  · left
    rw [rem_all hall]
    refine ⟨?_, ?_⟩
    · rw [List.eq_nil_iff_forall_not_mem]
      intro i hi
      have := (mem_ready.1 hi).1
      rw [hall i] at this; cases this
    · have e := putOps_eqS a ops 0 (fun i => valOf ops a i) a0 j1.symm j2.symm (fun k hk => (j3 k (fun i hi q => hk ops[i] (List.getElem_mem hi) (by rw [← hq i ops[i] (List.getElem?_eq_getElem hi)]; exact q))).symm) (fun j o d ho hd => by
        obtain ⟨h1, h2⟩ := hdst j o d ho hd
        have h3 : d < a.tmps.size := by rw [j2]; exact h2
        rw [Array.getElem?_eq_getElem h3, Nat.zero_add]
        unfold valOf
        rw [h1]
        simp [Array.getD, h3])
      rw [← e]
      exact hend _ r w jI (fun j hj => j6 j hj (hall j)) (fun i hi => j7 i hi (hall i))
  · right
    have hex : ∃ i, l.getD i true = false := by
      rcases Classical.em (∃ i, l.getD i true = false) with q | q
      · exact q
      · exact absurd (fun i => by
          cases h : l.getD i true with
          | true => rfl
          | false => exact absurd ⟨i, h⟩ q) hall
    have hmin : ∃ i, l.getD i true = false ∧ ∀ j, j < i → l.getD j true = true := by
      obtain ⟨i, hi⟩ := hex
      induction i using Nat.strongRecOn with
      | _ i ih =>
        rcases Classical.em (∃ j, j < i ∧ l.getD j true = false) with ⟨j, hji, hj⟩ | q
        · exact ih j hji hj
        · refine ⟨i, hi, fun j hj => ?_⟩
          cases h : l.getD j true with
          | true => rfl
          | false => exact absurd ⟨j, hj, h⟩ q
    have hin : ∀ i, l.getD i true = false → i < ops.length := fun i h => by
      rcases Nat.lt_or_ge i l.size with q | q
      · omega
      · simp [Array.getD, Nat.not_lt.mpr q] at h
    refine ⟨?_, ?_⟩
    · obtain ⟨i, hi, hj⟩ := hmin
      have hil := hin i hi
      refine List.ne_nil_of_mem (a := i) (mem_ready.2 ⟨hi, ops[i], by simp [hil], fun e he hb => ?_⟩)
      have hdep : e.on ∈ depsOf ops[i] := List.mem_map.2 ⟨e, List.mem_filter.2 ⟨by simpa using he, hb⟩, rfl⟩
      have h1 := earlyB_get ops 0 i ops[i] hE (List.getElem?_eq_getElem hil) e.on hdep
      have h2 := hj e.on (by omega)
      have h3 : e.on < l.size := by omega
      simp [Array.getD, h3] at h2 ⊢
      exact h2
    · intro i hi
      obtain ⟨hu, o, ho, hdeps⟩ := mem_ready.1 hi
      have ho' : ops[i]? = some o := by simpa using ho
      have hil : i < ops.length := (List.getElem?_eq_some_iff.1 ho').1
      have hin2 : ∀ j, j < ops.length → l.getD j false = l.getD j true := fun j hj => by simp [Array.getD, hlen, hj]
      have hri : r i = none := by
        by_cases hiS : i ∈ S
        · exact j5 i hiS hu
        · exact j4 i hiS
      have hx := eachOp_get ops 0 i o hop ho' a w r (fun k hk => by
        have := j3 k hk
        rw [Array.getD_eq_getD_getElem?, Array.getD_eq_getD_getElem?, this]) jI j4 (by rw [Nat.zero_add]; exact hri) (fun j hj ha => by
          rw [Nat.zero_add] at ha
          cases hlj : l.getD j true with
          | false => exact j5 j hj hlj
          | true =>
            have hjl := hS j hj
            have h1 := anc_listed hc hlen _ i j ops[j] (List.getElem?_eq_getElem hjl) (fun k hk => by
              obtain ⟨x, hx, qe⟩ := List.mem_map.1 hk
              obtain ⟨hx1, hx2⟩ := List.mem_filter.1 hx
              have := hc j ops[j] (by simp [hjl]) hlj x (by simpa using hx1) hx2
              rw [qe] at this; exact this) ha
            rw [hin2 i hil, hu] at h1; cases h1) (fun j hj ha => by
          rw [Nat.zero_add] at ha
          refine j6 j hj ?_
          have h1 := anc_listed hc hlen _ j i o ho' (fun k hk => by
            obtain ⟨x, hx, qe⟩ := List.mem_map.1 hk
            obtain ⟨hx1, hx2⟩ := List.mem_filter.1 hx
            rw [← qe]; exact hdeps x (by simpa using hx1) hx2) ha
          rw [hin2 j (hS j hj)] at h1; exact h1) (fun j hj => by
          obtain ⟨e, he, q⟩ := List.mem_map.1 hj
          obtain ⟨he1, he2⟩ := List.mem_filter.1 he
          subst q
          have h1 := hdeps e (by simpa using he1) he2
          have h3 : e.on < l.size := by
            rcases Nat.lt_or_ge e.on l.size with z | z
            · exact z
            · simp [Array.getD, Nat.not_lt.mpr z] at h1
          exact j7 e.on (by omega) (by simp [Array.getD, h3] at h1 ⊢; exact h1))
      rw [Nat.zero_add] at hx
      obtain ⟨hw, hx⟩ := hx
      unfold wpOp
      rw [ho]
      show if Region.wanted o (yielded ops.toArray a.tmps) = true then _ else _
      rw [if_pos hw]
      refine .inl (hx _ (fun v w' ⟨hI, hf⟩ => ?_))
      obtain ⟨r', hr'⟩ : ∃ r', r' = (if i ∈ S then r.set i v else r) := ⟨_, rfl⟩
      rw [← hr'] at hI hf
      have hro : ∀ j, j ≠ i → r' j = r j := fun j hj => by
        rw [hr']; split
        · exact Told.set_ne hj
        · rfl
      refine ⟨by rw [put_defers']; exact j1, by rw [put_size]; exact j2, fun k hk => ?_, r', fun j hj => ?_, fun j hj hlj => ?_, fun j hj hlj => ?_, hI, fun j hj hlj => ?_⟩
      · cases hd : o.dst with
        | none => exact j3 k hk
        | some d =>
          show (a.tmps.setIfInBounds d v)[k]? = _
          rw [Array.getElem?_setIfInBounds_ne (fun e => hk i hil (by rw [hq i o ho', hd, e]))]
          exact j3 k hk
      · by_cases hji : j = i
        · subst hji; rw [hr', if_neg hj]; exact hri
        · rw [hro j hji]; exact j4 j hj
      · by_cases hji : i = j
        · subst hji
          simp [Array.getD] at hlj
        · rw [hro j (fun e => hji e.symm)]
          rw [getD_set_ne true hji] at hlj
          exact j5 j hj hlj
      · by_cases hji : i = j
        · subst hji
          rw [hr', if_pos hj]
          exact ⟨v, Told.set_same _ _ _⟩
        · rw [hro j (fun e => hji e.symm)]
          rw [getD_set_ne true hji] at hlj
          exact j6 j hj hlj
      · by_cases hji : i = j
        · subst hji
          cases hd : o.dst with
          | none =>
            rw [hT i (hnone i o ho' hd) (by rw [hq i o ho', hd])]
            trivial
          | some d =>
            obtain ⟨h1, h2⟩ := hdst i o d ho' hd
            have : valOf ops (a.put (some d) v) i = v := by
              unfold valOf
              rw [h1]
              show (a.tmps.setIfInBounds d v).getD d undef = v
              have h3 : d < a.tmps.size := by rw [j2]; exact h2
              simp [Array.getD, h3]
            rw [this]; exact hf
        · rw [getD_set_ne true hji] at hlj
          have h5 := j7 j hj hlj
          have h6 : (tbl.getD j .any).holds r' (valOf ops a j) := by
            rw [hr']; split
            · exact Fz.last hri h5
            · exact h5
          cases hd : o.dst with
          | none => exact h6
          | some d =>
            have hoj : ops[j]? = some ops[j] := List.getElem?_eq_getElem hj
            cases hdj : (ops[j]).dst with
            | none =>
              rw [hT j (hnone j _ hoj hdj) (by rw [hq j _ hoj, hdj])]
              trivial
            | some d' =>
              obtain ⟨h1, _⟩ := hdst j _ d' hoj hdj
              have hne : d ≠ d' := fun q => hji (hapart i j d hil hj (by rw [hq i o ho']; exact hd) (by rw [hq j _ hoj, hdj, q]))
              have e : valOf ops (a.put (some d) v) j = valOf ops a j := by
                unfold valOf
                rw [h1]
                show (a.tmps.setIfInBounds d v).getD d' undef = _
                rw [Array.getD_eq_getD_getElem?, Array.getD_eq_getD_getElem?, Array.getElem?_setIfInBounds_ne hne]
              rw [e]; exact h6
theorem wp_region_z {P : Program} {id : Nat} {ops : List Oper} {Q : Exit → Act → World → Prop} {a0 : Act} {w0 : World} (hm : P.follows .mixedOrders = true) (S : List Nat) (hE : earlyB 0 ops = true) (hB : factsZ ops S a0.tmps.size = true)
    (I : Told → World → Prop) (tbl : List Fz) (hT : ∀ i ∈ S, dstQ ops i = none → tbl.getD i .any = .any) (hI0 : I (fun _ => none) w0.drew)
    (hop : eachOp (fun i o => ∀ a w r, (∀ k, (∀ i, i < ops.length → dstQ ops i ≠ some k) → a.tmps.getD k undef = a0.tmps.getD k undef) → I r w → (∀ j, j ∉ S → r j = none) → r i = none → (∀ j ∈ S, ancB ops ops.length i j = true → r j = none) → (∀ j ∈ S, ancB ops ops.length j i = true → ∃ u, r j = some u) → (∀ j ∈ depsOf o, (tbl.getD j .any).holds r (valOf ops a j)) →
      DoesK P ops Q o a w (fun v w' => I (if i ∈ S then r.set i v else r) w' ∧ (tbl.getD i .any).holds (if i ∈ S then r.set i v else r) v)) 0 ops)
    (hend : ∀ (vs : Nat → Value) r w, I r w → (∀ j ∈ S, ∃ u, r j = some u) → (∀ i, i < ops.length → (tbl.getD i .any).holds r (vs i)) → Q .normal (putOps ops 0 vs a0) w) : (Code.region id ops.toArray true).wp P Q a0 w0 :=
  wp_region_any hm (any_z S hE hB I tbl hT hI0 hop hend)
section
variable {P : Program} {ops : List Oper} {Q : Exit → Act → World → Prop} {o : Oper} {a : Act} {w : World} {I : Told → World → Prop} {tbl : List Fz} {r : Told} {i : Nat} {S : List Nat}
/-- An operation that reads. -/
theorem doesZ_read {v : Value} (hi : i ∉ S) (hw : Region.wanted o (yielded ops.toArray a.tmps) = true) (h : (execOp a.eval o).run P w = .ok (.value v) w) (hI : I r w) (hf : (tbl.getD i .any).holds r v) :
    DoesK P ops Q o a w (fun v w' => I (if i ∈ S then r.set i v else r) w' ∧ (tbl.getD i .any).holds (if i ∈ S then r.set i v else r) v) := by
  simp only [if_neg hi]
  exact doesK_val hw h ⟨hI, hf⟩
/-- A call. -/
theorem doesZ_call {fn : FuncId} {args : Array Value} (hi : i ∈ S) (hw : Region.wanted o (yielded ops.toArray a.tmps) = true) (h : (execOp a.eval o).run P w = .ok (.enter fn args) w) (hc : Calls P fn args w fun e w' => ∃ v, e = .returned v ∧ I (r.set i v) w' ∧ (tbl.getD i .any).holds (r.set i v) v) :
    DoesK P ops Q o a w (fun v w' => I (if i ∈ S then r.set i v else r) w' ∧ (tbl.getD i .any).holds (if i ∈ S then r.set i v else r) v) := by
  simp only [if_pos hi]
  exact doesK_call hw h hc
/-- Whatever else turns the world. -/
theorem doesZ_turn (hi : i ∈ S) (hw : Region.wanted o (yielded ops.toArray a.tmps) = true) (h : ∀ K : Act → World → Prop, (∀ v w', I (r.set i v) w' → (tbl.getD i .any).holds (r.set i v) v → K (a.put o.dst v) w') → o.wp P a w K Q) :
    DoesK P ops Q o a w (fun v w' => I (if i ∈ S then r.set i v else r) w' ∧ (tbl.getD i .any).holds (if i ∈ S then r.set i v else r) v) := by
  simp only [if_pos hi]
  exact ⟨hw, fun K hK => h K fun v w' h1 h2 => hK v w' ⟨h1, h2⟩⟩
/-- A store of one cell. -/
theorem run_store_one (w : World) (b k : Nat) (ty : TypeId) (u : Value) (hc : u.cells = #[u]) (ht : w.there b k 1) (hi : (P.info? ty).map (·.size) = some 1) (h1 : u.oneCell' = true) : (Instr.storeAt ty (.pointer (some ⟨b, k, none⟩)) u).run P w = .ok () (w.setCell ⟨b, k, none⟩ u) := by
  have := run_storeVar_mid (P := P) w b k ty #[u] (by simpa using ht) (by simpa using hi) (by simpa using h1)
  simp only [Instr.storeAt, Instr.sureAddr, Sem.run_bind, Sem.run_pure, Result.andThen_ok]
  unfold storeVar at this ⊢
  rw [hc]
  exact this
theorem doesZ_store (hi : i ∈ S) (hw : Region.wanted o (yielded ops.toArray a.tmps) = true) (ty : TypeId) (p x : Operand) (ho : o.op = .store ty p x) (b k : Nat) (hp : a.eval p = .pointer (some ⟨b, k, none⟩)) (u : Value) (hx : a.eval x = u) (hc : u.cells = #[u]) (h1 : u.oneCell' = true) (t : TypeId) (cs : List Value) (hb : Blk w b t cs) (hk : k < cs.length)
    (hz : (P.info? ty).map (·.size) = some 1) (hT : tbl.getD i .any = .any) (hI : ∀ v, I (r.set i v) (w.setCell ⟨b, k, none⟩ u)) :
    DoesK P ops Q o a w (fun v w' => I (if i ∈ S then r.set i v else r) w' ∧ (tbl.getD i .any).holds (if i ∈ S then r.set i v else r) v) := by
  refine doesZ_turn hi hw fun K hK => ?_
  have hr := run_store_one (P := P) w b k ty u hc (there_part hb k 1 (by omega)) hz h1
  unfold Oper.wp execOp
  simp only [ho, hp, hx, Sem.run_bind, hr, Result.andThen_ok, Sem.run_pure]
  exact hK _ _ (hI _) (by rw [hT]; trivial)
end
end Go.Proofs.Ytkagapgganoomaa
/- A region that draws its order and whose turning operations are done one after the other: how far they have come. Own work. -/
namespace Go.Proofs.Ytkagapgganoomaa
open Go.RowKit
/-- How far the turning operations S have come; A k: what holds behind the first k of them. -/
def Stg (S : List Nat) (A : Nat → Told → World → Prop) (r : Told) (w : World) : Prop :=
  ∃ k, k ≤ S.length ∧ (∀ j, j < k → r (S.getD j 0) ≠ none) ∧ (∀ j, k ≤ j → j < S.length → r (S.getD j 0) = none) ∧ A k r w
theorem Stg.zero {S : List Nat} {A : Nat → Told → World → Prop} {w : World} (h : A 0 (fun _ => none) w) : Stg S A (fun _ => none) w :=
  ⟨0, Nat.zero_le _, fun _ hj => absurd hj (Nat.not_lt_zero _), fun _ _ _ => rfl, h⟩
theorem Stg.between {S : List Nat} {A : Nat → Told → World → Prop} {r : Told} {w : World} (h : Stg S A r w) (lo hi : Nat) (hl : lo = 0 ∨ lo - 1 < S.length ∧ ∃ u, r (S.getD (lo - 1) 0) = some u) (hh : hi = S.length ∨ hi < S.length ∧ r (S.getD hi 0) = none) : ∃ k, lo ≤ k ∧ k ≤ hi ∧ A k r w := by
  obtain ⟨k, hk, h1, h2, hA⟩ := h
  refine ⟨k, ?_, ?_, hA⟩
  · rcases hl with q | ⟨q, u, hu⟩
    · omega
    · rcases Nat.lt_or_ge k lo with z | z
      · have := h2 (lo - 1) (by omega) q
        rw [hu] at this; cases this
      · exact z
  · rcases hh with q | ⟨q, hn⟩
    · omega
    · rcases Nat.lt_or_ge hi k with z | z
      · exact absurd hn (h1 hi z)
      · exact z
theorem Stg.at_ {S : List Nat} {A : Nat → Told → World → Prop} {r : Told} {w : World} (h : Stg S A r w) (k : Nat) (hl : k = 0 ∨ k - 1 < S.length ∧ ∃ u, r (S.getD (k - 1) 0) = some u) (hh : k = S.length ∨ k < S.length ∧ r (S.getD k 0) = none) : A k r w := by
  obtain ⟨j, h1, h2, hA⟩ := h.between k k hl hh
  obtain rfl : j = k := by omega
  exact hA
theorem Stg.next {S : List Nat} {A : Nat → Told → World → Prop} {r : Told} {w w' : World} (h : Stg S A r w) (k i : Nat) (v : Value) (hi : S.getD k 0 = i) (hk : k < S.length) (hl : k = 0 ∨ k - 1 < S.length ∧ ∃ u, r (S.getD (k - 1) 0) = some u) (hr : r i = none) (hS : ∀ j, j < S.length → k < j → S.getD j 0 ≠ i) (hA : A (k + 1) (r.set i v) w') : Stg S A (r.set i v) w' := by
  obtain ⟨j, _, h1, h2, _⟩ := h
  have hj : k ≤ j := by
    rcases hl with q | ⟨q, u, hu⟩
    · omega
    · rcases Nat.lt_or_ge j k with z | z
      · have := h2 (k - 1) (by omega) q
        rw [hu] at this; cases this
      · exact z
  refine ⟨k + 1, hk, fun m hm => ?_, fun m hm hml => ?_, hA⟩
  · by_cases e : S.getD m 0 = i
    · rw [e, Told.set_same]; exact fun q => by cases q
    · rw [Told.set_ne e]
      refine h1 m ?_
      rcases Nat.lt_or_ge m k with z | z
      · omega
      · exact absurd (by rw [show m = k by omega]; exact hi) e
  · have hne := hS m hml (by omega)
    rw [Told.set_ne hne]
    refine h2 m ?_ hml
    rcases Nat.lt_or_ge k j with z | z
    · exact absurd (by rw [hi]; exact hr) (h1 k z)
    · omega
end Go.Proofs.Ytkagapgganoomaa

/- A region that draws its order in which one operation (a call) may turn the world at will, and another one (a store, with no slot) stores what came of it; all others read, and what is known of their values hangs on no world. Own work. -/
import Derived.Test.YtflegnlldidmaaaDoorFactsS
namespace Go.Proofs.YtflegnlldidmaaaDoor
open Go.RowKit
/-- What is known of an operation's value: what it is; how it hangs on what the call left; nothing. -/
inductive Fk where
  | pre (x : Value)
  | post (f : Value → Value → Prop)
  | any
def Fk.holds : Fk → Option Value → Value → Prop
  | .pre x, _, v => v = x
  | .post f, y, v => ∃ u, y = some u ∧ f u v
  | .any, _, _ => True
theorem Fk.last {f : Fk} {u v : Value} (h : f.holds none v) : f.holds (some u) v := by
  cases f with
  | pre x => exact h
  | post f => obtain ⟨_, e, _⟩ := h; cases e
  | any => trivial
def factsK (ops : List Oper) (p n : Nat) : Bool := (List.range ops.length).all (fun i => match dstQ ops i with | none => decide (i = p) | some d => decide (d < n)) && (List.range ops.length).all (fun i => (List.range ops.length).all fun j => decide (i = j) || decide (dstQ ops i = none) || decide (dstQ ops i ≠ dstQ ops j))
def DoesK (P : Program) (ops : List Oper) (Q : Exit → Act → World → Prop) (o : Oper) (a : Act) (w : World) (C : Value → World → Prop) : Prop :=
  Region.wanted o (yielded ops.toArray a.tmps) = true ∧ ∀ K : Act → World → Prop, (∀ v w', C v w' → K (a.put o.dst v) w') → o.wp P a w K Q
theorem wp_region_k {P : Program} {id : Nat} {ops : List Oper} {Q : Exit → Act → World → Prop} {a0 : Act} {w0 : World} (hm : P.follows .mixedOrders = true) (m p : Nat) (hml : m < ops.length) (hpl : p < ops.length) (hE : earlyB 0 ops = true) (hA : ancB ops ops.length m p = true) (hB : factsK ops p a0.tmps.size = true)
    (I : Option Value → Bool → World → Prop) (tbl : List Fk) (hp : tbl.getD p .any = .any) (hI0 : I none false w0.drew)
    (hop : eachOp (fun i o => ∀ a w y (b : Bool), (∀ k, (∀ i, i < ops.length → dstQ ops i ≠ some k) → a.tmps.getD k undef = a0.tmps.getD k undef) → I y b w → (i = m → y = none ∧ b = false) → (i ∈ (ops[m]?.map depsOf).getD [] → y = none) → (i = p → b = false) → (∀ j ∈ depsOf o, (tbl.getD j .any).holds y (valOf ops a j)) →
      DoesK P ops Q o a w (fun v w' => I (if i = m then some v else y) (b || i == p) w' ∧ (tbl.getD i .any).holds (if i = m then some v else y) v)) 0 ops)
    (hend : ∀ (vs : Nat → Value) y w, I y true w → (∀ i, i < ops.length → (tbl.getD i .any).holds y (vs i)) → Q .normal (putOps ops 0 vs a0) w) : (Code.region id ops.toArray true).wp P Q a0 w0 := by
  simp only [factsK, Bool.and_eq_true, List.all_eq_true, List.mem_range] at hB
  obtain ⟨hB1, hB2⟩ := hB
  have hq : ∀ (i : Nat) o, ops[i]? = some o → dstQ ops i = o.dst := fun i o ho => by unfold dstQ; rw [ho]; rfl
  have hdst : ∀ (i : Nat) o d, ops[i]? = some o → o.dst = some d → dstOf ops i = d ∧ d < a0.tmps.size := fun i o d ho hd => by
    have h := hB1 i (List.getElem?_eq_some_iff.1 ho).1
    rw [hq i o ho, hd] at h
    simp only [decide_eq_true_eq] at h
    exact ⟨by unfold dstOf; rw [ho]; simp [hd], h⟩
  have hnone : ∀ (i : Nat) o, ops[i]? = some o → o.dst = none → i = p := fun i o ho hd => by
    have h := hB1 i (List.getElem?_eq_some_iff.1 ho).1
    rw [hq i o ho, hd] at h
    simpa using h
  have hapart : ∀ i j d, i < ops.length → j < ops.length → dstQ ops i = some d → dstQ ops j = some d → i = j := fun i j d hi hj e1 e2 => by
    have h := hB2 i hi j hj
    simp only [Bool.or_eq_true, decide_eq_true_eq] at h
    rcases h with (h | h) | h
    · exact h
    · rw [e1] at h; cases h
    · exact absurd (e1.trans e2.symm) h
  refine wp_region_inv hm (fun l a w => a.defers = a0.defers ∧ a.tmps.size = a0.tmps.size ∧ (∀ k, (∀ i, i < ops.length → dstQ ops i ≠ some k) → a.tmps[k]? = a0.tmps[k]?) ∧ ∃ y, (l.getD m true = false → y = none) ∧ I y (l.getD p true) w ∧ ∀ i, i < ops.length → l.getD i true = true → (tbl.getD i .any).holds y (valOf ops a i))
    ⟨rfl, rfl, fun _ _ => rfl, none, fun _ => rfl, by simpa [Array.getD, hpl] using hI0, fun i hi h => by simp [Array.getD, hi] at h⟩ ?_
  intro l a w hl hc ⟨j1, j2, j3, y, j4, jI, j5⟩
  have hlen : l.size = ops.length := by simpa using hl
  by_cases hall : ∀ i, l.getD i true = true
  · left
    rw [rem_all hall]
    refine ⟨?_, ?_⟩
    · rw [List.eq_nil_iff_forall_not_mem]
      intro i hi
      have := (mem_ready.1 hi).1
      rw [hall i] at this; cases this
    · have e := putOps_eqS a ops 0 (fun i => valOf ops a i) a0 j1.symm j2.symm (fun k hk => (j3 k (fun i hi q => hk ops[i] (List.getElem_mem hi) (by rw [← hq i ops[i] (List.getElem?_eq_getElem hi)]; exact q))).symm) (fun j o d ho hd => by
        obtain ⟨h1, h2⟩ := hdst j o d ho hd
        have h3 : d < a.tmps.size := by rw [j2]; exact h2
        rw [Array.getElem?_eq_getElem h3, Nat.zero_add]
        unfold valOf
        rw [h1]
        simp [Array.getD, h3])
      rw [← e]
      rw [hall p] at jI
      exact hend _ y w jI (fun i hi => j5 i hi (hall i))
  · right
    have hex : ∃ i, l.getD i true = false := by
      rcases Classical.em (∃ i, l.getD i true = false) with q | q
      · exact q
      · exact absurd (fun i => by
          cases h : l.getD i true with
          | true => rfl
          | false => exact absurd ⟨i, h⟩ q) hall
    have hmin : ∃ i, l.getD i true = false ∧ ∀ j, j < i → l.getD j true = true := by
      obtain ⟨i, hi⟩ := hex
      induction i using Nat.strongRecOn with
      | _ i ih =>
        rcases Classical.em (∃ j, j < i ∧ l.getD j true = false) with ⟨j, hji, hj⟩ | q
        · exact ih j hji hj
        · refine ⟨i, hi, fun j hj => ?_⟩
          cases h : l.getD j true with
          | true => rfl
          | false => exact absurd ⟨j, hj, h⟩ q
    have hin : ∀ i, l.getD i true = false → i < ops.length := fun i h => by
      rcases Nat.lt_or_ge i l.size with q | q
      · omega
      · simp [Array.getD, Nat.not_lt.mpr q] at h
    refine ⟨?_, ?_⟩
    · obtain ⟨i, hi, hj⟩ := hmin
      have hil := hin i hi
      refine List.ne_nil_of_mem (a := i) (mem_ready.2 ⟨hi, ops[i], by simp [hil], fun e he hb => ?_⟩)
      have hdep : e.on ∈ depsOf ops[i] := List.mem_map.2 ⟨e, List.mem_filter.2 ⟨by simpa using he, hb⟩, rfl⟩
      have h1 := earlyB_get ops 0 i ops[i] hE (List.getElem?_eq_getElem hil) e.on hdep
      have h2 := hj e.on (by omega)
      have h3 : e.on < l.size := by omega
      simp [Array.getD, h3] at h2 ⊢
      exact h2
    · intro i hi
      obtain ⟨hu, o, ho, hdeps⟩ := mem_ready.1 hi
      have ho' : ops[i]? = some o := by simpa using ho
      have hil : i < ops.length := (List.getElem?_eq_some_iff.1 ho').1
      have hx := eachOp_get ops 0 i o hop ho' a w y (l.getD p true) (fun k hk => by
        have := j3 k hk
        rw [Array.getD_eq_getD_getElem?, Array.getD_eq_getD_getElem?, this]) jI (fun q => by
          rw [Nat.zero_add] at q
          subst q
          refine ⟨j4 hu, ?_⟩
          cases hlp : l.getD p true with
          | false => rfl
          | true =>
            have h1 := anc_listed hc hlen _ i p ops[p] (List.getElem?_eq_getElem hpl) (fun k hk => by
              obtain ⟨x, hx, qe⟩ := List.mem_map.1 hk
              obtain ⟨hx1, hx2⟩ := List.mem_filter.1 hx
              have := hc p ops[p] (by simp [hpl]) hlp x (by simpa using hx1) hx2
              rw [qe] at this; exact this) hA
            have hil2 : i < l.size := by omega
            simp [Array.getD, hil2] at h1 hu
            rw [hu] at h1; cases h1) (fun q => by
          rw [Nat.zero_add] at q
          have hom : ops[m]? = some ops[m] := List.getElem?_eq_getElem hml
          rw [hom] at q
          obtain ⟨e, he, qe⟩ := List.mem_map.1 (show i ∈ depsOf ops[m] from q)
          obtain ⟨he1, he2⟩ := List.mem_filter.1 he
          cases hlm : l.getD m true with
          | false => exact j4 hlm
          | true =>
            have h1 := hc m ops[m] (by simp [hml]) hlm e (by simpa using he1) he2
            have hil2 : i < l.size := by omega
            rw [qe] at h1
            simp [Array.getD, hil2] at h1 hu
            rw [hu] at h1; cases h1) (fun q => by rw [Nat.zero_add] at q; subst q; exact hu) (fun j hj => by
          obtain ⟨e, he, q⟩ := List.mem_map.1 hj
          obtain ⟨he1, he2⟩ := List.mem_filter.1 he
          subst q
          have h1 := hdeps e (by simpa using he1) he2
          have h3 : e.on < l.size := by
            rcases Nat.lt_or_ge e.on l.size with z | z
            · exact z
            · simp [Array.getD, Nat.not_lt.mpr z] at h1
          exact j5 e.on (by omega) (by simp [Array.getD, h3] at h1 ⊢; exact h1))
      rw [Nat.zero_add] at hx
      obtain ⟨hw, hx⟩ := hx
      unfold wpOp
      rw [ho]
      show if Region.wanted o (yielded ops.toArray a.tmps) = true then _ else _
      rw [if_pos hw]
      refine .inl (hx _ (fun v w' ⟨hI, hf⟩ => ?_))
      refine ⟨by rw [put_defers']; exact j1, by rw [put_size]; exact j2, fun k hk => ?_, (if i = m then some v else y), fun hlm => ?_, ?_, fun j hj hlj => ?_⟩
      · cases hd : o.dst with
        | none => exact j3 k hk
        | some d =>
          show (a.tmps.setIfInBounds d v)[k]? = _
          rw [Array.getElem?_setIfInBounds_ne (fun e => hk i hil (by rw [hq i o ho', hd, e]))]
          exact j3 k hk
      · by_cases him : i = m
        · subst him
          simp [Array.getD] at hlm
        · rw [if_neg him]
          rw [getD_set_ne true him] at hlm
          exact j4 hlm
      · by_cases hip : i = p
        · subst hip
          have e1 : (l.setIfInBounds i true).getD i true = true := by simp [Array.getD]
          rw [e1]
          simpa using hI
        · rw [getD_set_ne true hip]
          have e1 : (i == p) = false := by simpa using hip
          rw [e1, Bool.or_false] at hI
          exact hI
      · by_cases hji : i = j
        · subst hji
          cases hd : o.dst with
          | none =>
            rw [hnone i o ho' hd, hp]
            trivial
          | some d =>
            obtain ⟨h1, h2⟩ := hdst i o d ho' hd
            have : valOf ops (a.put (some d) v) i = v := by
              unfold valOf
              rw [h1]
              show (a.tmps.setIfInBounds d v).getD d undef = v
              have h3 : d < a.tmps.size := by rw [j2]; exact h2
              simp [Array.getD, h3]
            rw [this]; exact hf
        · rw [getD_set_ne true hji] at hlj
          have h5 := j5 j hj hlj
          have h6 : (tbl.getD j .any).holds (if i = m then some v else y) (valOf ops a j) := by
            by_cases him : i = m
            · rw [if_pos him]
              subst him
              rw [j4 hu] at h5
              exact Fk.last h5
            · rw [if_neg him]; exact h5
          cases hd : o.dst with
          | none => exact h6
          | some d =>
            have hoj : ops[j]? = some ops[j] := List.getElem?_eq_getElem hj
            cases hdj : (ops[j]).dst with
            | none =>
              rw [hnone j _ hoj hdj, hp]
              trivial
            | some d' =>
              obtain ⟨h1, _⟩ := hdst j _ d' hoj hdj
              have hne : d ≠ d' := fun q => hji (hapart i j d hil hj (by rw [hq i o ho']; exact hd) (by rw [hq j _ hoj, hdj, q]))
              have e : valOf ops (a.put (some d) v) j = valOf ops a j := by
                unfold valOf
                rw [h1]
                show (a.tmps.setIfInBounds d v).getD d' undef = _
                rw [Array.getD_eq_getD_getElem?, Array.getD_eq_getD_getElem?, Array.getElem?_setIfInBounds_ne hne]
              rw [e]; exact h6
/-- An operation that leaves the world as it is. -/
theorem doesK_val {P : Program} {ops : List Oper} {Q : Exit → Act → World → Prop} {o : Oper} {a : Act} {w : World} {C : Value → World → Prop} {v : Value} (hw : Region.wanted o (yielded ops.toArray a.tmps) = true) (h : (execOp a.eval o).run P w = .ok (.value v) w) (hC : C v w) : DoesK P ops Q o a w C := by
  refine ⟨hw, fun K hK => ?_⟩
  unfold Oper.wp
  rw [h, Oper.upon_value]
  exact hK v w hC
theorem doesK_call {P : Program} {ops : List Oper} {Q : Exit → Act → World → Prop} {o : Oper} {a : Act} {w : World} {C : Value → World → Prop} {fn : FuncId} {args : Array Value} (hw : Region.wanted o (yielded ops.toArray a.tmps) = true) (h : (execOp a.eval o).run P w = .ok (.enter fn args) w)
    (hc : Calls P fn args w fun e w' => ∃ v, e = .returned v ∧ C v w') : DoesK P ops Q o a w C := by
  refine ⟨hw, fun K hK => ?_⟩
  unfold Oper.wp
  rw [h, Oper.upon_enter]
  refine hc.mono fun e w' hh => ?_
  obtain ⟨v, rfl, hf⟩ := hh
  exact hK v w' hf
/-- A row loaded. -/
theorem doesK_load {ops : List Oper} {Q : Exit → Act → World → Prop} {o : Oper} {a : Act} {w : World} {C : Value → World → Prop} (hw : Region.wanted o (yielded ops.toArray a.tmps) = true) (ty : TypeId) (x : Operand) (ho : o.op = .load ty x) (b f : Nat) (hx : a.eval x = .pointer (some ⟨b, f, none⟩)) (cs : List Value) (hr : w.rangeAt b f cs) (d : TypeDesc) (hu : Tryd.prog.underlying ty = some d) (hd : d.isRow = true) (hi : (Tryd.prog.info? ty).map (·.size) = some cs.length) (hC : C (.agg cs.toArray) w) : DoesK Tryd.prog ops Q o a w C :=
  ⟨hw, fun _ hK => wp_load_mid ty x ho b f hx cs d hr hu hd hi (hK _ _ hC)⟩
/-- A row stored over a block. -/
theorem doesK_store {ops : List Oper} {Q : Exit → Act → World → Prop} {o : Oper} {a : Act} {w : World} {C : Value → World → Prop} (hw : Region.wanted o (yielded ops.toArray a.tmps) = true) (ty t : TypeId) (p x : Operand) (ho : o.op = .store ty p x) (hdst : o.dst = none) (c : Nat) (D cs : List Value) (hp : a.eval p = .pointer (some ⟨c, 0, none⟩)) (hb : Blk w c t D) (hx : a.eval x = .agg cs.toArray) (hlen : cs.length = D.length)
    (hi : (Tryd.prog.info? ty).map (·.size) = some cs.length) (h1 : cs.toArray.all (·.oneCell') = true) (hC : ∀ w', w.grownBy w' (some c) → Blk w' c t cs → C undef w') : DoesK Tryd.prog ops Q o a w C := by
  refine ⟨hw, fun K hK => wp_store_mid ty p x ho c 0 cs.toArray hp hx (hb.there _ (by rw [List.size_toArray, hlen])) (by simpa using hi) h1 ?_⟩
  have hg : w.grownBy (w.setCells c 0 cs) (some c) := only_setCells c cs 0 w (World.grownBy.refl w _)
  have hk := hK undef (w.setCells c 0 cs) (hC _ hg (hb.whole cs hlen))
  rw [hdst] at hk ⊢
  exact hk
section
variable {ops : List Oper} {Q : Exit → Act → World → Prop} {o : Oper} {a : Act} {w : World} {I : Option Value → Bool → World → Prop} {tbl : List Fk} {y : Option Value} {b : Bool} {i m p : Nat}
/-- The same, as the law asks for it: neither the call nor the store. -/
theorem doesK_read {P : Program} {v : Value} (him : i ≠ m) (hip : i ≠ p) (hw : Region.wanted o (yielded ops.toArray a.tmps) = true) (h : (execOp a.eval o).run P w = .ok (.value v) w) (hI : I y b w) (hf : (tbl.getD i .any).holds y v) :
    DoesK P ops Q o a w (fun v w' => I (if i = m then some v else y) (b || i == p) w' ∧ (tbl.getD i .any).holds (if i = m then some v else y) v) := by
  have e : (i == p) = false := by simpa using hip
  rw [e, Bool.or_false]
  simp only [if_neg him]
  exact doesK_val hw h ⟨hI, hf⟩
theorem doesK_row (him : i ≠ m) (hip : i ≠ p) (hw : Region.wanted o (yielded ops.toArray a.tmps) = true) (ty : TypeId) (x : Operand) (ho : o.op = .load ty x) (c f : Nat) (hx : a.eval x = .pointer (some ⟨c, f, none⟩)) (cs : List Value) (hr : w.rangeAt c f cs) (d : TypeDesc) (hu : Tryd.prog.underlying ty = some d) (hd : d.isRow = true) (hi : (Tryd.prog.info? ty).map (·.size) = some cs.length) (hI : I y b w) (hf : (tbl.getD i .any).holds y (.agg cs.toArray)) :
    DoesK Tryd.prog ops Q o a w (fun v w' => I (if i = m then some v else y) (b || i == p) w' ∧ (tbl.getD i .any).holds (if i = m then some v else y) v) := by
  have e : (i == p) = false := by simpa using hip
  rw [e, Bool.or_false]
  simp only [if_neg him]
  exact doesK_load hw ty x ho c f hx cs hr d hu hd hi ⟨hI, hf⟩
theorem doesK_do {P : Program} {fn : FuncId} {args : Array Value} (him : i = m) (hip : i ≠ p) (hw : Region.wanted o (yielded ops.toArray a.tmps) = true) (h : (execOp a.eval o).run P w = .ok (.enter fn args) w) (hc : Calls P fn args w fun e w' => ∃ v, e = .returned v ∧ I (some v) b w' ∧ (tbl.getD i .any).holds (some v) v) :
    DoesK P ops Q o a w (fun v w' => I (if i = m then some v else y) (b || i == p) w' ∧ (tbl.getD i .any).holds (if i = m then some v else y) v) := by
  have e : (i == p) = false := by simpa using hip
  rw [e, Bool.or_false]
  simp only [if_pos him]
  exact doesK_call hw h hc
theorem doesK_put (him : i ≠ m) (hip : i = p) (hw : Region.wanted o (yielded ops.toArray a.tmps) = true) (ty t : TypeId) (q x : Operand) (ho : o.op = .store ty q x) (hdst : o.dst = none) (c : Nat) (D cs : List Value) (hp : a.eval q = .pointer (some ⟨c, 0, none⟩)) (hb : Blk w c t D) (hx : a.eval x = .agg cs.toArray) (hlen : cs.length = D.length)
    (hi : (Tryd.prog.info? ty).map (·.size) = some cs.length) (h1 : cs.toArray.all (·.oneCell') = true) (hT : tbl.getD i .any = .any) (hC : ∀ w', w.grownBy w' (some c) → Blk w' c t cs → I y true w') :
    DoesK Tryd.prog ops Q o a w (fun v w' => I (if i = m then some v else y) (b || i == p) w' ∧ (tbl.getD i .any).holds (if i = m then some v else y) v) := by
  have e : (i == p) = true := by simpa using hip
  rw [e, Bool.or_true]
  simp only [if_neg him]
  exact doesK_store hw ty t q x ho hdst c D cs hp hb hx hlen hi h1 (fun w' g k => ⟨hC w' g k, by rw [hT]; trivial⟩)
end
end Go.Proofs.YtflegnlldidmaaaDoor

/- A region that draws its order, whose operations only read and whose callees make memory of their own and tell values of which something lasting is known: what holds of each operation's value in whatever order they come. Own work. -/
import Derived.Test.YtllhljhbnopafaaDoorOctMem
import Derived.Test.YtllhljhbnopafaaDoorRegionInv
namespace Go.Proofs.YtllhljhbnopafaaDoor
open Go.RowKit
/-- What is known of an operation's value: which one it is, or what it reads as. -/
inductive Fact where
  | val (x : Value)
  | rd (l : List Nat)
def Fact.holds : Fact → Value → World → Prop
  | .val x, v, _ => v = x
  | .rd l, v, w => Rd w v l
theorem Fact.later {f : Fact} {v : Value} {w w' : World} (h : f.holds v w) (hb : Below w.heap.size w w') : f.holds v w' := by
  cases f with
  | val x => exact h
  | rd l => exact Rd.below h hb
def dstOf (ops : List Oper) (i : Nat) : Nat := ((ops[i]?).bind (·.dst)).getD 0
def valOf (ops : List Oper) (a : Act) (i : Nat) : Value := a.tmps.getD (dstOf ops i) undef
def depsOf (o : Oper) : List Nat := (o.after.toList.filter (Region.binds .any)).map (·.on)
def earlyB : Nat → List Oper → Bool
  | _, [] => true
  | i, o :: r => (depsOf o).all (· < i) && earlyB (i + 1) r
/-- The region's text fits: what an operation waits for stands ahead of it; each fills a slot of its own. -/
def factsB (ops : List Oper) (n : Nat) : Bool := earlyB 0 ops && ops.all (fun o => o.dst.isSome) && decide ((ops.map (·.dst)).Nodup) && (List.range ops.length).all (fun i => dstOf ops i < n)
/-- What an operation of the region does. -/
def Does (P : Program) (ops : List Oper) (Q : Exit → Act → World → Prop) (o : Oper) (a : Act) (w : World) (f : Fact) : Prop :=
  Region.wanted o (yielded ops.toArray a.tmps) = true ∧ ∀ K : Act → World → Prop, (∀ v w', Below w.heap.size w w' → f.holds v w' → K (a.put o.dst v) w') → o.wp P a w K Q
def eachOp (p : Nat → Oper → Prop) : Nat → List Oper → Prop
  | _, [] => True
  | i, o :: r => p i o ∧ eachOp p (i + 1) r
theorem eachOp_get {p : Nat → Oper → Prop} : ∀ (l : List Oper) (n i : Nat) (o : Oper), eachOp p n l → l[i]? = some o → p (n + i) o
  | [], _, _, _, _, h => by simp at h
  | x :: r, n, 0, o, h, e => by simp at e; subst e; exact h.1
  | x :: r, n, i + 1, o, h, e => by
    have := eachOp_get r (n + 1) i o h.2 (by simpa using e)
    rw [show n + (i + 1) = n + 1 + i by omega]; exact this
theorem earlyB_get : ∀ (l : List Oper) (n i : Nat) (o : Oper), earlyB n l = true → l[i]? = some o → ∀ j ∈ depsOf o, j < n + i
  | [], _, _, _, _, h => by simp at h
  | x :: r, n, 0, o, h, e => by
    simp at e; subst e
    simp only [earlyB, Bool.and_eq_true, List.all_eq_true, decide_eq_true_eq] at h
    intro j hj; exact h.1 j hj
  | x :: r, n, i + 1, o, h, e => by
    simp only [earlyB, Bool.and_eq_true] at h
    have := earlyB_get r (n + 1) i o h.2 (by simpa using e)
    intro j hj
    have := this j hj
    omega
/-- All values laid in their slots. -/
def putOps : List Oper → Nat → (Nat → Value) → Act → Act
  | [], _, _, a => a
  | o :: r, i, vs, a => putOps r (i + 1) vs (a.put o.dst (vs i))
theorem put_size (a : Act) (d : Option Tmp) (v : Value) : (a.put d v).tmps.size = a.tmps.size := by cases d <;> simp [Act.put]
theorem put_defers' (a : Act) (d : Option Tmp) (v : Value) : (a.put d v).defers = a.defers := by cases d <;> rfl
theorem putOps_eq (a : Act) : ∀ (l : List Oper) (i : Nat) (vs : Nat → Value) (b : Act), b.defers = a.defers → b.tmps.size = a.tmps.size →
    (∀ k, (∀ o ∈ l, o.dst ≠ some k) → b.tmps[k]? = a.tmps[k]?) → (∀ (j : Nat) o, l[j]? = some o → ∃ d, o.dst = some d ∧ a.tmps[d]? = some (vs (i + j))) → putOps l i vs b = a
  | [], i, vs, b, hd, hs, hk, _ => by
    obtain ⟨bt, bd⟩ := b
    obtain ⟨at', ad⟩ := a
    simp only at hd hs
    subst hd
    show (⟨bt, bd⟩ : Act) = ⟨at', bd⟩
    congr 1
    apply Array.ext_getElem?
    intro k
    exact hk k (fun o ho => by cases ho)
  | o :: r, i, vs, b, hd, hs, hk, hv => by
    obtain ⟨d, e, hd2⟩ := hv 0 o rfl
    refine putOps_eq a r (i + 1) vs (b.put o.dst (vs i)) (by rw [put_defers']; exact hd) (by rw [put_size]; exact hs) (fun k h => ?_) (fun j o' ho' => by
      obtain ⟨d', e', h'⟩ := hv (j + 1) o' (by simpa using ho')
      exact ⟨d', e', by rw [show i + 1 + j = i + (j + 1) by omega]; exact h'⟩)
    rw [e]
    show (b.tmps.setIfInBounds d (vs i))[k]? = _
    by_cases hdk : d = k
    · subst hdk
      have hlt : d < b.tmps.size := by
        rw [hs]
        rcases Nat.lt_or_ge d a.tmps.size with q | q
        · exact q
        · rw [Array.getElem?_eq_none q] at hd2; cases hd2
      rw [hd2, Array.getElem?_setIfInBounds_self_of_lt hlt, Nat.add_zero]
    · rw [Array.getElem?_setIfInBounds_ne hdk]
      refine hk k (fun o' ho' => ?_)
      rcases List.mem_cons.1 ho' with q | q
      · subst q; rw [e]; simpa using hdk
      · exact h o' q
theorem rem_all {l : Array Bool} (h : ∀ i, l.getD i true = true) : rem l = 0 := by
  unfold rem
  rw [List.count_eq_zero]
  intro hm
  obtain ⟨i, hi, e⟩ := List.getElem_of_mem hm
  have := h i
  have hi' : i < l.size := by simpa using hi
  rw [Array.getD, dif_pos hi'] at this
  simp at e
  change l[i] = true at this
  rw [e] at this; cases this
theorem wp_region_facts {P : Program} {id : Nat} {ops : List Oper} {Q : Exit → Act → World → Prop} {a0 : Act} {w0 : World} (hm : P.follows .mixedOrders = true) (hB : factsB ops a0.tmps.size = true) (tbl : List Fact)
    (hop : eachOp (fun i o => ∀ a w, (∀ k, (∀ i, i < ops.length → dstOf ops i ≠ k) → a.tmps.getD k undef = a0.tmps.getD k undef) → Below w0.heap.size w0 w → (∀ j ∈ depsOf o, (tbl.getD j (.val undef)).holds (valOf ops a j) w) → Does P ops Q o a w (tbl.getD i (.val undef))) 0 ops)
    (hend : ∀ (vs : Nat → Value) w, Below w0.heap.size w0 w → (∀ i, i < ops.length → (tbl.getD i (.val undef)).holds (vs i) w) → Q .normal (putOps ops 0 vs a0) w) : (Code.region id ops.toArray true).wp P Q a0 w0 := by
  simp only [factsB, Bool.and_eq_true, List.all_eq_true, decide_eq_true_eq] at hB
  obtain ⟨⟨⟨hearly, hsome⟩, hnd⟩, hrange⟩ := hB
  have hdst : ∀ (i : Nat) o, ops[i]? = some o → o.dst = some (dstOf ops i) := fun i o ho => by
    have hs := hsome o (List.mem_of_getElem? ho)
    obtain ⟨d, hd⟩ := Option.isSome_iff_exists.1 hs
    unfold dstOf; rw [ho]; simp [hd]
  have hlt : ∀ i, i < ops.length → dstOf ops i < a0.tmps.size := fun i hi => by simpa using hrange i (by simpa using hi)
  have hapart : ∀ i j, i < ops.length → j < ops.length → dstOf ops i = dstOf ops j → i = j := fun i j hi hj e => by
    have e1 := hdst i ops[i] (List.getElem?_eq_getElem hi)
    have e2 := hdst j ops[j] (List.getElem?_eq_getElem hj)
    have hi' : i < (ops.map (·.dst)).length := by simpa using hi
    have hj' : j < (ops.map (·.dst)).length := by simpa using hj
    have hp := List.pairwise_iff_getElem.1 hnd
    rcases Nat.lt_trichotomy i j with q | q | q
    · exact absurd (by simp [e1, e2, e]) (hp i j hi' hj' q)
    · exact q
    · exact absurd (by simp [e1, e2, e]) (hp j i hj' hi' q)
  refine wp_region_inv hm (fun l a w => a.defers = a0.defers ∧ a.tmps.size = a0.tmps.size ∧ (∀ k, (∀ i, i < ops.length → dstOf ops i ≠ k) → a.tmps[k]? = a0.tmps[k]?) ∧ Below w0.heap.size w0 w ∧ ∀ i, i < ops.length → l.getD i true = true → (tbl.getD i (.val undef)).holds (valOf ops a i) w)
    ⟨rfl, rfl, fun _ _ => rfl, (Below.refl _ _).drew, fun i hi h => by simp [Array.getD, hi] at h⟩ ?_
  intro l a w hl hc ⟨j1, j2, j3, j4, j5⟩
  have hlen : l.size = ops.length := by simpa using hl
  by_cases hall : ∀ i, l.getD i true = true
  · left
    rw [rem_all hall]
    refine ⟨?_, ?_⟩
    · rw [List.eq_nil_iff_forall_not_mem]
      intro i hi
      have := (mem_ready.1 hi).1
      rw [hall i] at this; cases this
    · have e := putOps_eq a ops 0 (fun i => valOf ops a i) a0 j1.symm j2.symm (fun k hk => (j3 k (fun i hi q => hk ops[i] (List.getElem_mem hi) (by rw [hdst i ops[i] (List.getElem?_eq_getElem hi), q]))).symm) (fun j o ho => by
        have hj : j < ops.length := (List.getElem?_eq_some_iff.1 ho).1
        refine ⟨_, hdst j o ho, ?_⟩
        have h1 : dstOf ops j < a.tmps.size := by rw [j2]; exact hlt j hj
        rw [Array.getElem?_eq_getElem h1, Nat.zero_add]
        unfold valOf
        simp [Array.getD, h1])
      rw [← e]
      exact hend _ w j4 (fun i hi => j5 i hi (hall i))
  · right
    have hex : ∃ i, l.getD i true = false := by
      rcases Classical.em (∃ i, l.getD i true = false) with q | q
      · exact q
      · exact absurd (fun i => by
          cases h : l.getD i true with
          | true => rfl
          | false => exact absurd ⟨i, h⟩ q) hall
    have hmin : ∃ i, l.getD i true = false ∧ ∀ j, j < i → l.getD j true = true := by
      obtain ⟨i, hi⟩ := hex
      induction i using Nat.strongRecOn with
      | _ i ih =>
        rcases Classical.em (∃ j, j < i ∧ l.getD j true = false) with ⟨j, hji, hj⟩ | q
        · exact ih j hji hj
        · refine ⟨i, hi, fun j hj => ?_⟩
          cases h : l.getD j true with
          | true => rfl
          | false => exact absurd ⟨j, hj, h⟩ q
    have hin : ∀ i, l.getD i true = false → i < ops.length := fun i h => by
      rcases Nat.lt_or_ge i l.size with q | q
      · omega
      · simp [Array.getD, Nat.not_lt.mpr q] at h
    refine ⟨?_, ?_⟩
    · obtain ⟨i, hi, hj⟩ := hmin
      have hil := hin i hi
      refine List.ne_nil_of_mem (a := i) (mem_ready.2 ⟨hi, ops[i], by simp [hil], fun e he hb => ?_⟩)
      have hdep : e.on ∈ depsOf ops[i] := List.mem_map.2 ⟨e, List.mem_filter.2 ⟨by simpa using he, hb⟩, rfl⟩
      have h1 := earlyB_get ops 0 i ops[i] hearly (List.getElem?_eq_getElem hil) e.on hdep
      have h2 := hj e.on (by omega)
      have h3 : e.on < l.size := by omega
      simp [Array.getD, h3] at h2 ⊢
      exact h2
    · intro i hi
      obtain ⟨hu, o, ho, hdeps⟩ := mem_ready.1 hi
      have ho' : ops[i]? = some o := by simpa using ho
      have hil : i < ops.length := (List.getElem?_eq_some_iff.1 ho').1
      have hx := eachOp_get ops 0 i o hop ho' a w (fun k hk => by
        have := j3 k hk
        rw [Array.getD_eq_getD_getElem?, Array.getD_eq_getD_getElem?, this]) j4 (fun j hj => by
          obtain ⟨e, he, q⟩ := List.mem_map.1 hj
          obtain ⟨he1, he2⟩ := List.mem_filter.1 he
          subst q
          have h1 := hdeps e (by simpa using he1) he2
          have h3 : e.on < l.size := by
            rcases Nat.lt_or_ge e.on l.size with z | z
            · exact z
            · simp [Array.getD, Nat.not_lt.mpr z] at h1
          exact j5 e.on (by omega) (by simp [Array.getD, h3] at h1 ⊢; exact h1))
      rw [Nat.zero_add] at hx
      obtain ⟨hw, hx⟩ := hx
      unfold wpOp
      rw [ho]
      show if Region.wanted o (yielded ops.toArray a.tmps) = true then _ else _
      rw [if_pos hw]
      refine .inl (hx _ (fun v w' hb hf => ?_))
      have hd := hdst i o ho'
      have hdl := hlt i hil
      refine ⟨by rw [put_defers']; exact j1, by rw [put_size]; exact j2, fun k hk => ?_, j4.trans (hb.mono j4.size), fun j hj hlj => ?_⟩
      · rw [hd]
        show (a.tmps.setIfInBounds _ v)[k]? = _
        rw [Array.getElem?_setIfInBounds_ne (hk i hil)]
        exact j3 k hk
      · by_cases hji : i = j
        · subst hji
          have : valOf ops (a.put o.dst v) i = v := by
            unfold valOf
            rw [hd]
            show (a.tmps.setIfInBounds (dstOf ops i) v).getD (dstOf ops i) undef = v
            have h1 : dstOf ops i < a.tmps.size := by rw [j2]; exact hdl
            simp [Array.getD, h1]
          rw [this]; exact hf
        · have e : valOf ops (a.put o.dst v) j = valOf ops a j := by
            unfold valOf
            rw [hd]
            show (a.tmps.setIfInBounds (dstOf ops i) v).getD (dstOf ops j) undef = _
            have hne : dstOf ops i ≠ dstOf ops j := fun q => hji (hapart i j hil hj q)
            rw [Array.getD_eq_getD_getElem?, Array.getD_eq_getD_getElem?, Array.getElem?_setIfInBounds_ne hne]
          rw [e]
          rw [getD_set_ne true hji] at hlj
          exact Fact.later (j5 j hj hlj) hb
theorem yielded_of {ops : List Oper} {a : Act} {j : Nat} {b : Bool} {d : Tmp} (hd : (ops[j]?).bind (·.dst) = some d) (h : a.tmps.getD d undef = .bool b) : yielded ops.toArray a.tmps j = some b := by
  unfold yielded
  have e : ((ops.toArray[j]?).bind (·.dst)) = some d := by simpa using hd
  rw [e]
  rw [Array.getD_eq_getD_getElem?] at h
  cases q : a.tmps[d]? with
  | none => rw [q] at h; simp [undef] at h
  | some x => rw [q] at h; simp at h; subst h; simp [q]
theorem does_val {P : Program} {ops : List Oper} {Q : Exit → Act → World → Prop} {o : Oper} {a : Act} {w : World} {f : Fact} {v : Value} (hw : Region.wanted o (yielded ops.toArray a.tmps) = true) (h : (execOp a.eval o).run P w = .ok (.value v) w) (hf : f.holds v w) : Does P ops Q o a w f := by
  refine ⟨hw, fun K hK => ?_⟩
  unfold Oper.wp
  rw [h, Oper.upon_value]
  exact hK v w (Below.refl _ _) hf
theorem does_call {P : Program} {ops : List Oper} {Q : Exit → Act → World → Prop} {o : Oper} {a : Act} {w : World} {f : Fact} {g : FuncId} {args : Array Value} (hw : Region.wanted o (yielded ops.toArray a.tmps) = true) (h : (execOp a.eval o).run P w = .ok (.enter g args) w)
    (hc : Calls P g args w fun e w' => ∃ v, e = .returned v ∧ f.holds v w' ∧ Below w.heap.size w w') : Does P ops Q o a w f := by
  refine ⟨hw, fun K hK => ?_⟩
  unfold Oper.wp
  rw [h, Oper.upon_enter]
  refine hc.mono fun e w' hh => ?_
  obtain ⟨v, rfl, hf, hb⟩ := hh
  exact hK v w' hb hf
section
variable {P : Program} {o : Oper} {a : Act} {w : World}
theorem wanted_of {ops : List Oper} {j : Nat} {b : Bool} (hg : o.guard = some (j, b)) (h : yielded ops.toArray a.tmps j = some b) : Region.wanted o (yielded ops.toArray a.tmps) = true := by
  unfold Region.wanted
  rw [hg]
  show (yielded ops.toArray a.tmps j == some b) = true
  rw [h]; simp
theorem ex_move {x : Operand} {v : Value} (ho : o.op = .move x) (hx : a.eval x = v) : (execOp a.eval o).run P w = .ok (.value v) w := by
  unfold execOp; rw [ho]; simp [hx]
theorem ex_assign {x : Operand} {v : Value} (ho : o.op = .assign x) (hx : a.eval x = v) : (execOp a.eval o).run P w = .ok (.value v) w := by
  unfold execOp; rw [ho]; simp [hx]
theorem ex_convert {x : Operand} {s d : TypeId} {u v : Value} (ho : o.op = .convert s d x) (hx : a.eval x = u) (hc : (convert s d u).run P w = .ok v w) : (execOp a.eval o).run P w = .ok (.value v) w := by
  unfold execOp; rw [ho]; simp [hx, hc, Result.andThen]
theorem ex_binOp {x y : Operand} {b : BinOp} {t z : TypeId} {u u' v : Value} (ho : o.op = .binOp b t x y z) (hx : a.eval x = u) (hy : a.eval y = u') (hg : (eqGuard b t x y u u').run P w = .ok () w) (hb : (binOp b t u u').run P w = .ok v w) : (execOp a.eval o).run P w = .ok (.value v) w := by
  unfold execOp; rw [ho]; simp [hx, hy, hg, hb, Result.andThen]
theorem ex_pick {c x y : Operand} {b : Bool} {v : Value} (ho : o.op = .pick c x y) (hc : a.eval c = .bool b) (hv : (if b then a.eval x else a.eval y) = v) : (execOp a.eval o).run P w = .ok (.value v) w := by
  unfold execOp; rw [ho]; simp [hc, asBool, hv]
theorem ex_call {g : FuncId} {xs : Array Operand} {ts : Array TypeId} {vs : Array Value} (ho : o.op = .call { callee := .value (.func g), args := xs, argTypes := ts }) (hx : xs.map a.eval = vs) (hf : (callFunc g vs).run P w = .ok (.enter g vs) w) : (execOp a.eval o).run P w = .ok (.enter g vs) w := by
  subst hx
  unfold execOp; rw [ho]
  go_simp
end
end Go.Proofs.YtllhljhbnopafaaDoor

/- Texts of one subject in one file: FactsH, FactsW, SlZ, TwoApp, Chain, RdPart, AppAny, Mark. Own work. -/
import Derived.Test.YtkagapgganoomaaReg
import Derived.Test.YtkagapgganoomaaMem
import Derived.Test.YtkagapgganoomaaZed
import Derived.Test.YtkagapgganoomaaAppFull
import Derived.Deep.AppendSrc
import Derived.Lib.SlBytesConst
/- What single operations do, for the general law of a region that draws. Own work. -/
namespace Go.Proofs.Ytkagapgganoomaa
open Go.ChangeShapes Go.WideShapes Go.ChangeAt Go.RowKit
section
variable {B : Nat} {ops : List Oper} {Q : Exit → Act → World → Prop} {T : List (Pred B)} {U : Nat → Nat} {i : Nat} {o : Oper} {a : Act} {w : World}
/-- append onto a slice of the region's own, which is used up. -/
theorem doesG_app (hw : Region.wanted o (yielded ops.toArray a.tmps) = true) (s x : Operand) (ho : o.op = .call { callee := .builtin .append, args := #[s, x], argTypes := #[33, 33] })
    (d : Nat) (hd : d ∈ depsOf o) (hu : U d = i) (hn : (T.getD d (.val undef)).firm = false) (v y : Value) (l m : List Nat) (hvd : valOf ops a d = v) (hs : a.eval s = v) (hx : a.eval x = y) (hv : Own w B v l) (hy : Rd w y m) (hl : l.length + m.length ≤ 140737488355328) (hB : B ≤ w.heap.size)
    (hf : ∀ v' w', Own w' B v' (l ++ m) → (T.getD i (.val undef)).holds v' w') : DoesG Try.prog ops Q T U i o a w := by
  refine .inl ⟨hw, fun K hK => wp_app s x ho B v y l m hs hx hv hy hl hB fun v' w' ho' hg hk => ?_⟩
  refine hK v' w' (hf v' w' ho') ?_ (fun _ g hgv => ?_)
  · cases e : v.ownBlock with
    | none => rw [e] at hg; exact .inl (below_of_grown hg)
    | some g =>
      rw [e] at hg
      exact .inr ⟨d, g, hd, hu, hn, by rw [hvd]; exact own_held e, (hv.from g e).1, hg⟩
  · have e := own_held' ho'.rd hgv
    refine ⟨(ho'.from g e).2, ?_⟩
    rcases hk with q | q
    · rw [e] at q
      exact .inr ⟨d, hd, hu, hn, by rw [hvd]; exact own_held q.symm⟩
    · rw [e] at q
      have : g = w.heap.size := Option.some.inj q
      exact .inl (by omega)
/-- An empty slice of bytes is made. -/
theorem doesG_empty (hw : Region.wanted o (yielded ops.toArray a.tmps) = true) (ho : o.op = .buildSlice 33 0 #[]) (hB : B ≤ w.heap.size) (hf : ∀ v' w', Own w' B v' [] → (T.getD i (.val undef)).holds v' w') : DoesG Try.prog ops Q T U i o a w := by
  refine doesG_new hw fun K hK => ?_
  unfold Oper.wp execOp
  rw [ho]
  go_simp
  refine hK _ _ (hf _ _ (own_empty w rfl hB)) ((Below.refl _ _).alloc (Nat.le_refl _) _) (fun g hg => ?_)
  have : w.heap.size = g := Option.some.inj hg
  simp; omega
/-- A slice of one byte is made. -/
theorem doesG_byte (hw : Region.wanted o (yielded ops.toArray a.tmps) = true) (n : Nat) (hn : n < 256) (ho : o.op = .buildSlice 33 1 #[(0, .const (.int .u8 (n : Int)))]) (hB : B ≤ w.heap.size) (hf : ∀ v' w', Own w' B v' [n] → (T.getD i (.val undef)).holds v' w') : DoesG Try.prog ops Q T U i o a w := by
  refine doesG_new hw fun K hK => ?_
  unfold Oper.wp execOp
  rw [ho]
  go_simp
  refine hK _ _ (hf _ _ (own_new w [n] (fun k => ?_) (by simp) rfl hB)) ((Below.refl _ _).alloc (Nat.le_refl _) _) (fun g hg => ?_)
  · cases k with
    | zero => exact hn
    | succ k => exact Nat.zero_lt_succ _
  · have : w.heap.size = g := Option.some.inj hg
    simp; omega
end
/-- A slice of slices of bytes, made in the region, of slices that are older than it. -/
def Olds (B : Nat) (v : Value) (ls : List (List Nat)) (w : World) : Prop :=
  ∃ b xs, v = .slice (some ⟨b, 0, none⟩) ls.length ls.length ∧ xs.length = ls.length ∧ Blk w b 33 xs ∧ ls.length ≤ 140737488355328 ∧ ∀ (j : Nat) (x : Value) (l : List Nat), xs[j]? = some x → ls[j]? = some l → Rd w x l ∧ (0 < l.length → ∀ g, B ≤ g → x.ownBlock ≠ some g)
theorem Olds.rds {B : Nat} {v : Value} {ls : List (List Nat)} {w : World} (h : Olds B v ls w) : Rds w v ls := by
  obtain ⟨b, xs, rfl, hl, hb, hf, hr⟩ := h
  refine ⟨hf, .inr ⟨_, _, rfl, Nat.le_refl _, fun j l hj => ?_⟩⟩
  have hjl : j < ls.length := (List.getElem?_eq_some_iff.1 hj).1
  have e : xs[j]? = some (xs[j]'(by omega)) := List.getElem?_eq_getElem (by omega)
  exact ⟨_, by rw [Addr.add_mid, Nat.zero_add]; exact hb.cell j _ e, (hr j _ l e hj).1⟩
theorem Rd.nil_any {w w' : World} {v : Value} (h : Rd w v []) : Rd w' v [] := by
  refine ⟨h.byte, h.fits, ?_⟩
  rcases h.form with q | ⟨ad, cap, e, hc, _⟩
  · exact .inl q
  · exact .inr ⟨ad, cap, e, hc, fun j hj => by simp at hj⟩
def Pred.rds {B : Nat} (ls : List (List Nat)) : Pred B := ⟨fun v w => Olds B v ls w, false,
  fun ⟨b, xs, e, hl, hb, hf, hr⟩ hw => ⟨b, xs, e, hl, hb.below hw hb.lt, hf, fun j x l h1 h2 => ⟨(hr j x l h1 h2).1.below hw, (hr j x l h1 h2).2⟩⟩,
  fun {v w w' g} ⟨b, xs, e, hl, hb, hf, hr⟩ hg hB hne => ⟨b, xs, e, hl, hb.grown hg (by subst e; exact hne.resolve_left (by simp)), hf, fun j x l h1 h2 => by
    obtain ⟨r1, r2⟩ := hr j x l h1 h2
    refine ⟨?_, r2⟩
    match l, r1, r2 with
    | [], r1, _ => exact r1.nil_any
    | y :: l, r1, r2 => exact r1.grown hg (.inr (r2 (by simp) g hB))⟩⟩
end Go.Proofs.Ytkagapgganoomaa
/- As FactsZ, and a slot that the region writes still holds what it held, until the operation that writes it is done (x = f(x)). Own work. -/
namespace Go.Proofs.Ytkagapgganoomaa
open Go.RowKit
theorem any_w {P : Program} {ops : List Oper} {Q : Exit → Act → World → Prop} {a0 : Act} {w0 : World} (S : List Nat) (hE : earlyB 0 ops = true) (hB : factsZ ops S a0.tmps.size = true)
    (I : Told → World → Prop) (tbl : List Fz) (hT : ∀ i ∈ S, dstQ ops i = none → tbl.getD i .any = .any) (hI0 : I (fun _ => none) w0.drew)
    (hop : eachOp (fun i o => ∀ a w r, (∀ k, (∀ j, j < ops.length → dstQ ops j = some k → j = i ∨ ancB ops ops.length i j = true) → a.tmps.getD k undef = a0.tmps.getD k undef) → I r w → (∀ j, j ∉ S → r j = none) → r i = none → (∀ j ∈ S, ancB ops ops.length i j = true → r j = none) → (∀ j ∈ S, ancB ops ops.length j i = true → ∃ u, r j = some u) → (∀ j ∈ depsOf o, (tbl.getD j .any).holds r (valOf ops a j)) →
      DoesK P ops Q o a w (fun v w' => I (if i ∈ S then r.set i v else r) w' ∧ (tbl.getD i .any).holds (if i ∈ S then r.set i v else r) v)) 0 ops)
    (hend : ∀ (vs : Nat → Value) r w, I r w → (∀ j ∈ S, ∃ u, r j = some u) → (∀ i, i < ops.length → (tbl.getD i .any).holds r (vs i)) → Q .normal (putOps ops 0 vs a0) w) : RegAny P ops.toArray Q a0 w0 := by
  simp only [factsZ, Bool.and_eq_true, List.all_eq_true, List.mem_range] at hB
  obtain ⟨⟨hB1, hB2⟩, hB3⟩ := hB
  have hq : ∀ (i : Nat) o, ops[i]? = some o → dstQ ops i = o.dst := fun i o ho => by unfold dstQ; rw [ho]; rfl
  have hdst : ∀ (i : Nat) o d, ops[i]? = some o → o.dst = some d → dstOf ops i = d ∧ d < a0.tmps.size := fun i o d ho hd => by
    have h := hB1 i (List.getElem?_eq_some_iff.1 ho).1
    rw [hq i o ho, hd] at h
    simp only [decide_eq_true_eq] at h
    exact ⟨by unfold dstOf; rw [ho]; simp [hd], h⟩
  have hnone : ∀ (i : Nat) o, ops[i]? = some o → o.dst = none → i ∈ S := fun i o ho hd => by
    have h := hB1 i (List.getElem?_eq_some_iff.1 ho).1
    rw [hq i o ho, hd] at h
    simpa using h
  have hS : ∀ j ∈ S, j < ops.length := fun j hj => by simpa using hB3 j hj
  have hapart : ∀ i j d, i < ops.length → j < ops.length → dstQ ops i = some d → dstQ ops j = some d → i = j := fun i j d hi hj e1 e2 => by
    have h := hB2 i hi j hj
    simp only [Bool.or_eq_true, decide_eq_true_eq] at h
    rcases h with (h | h) | h
    · exact h
    · rw [e1] at h; cases h
    · exact absurd (e1.trans e2.symm) h
  refine any_inv (fun l a w => a.defers = a0.defers ∧ a.tmps.size = a0.tmps.size ∧ (∀ k, (∀ i, i < ops.length → dstQ ops i = some k → l.getD i true = false) → a.tmps[k]? = a0.tmps[k]?) ∧ ∃ r : Told, (∀ j, j ∉ S → r j = none) ∧ (∀ j ∈ S, l.getD j true = false → r j = none) ∧ (∀ j ∈ S, l.getD j true = true → ∃ u, r j = some u) ∧ I r w ∧ ∀ i, i < ops.length → l.getD i true = true → (tbl.getD i .any).holds r (valOf ops a i))
    ⟨rfl, rfl, fun _ _ => rfl, fun _ => none, fun _ _ => rfl, fun _ _ _ => rfl, fun j hj h => by simp [Array.getD, hS j hj] at h, hI0, fun i hi h => by simp [Array.getD, hi] at h⟩ ?_
  intro l a w hl hc ⟨j1, j2, j3, r, j4, j5, j6, jI, j7⟩
  have hlen : l.size = ops.length := by simpa using hl
  by_cases hall : ∀ i, l.getD i true = true
  · left
    rw [rem_all hall]
    refine ⟨?_, ?_⟩
    · rw [List.eq_nil_iff_forall_not_mem]
      intro i hi
      have := (mem_ready.1 hi).1
      rw [hall i] at this; cases this
    · have e := putOps_eqS a ops 0 (fun i => valOf ops a i) a0 j1.symm j2.symm (fun k hk => (j3 k (fun i hi q => absurd (by rw [← hq i ops[i] (List.getElem?_eq_getElem hi)]; exact q) (hk ops[i] (List.getElem_mem hi)))).symm) (fun j o d ho hd => by
        obtain ⟨h1, h2⟩ := hdst j o d ho hd
        have h3 : d < a.tmps.size := by rw [j2]; exact h2
        rw [Array.getElem?_eq_getElem h3, Nat.zero_add]
        unfold valOf
        rw [h1]
        simp [Array.getD, h3])
      rw [← e]
      exact hend _ r w jI (fun j hj => j6 j hj (hall j)) (fun i hi => j7 i hi (hall i))
  · right
    have hex : ∃ i, l.getD i true = false := by
      rcases Classical.em (∃ i, l.getD i true = false) with q | q
      · exact q
      · exact absurd (fun i => by
          cases h : l.getD i true with
          | true => rfl
          | false => exact absurd ⟨i, h⟩ q) hall
    have hmin : ∃ i, l.getD i true = false ∧ ∀ j, j < i → l.getD j true = true := by
      obtain ⟨i, hi⟩ := hex
      induction i using Nat.strongRecOn with
      | _ i ih =>
        rcases Classical.em (∃ j, j < i ∧ l.getD j true = false) with ⟨j, hji, hj⟩ | q
        · exact ih j hji hj
        · refine ⟨i, hi, fun j hj => ?_⟩
          cases h : l.getD j true with
          | true => rfl
          | false => exact absurd ⟨j, hj, h⟩ q
    have hin : ∀ i, l.getD i true = false → i < ops.length := fun i h => by
      rcases Nat.lt_or_ge i l.size with q | q
      · omega
      · simp [Array.getD, Nat.not_lt.mpr q] at h
    refine ⟨?_, ?_⟩
    · obtain ⟨i, hi, hj⟩ := hmin
      have hil := hin i hi
      refine List.ne_nil_of_mem (a := i) (mem_ready.2 ⟨hi, ops[i], by simp [hil], fun e he hb => ?_⟩)
      have hdep : e.on ∈ depsOf ops[i] := List.mem_map.2 ⟨e, List.mem_filter.2 ⟨by simpa using he, hb⟩, rfl⟩
      have h1 := earlyB_get ops 0 i ops[i] hE (List.getElem?_eq_getElem hil) e.on hdep
      have h2 := hj e.on (by omega)
      have h3 : e.on < l.size := by omega
      simp [Array.getD, h3] at h2 ⊢
      exact h2
    · intro i hi
      obtain ⟨hu, o, ho, hdeps⟩ := mem_ready.1 hi
      have ho' : ops[i]? = some o := by simpa using ho
      have hil : i < ops.length := (List.getElem?_eq_some_iff.1 ho').1
      have hin2 : ∀ j, j < ops.length → l.getD j false = l.getD j true := fun j hj => by simp [Array.getD, hlen, hj]
      have hri : r i = none := by
        by_cases hiS : i ∈ S
        · exact j5 i hiS hu
        · exact j4 i hiS
      have hfree : ∀ j, j < ops.length → ancB ops ops.length i j = true → l.getD j true = false := fun j hjl ha => by
        cases hlj : l.getD j true with
        | false => rfl
        | true =>
          have h1 := anc_listed hc hlen _ i j ops[j] (List.getElem?_eq_getElem hjl) (fun k hk => by
            obtain ⟨x, hx, qe⟩ := List.mem_map.1 hk
            obtain ⟨hx1, hx2⟩ := List.mem_filter.1 hx
            have := hc j ops[j] (by simp [hjl]) hlj x (by simpa using hx1) hx2
            rw [qe] at this; exact this) ha
          rw [hin2 i hil, hu] at h1; cases h1
      have hx := eachOp_get ops 0 i o hop ho' a w r (fun k hk => by
        have := j3 k (fun j hj hd => by
          rcases hk j hj hd with q | q
          · rw [Nat.zero_add] at q
            subst q; exact hu
          · rw [Nat.zero_add] at q
            exact hfree j hj q)
        rw [Array.getD_eq_getD_getElem?, Array.getD_eq_getD_getElem?, this]) jI j4 (by rw [Nat.zero_add]; exact hri) (fun j hj ha => by
          rw [Nat.zero_add] at ha
          cases hlj : l.getD j true with
          | false => exact j5 j hj hlj
          | true =>
            have hjl := hS j hj
            have h1 := anc_listed hc hlen _ i j ops[j] (List.getElem?_eq_getElem hjl) (fun k hk => by
              obtain ⟨x, hx, qe⟩ := List.mem_map.1 hk
              obtain ⟨hx1, hx2⟩ := List.mem_filter.1 hx
              have := hc j ops[j] (by simp [hjl]) hlj x (by simpa using hx1) hx2
              rw [qe] at this; exact this) ha
            rw [hin2 i hil, hu] at h1; cases h1) (fun j hj ha => by
          rw [Nat.zero_add] at ha
          refine j6 j hj ?_
          have h1 := anc_listed hc hlen _ j i o ho' (fun k hk => by
            obtain ⟨x, hx, qe⟩ := List.mem_map.1 hk
            obtain ⟨hx1, hx2⟩ := List.mem_filter.1 hx
            rw [← qe]; exact hdeps x (by simpa using hx1) hx2) ha
          rw [hin2 j (hS j hj)] at h1; exact h1) (fun j hj => by
          obtain ⟨e, he, q⟩ := List.mem_map.1 hj
          obtain ⟨he1, he2⟩ := List.mem_filter.1 he
          subst q
          have h1 := hdeps e (by simpa using he1) he2
          have h3 : e.on < l.size := by
            rcases Nat.lt_or_ge e.on l.size with z | z
            · exact z
            · simp [Array.getD, Nat.not_lt.mpr z] at h1
          exact j7 e.on (by omega) (by simp [Array.getD, h3] at h1 ⊢; exact h1))
      rw [Nat.zero_add] at hx
      obtain ⟨hw, hx⟩ := hx
      unfold wpOp
      rw [ho]
      show if Region.wanted o (yielded ops.toArray a.tmps) = true then _ else _
      rw [if_pos hw]
      refine .inl (hx _ (fun v w' ⟨hI, hf⟩ => ?_))
      obtain ⟨r', hr'⟩ : ∃ r', r' = (if i ∈ S then r.set i v else r) := ⟨_, rfl⟩
      rw [← hr'] at hI hf
      have hro : ∀ j, j ≠ i → r' j = r j := fun j hj => by
        rw [hr']; split
        · exact Told.set_ne hj
        · rfl
      refine ⟨by rw [put_defers']; exact j1, by rw [put_size]; exact j2, fun k hk => ?_, r', fun j hj => ?_, fun j hj hlj => ?_, fun j hj hlj => ?_, hI, fun j hj hlj => ?_⟩
      · have hlast : ∀ j, j < ops.length → dstQ ops j = some k → l.getD j true = false := fun j hj hd => by
          have h := hk j hj hd
          by_cases hji : i = j
          · subst hji
            simp [Array.getD] at h
          · rw [getD_set_ne true hji] at h; exact h
        cases hd : o.dst with
        | none => exact j3 k hlast
        | some d =>
          show (a.tmps.setIfInBounds d v)[k]? = _
          rw [Array.getElem?_setIfInBounds_ne (fun e => by
            have h := hk i hil (by rw [hq i o ho', hd, e])
            simp [Array.getD] at h)]
          exact j3 k hlast
      · by_cases hji : j = i
        · subst hji; rw [hr', if_neg hj]; exact hri
        · rw [hro j hji]; exact j4 j hj
      · by_cases hji : i = j
        · subst hji
          simp [Array.getD] at hlj
        · rw [hro j (fun e => hji e.symm)]
          rw [getD_set_ne true hji] at hlj
          exact j5 j hj hlj
      · by_cases hji : i = j
        · subst hji
          rw [hr', if_pos hj]
          exact ⟨v, Told.set_same _ _ _⟩
        · rw [hro j (fun e => hji e.symm)]
          rw [getD_set_ne true hji] at hlj
          exact j6 j hj hlj
      · by_cases hji : i = j
        · subst hji
          cases hd : o.dst with
          | none =>
            rw [hT i (hnone i o ho' hd) (by rw [hq i o ho', hd])]
            trivial
          | some d =>
            obtain ⟨h1, h2⟩ := hdst i o d ho' hd
            have : valOf ops (a.put (some d) v) i = v := by
              unfold valOf
              rw [h1]
              show (a.tmps.setIfInBounds d v).getD d undef = v
              have h3 : d < a.tmps.size := by rw [j2]; exact h2
              simp [Array.getD, h3]
            rw [this]; exact hf
        · rw [getD_set_ne true hji] at hlj
          have h5 := j7 j hj hlj
          have h6 : (tbl.getD j .any).holds r' (valOf ops a j) := by
            rw [hr']; split
            · exact Fz.last hri h5
            · exact h5
          cases hd : o.dst with
          | none => exact h6
          | some d =>
            have hoj : ops[j]? = some ops[j] := List.getElem?_eq_getElem hj
            cases hdj : (ops[j]).dst with
            | none =>
              rw [hT j (hnone j _ hoj hdj) (by rw [hq j _ hoj, hdj])]
              trivial
            | some d' =>
              obtain ⟨h1, _⟩ := hdst j _ d' hoj hdj
              have hne : d ≠ d' := fun q => hji (hapart i j d hil hj (by rw [hq i o ho']; exact hd) (by rw [hq j _ hoj, hdj, q]))
              have e : valOf ops (a.put (some d) v) j = valOf ops a j := by
                unfold valOf
                rw [h1]
                show (a.tmps.setIfInBounds d v).getD d' undef = _
                rw [Array.getD_eq_getD_getElem?, Array.getD_eq_getD_getElem?, Array.getElem?_setIfInBounds_ne hne]
              rw [e]; exact h6
theorem wp_region_w {P : Program} {id : Nat} {ops : List Oper} {Q : Exit → Act → World → Prop} {a0 : Act} {w0 : World} (hm : P.follows .mixedOrders = true) (S : List Nat) (hE : earlyB 0 ops = true) (hB : factsZ ops S a0.tmps.size = true)
    (I : Told → World → Prop) (tbl : List Fz) (hT : ∀ i ∈ S, dstQ ops i = none → tbl.getD i .any = .any) (hI0 : I (fun _ => none) w0.drew)
    (hop : eachOp (fun i o => ∀ a w r, (∀ k, (∀ j, j < ops.length → dstQ ops j = some k → j = i ∨ ancB ops ops.length i j = true) → a.tmps.getD k undef = a0.tmps.getD k undef) → I r w → (∀ j, j ∉ S → r j = none) → r i = none → (∀ j ∈ S, ancB ops ops.length i j = true → r j = none) → (∀ j ∈ S, ancB ops ops.length j i = true → ∃ u, r j = some u) → (∀ j ∈ depsOf o, (tbl.getD j .any).holds r (valOf ops a j)) →
      DoesK P ops Q o a w (fun v w' => I (if i ∈ S then r.set i v else r) w' ∧ (tbl.getD i .any).holds (if i ∈ S then r.set i v else r) v)) 0 ops)
    (hend : ∀ (vs : Nat → Value) r w, I r w → (∀ j ∈ S, ∃ u, r j = some u) → (∀ i, i < ops.length → (tbl.getD i .any).holds r (vs i)) → Q .normal (putOps ops 0 vs a0) w) : (Code.region id ops.toArray true).wp P Q a0 w0 :=
  wp_region_any hm (any_w S hE hB I tbl hT hI0 hop hend)
end Go.Proofs.Ytkagapgganoomaa
/- Cells stored into a block, among the operations of a region that draws (FactsZ). Own work. -/
namespace Go.Proofs.Ytkagapgganoomaa
open Go.ChangeShapes Go.WideShapes Go.ChangeAt Go.RowKit
section
variable {P : Program} {ops : List Oper} {Q : Exit → Act → World → Prop} {o : Oper} {a : Act} {w : World} {I : Told → World → Prop} {tbl : List Fz} {r : Told} {i : Nat} {S : List Nat}
theorem doesZ_put (hi : i ∈ S) (hw : Region.wanted o (yielded ops.toArray a.tmps) = true) (ty : TypeId) (p x : Operand) (ho : o.op = .store ty p x) (b k : Nat) (cs : List Value) (hp : a.eval p = .pointer (some ⟨b, k, none⟩)) (hx : a.eval x = .agg cs.toArray) (t : TypeId) (cur : List Value) (hb : Blk w b t cur) (hk : k + cs.length ≤ cur.length)
    (hz : (P.info? ty).map (·.size) = some cs.length) (h1 : cs.toArray.all (·.oneCell') = true) (hT : tbl.getD i .any = .any) (hI : ∀ w', Blk w' b t (splice cur k cs) → w.grownBy w' (some b) → I (r.set i undef) w') :
    DoesK P ops Q o a w (fun v w' => I (if i ∈ S then r.set i v else r) w' ∧ (tbl.getD i .any).holds (if i ∈ S then r.set i v else r) v) := by
  refine doesZ_turn hi hw fun K hK => ?_
  exact wp_store_mid ty p x ho b k cs.toArray hp hx (there_part hb k _ (by simpa using hk)) (by simpa using hz) h1 (hK _ _ (hI _ (setCells_mid b t cs k w cur hb hk) (only_setCells b cs k w (World.grownBy.refl w _))) (by rw [hT]; trivial))
/-- A row of cells is read out of a block. -/
theorem doesZ_ld (hi : i ∉ S) (hw : Region.wanted o (yielded ops.toArray a.tmps) = true) (ty : TypeId) (x : Operand) (ho : o.op = .load ty x) (c f : Nat) (hx : a.eval x = .pointer (some ⟨c, f, none⟩)) (cs : List Value) (hr : w.rangeAt c f cs) (d : TypeDesc) (hu : P.underlying ty = some d) (hd : d.isRow = true) (hn : (P.info? ty).map (·.size) = some cs.length) (hI : I r w) (hf : (tbl.getD i .any).holds r (.agg cs.toArray)) :
    DoesK P ops Q o a w (fun v w' => I (if i ∈ S then r.set i v else r) w' ∧ (tbl.getD i .any).holds (if i ∈ S then r.set i v else r) v) := by
  simp only [if_neg hi]
  exact ⟨hw, fun K hK => wp_load_mid ty x ho c f hx cs d hr hu hd hn (hK _ _ ⟨hI, hf⟩)⟩
end
section
variable {ops : List Oper} {Q : Exit → Act → World → Prop} {o : Oper} {a : Act} {w : World} {I : Told → World → Prop} {tbl : List Fz} {r : Told} {i : Nat} {S : List Nat}
/-- append of whatever bytes onto a slice of the call's own. -/
theorem doesZ_app8 (hi : i ∈ S) (hw : Region.wanted o (yielded ops.toArray a.tmps) = true) (s x : Operand) (ho : o.op = .call { callee := .builtin .append, args := #[s, x], argTypes := #[33, 33] }) (base : Nat) (v y : Value) (l m : List Nat) (hs : a.eval s = v) (hx : a.eval x = y) (hv : Own w base v l) (hy : Rd w y m)
    (hn : l.length + m.length ≤ 140737488355328) (hb : base ≤ w.heap.size) (h : ∀ v' w', Own w' base v' (l ++ m) → w.grownBy w' v.ownBlock → (v'.ownBlock = v.ownBlock ∨ v'.ownBlock = some w.heap.size) → I (r.set i v') w' ∧ (tbl.getD i .any).holds (r.set i v') v') :
    DoesK Try.prog ops Q o a w (fun v w' => I (if i ∈ S then r.set i v else r) w' ∧ (tbl.getD i .any).holds (if i ∈ S then r.set i v else r) v) :=
  doesZ_turn hi hw fun _ hK => wp_app s x ho base v y l m hs hx hv hy hn hb fun v' w' h1 h2 h3 => hK _ _ (h v' w' h1 h2 h3).1 (h v' w' h1 h2 h3).2
/-- A slice of one byte. -/
theorem doesZ_byte (hi : i ∈ S) (hw : Region.wanted o (yielded ops.toArray a.tmps) = true) (x : Operand) (ho : o.op = .buildSlice 33 1 #[(0, x)]) (n : Nat) (hx : a.eval x = .int .u8 (n : Int))
    (h : I (r.set i (.slice (some ⟨w.heap.size, 0, none⟩) 1 1)) (w.alloc (.cells (row8 [n]).toArray 5)) ∧ (tbl.getD i .any).holds (r.set i (.slice (some ⟨w.heap.size, 0, none⟩) 1 1)) (.slice (some ⟨w.heap.size, 0, none⟩) 1 1)) :
    DoesK Try.prog ops Q o a w (fun v w' => I (if i ∈ S then r.set i v else r) w' ∧ (tbl.getD i .any).holds (if i ∈ S then r.set i v else r) v) := by
  refine doesZ_turn hi hw fun K hK => ?_
  have hk := hK _ _ h.1 h.2
  unfold Oper.wp execOp
  rw [ho]
  simp only [List.map_toArray, List.map_cons, List.map_nil, hx]
  go_simp
  exact hk
end
/-- A slice that was appended to lies where it lay, or in a newer block. -/
def From (v ov : Value) (n : Nat) : Prop := ∀ g, v.ownBlock = some g → ov.ownBlock = some g ∨ n ≤ g
theorem From.one {v ov : Value} {n : Nat} (k : v.ownBlock = ov.ownBlock ∨ v.ownBlock = some n) : From v ov n := fun g e => by
  rcases k with q | q
  · exact .inl (q ▸ e)
  · right; rw [q] at e; exact Nat.le_of_eq (Option.some.inj e)
theorem From.next {v u ov : Value} {n m : Nat} (h : From u ov n) (k : v.ownBlock = u.ownBlock ∨ v.ownBlock = some m) (hm : n ≤ m) : From v ov n := fun g e => by
  rcases k with q | q
  · exact h g (q ▸ e)
  · right; rw [q] at e; have := Option.some.inj e; omega
theorem grown_from {w1 w w' : World} {u ov : Value} (h : w1.grownBy w ov.ownBlock) (k : w.grownBy w' u.ownBlock) (f : From u ov w1.heap.size) : w1.grownBy w' ov.ownBlock :=
  ⟨k.os.trans h.os, k.tape.trans h.tape, k.output.trans h.output, Nat.le_trans h.size k.size, fun g hg hn => by
    rw [k.block g (Nat.lt_of_lt_of_le hg h.size) (fun e => by
      rcases f g e.symm with q | q
      · exact hn q.symm
      · omega)]
    exact h.block g hg hn⟩
/-- A slice grown by one piece after another. -/
structure Grew (w1 : World) (B : Nat) (ov : Value) (w : World) (v : Value) (l : List Nat) : Prop where
  own : Own w B v l
  grow : w1.grownBy w ov.ownBlock
  from_ : From v ov w1.heap.size
theorem Grew.next {w1 w w' : World} {B : Nat} {ov u v : Value} {l m : List Nat} (h : Grew w1 B ov w u l) (o : Own w' B v m) (g : w.grownBy w' u.ownBlock) (k : v.ownBlock = u.ownBlock ∨ v.ownBlock = some w.heap.size) : Grew w1 B ov w' v m :=
  ⟨o, grown_from h.grow g h.from_, h.from_.next k h.grow.size⟩
theorem Grew.refl {w1 : World} {B : Nat} {ov : Value} {l : List Nat} (o : Own w1 B ov l) : Grew w1 B ov w1 ov l := ⟨o, World.grownBy.refl w1 _, fun _ e => .inl e⟩
end Go.Proofs.Ytkagapgganoomaa
/- Two pieces are made, in either order, and appended one after the other to a slice of the call's own, in a region that draws its order (FactsW): what holds meanwhile. i1, i3: the operations that make the pieces; i2, i4: those that append them. Own work. -/
namespace Go.Proofs.Ytkagapgganoomaa
open Go.ChangeShapes Go.WideShapes Go.ChangeAt Go.RowKit
structure TwoA (i1 i2 i3 i4 : Nat) (w1 : World) (B : Nat) (ov : Value) (l x y : List Nat) (r : Told) (w : World) : Prop where
  grow : w1.grownBy w ov.ownBlock
  one : ∀ v, r i1 = some v → r i2 = none → Rd w v x ∧ ∀ g, v.ownBlock = some g → w1.heap.size ≤ g
  two : ∀ v, r i3 = some v → r i4 = none → Rd w v y ∧ ∀ g, v.ownBlock = some g → w1.heap.size ≤ g
  out0 : r i2 = none → Own w B ov l
  out1 : ∀ v, r i2 = some v → r i4 = none → Grew w1 B ov w v (l ++ x)
  out2 : ∀ v, r i4 = some v → Grew w1 B ov w v (l ++ x ++ y)
theorem Grew.mid {w1 w w' : World} {B : Nat} {ov v : Value} {m : List Nat} (h : Grew w1 B ov w v m) (k : Below w.heap.size w w') : Grew w1 B ov w' v m := ⟨h.own.below k, only_trans h.grow (grown_of_below k _), h.from_⟩
section
variable {i1 i2 i3 i4 : Nat} {w1 w w' : World} {B : Nat} {ov v : Value} {l x y : List Nat} {r : Told}
theorem TwoA.zero (h : w = w1) (o : Own w1 B ov l) : TwoA i1 i2 i3 i4 w1 B ov l x y (fun _ => none) w := by
  subst h
  exact ⟨World.grownBy.refl _ _, nofun, nofun, fun _ => o, nofun, nofun⟩
theorem TwoA.make1 (hd : i2 ≠ i1 ∧ i3 ≠ i1 ∧ i4 ≠ i1) (h : TwoA i1 i2 i3 i4 w1 B ov l x y r w) (h2 : r i2 = none) (h4 : r i4 = none) (o : Own w' w.heap.size v x) (k : Below w.heap.size w w') : TwoA i1 i2 i3 i4 w1 B ov l x y (r.set i1 v) w' := by
  have e2 : (r.set i1 v) i2 = none := (Told.set_ne hd.1).trans h2
  have e3 : (r.set i1 v) i3 = r i3 := Told.set_ne hd.2.1
  have e4 : (r.set i1 v) i4 = none := (Told.set_ne hd.2.2).trans h4
  refine ⟨only_trans h.grow (grown_of_below k _), fun z hz _ => ?_, fun z hz _ => ?_, fun _ => (h.out0 h2).below k, fun z hz => ?_, fun z hz => ?_⟩
  · rw [Told.set_same] at hz
    obtain rfl := Option.some.inj hz
    exact ⟨o.rd, fun g hg => by have := (o.from g hg).1; have := h.grow.size; omega⟩
  · rw [e3] at hz
    exact ⟨(h.two z hz h4).1.below k, (h.two z hz h4).2⟩
  · rw [e2] at hz; cases hz
  · rw [e4] at hz; cases hz
theorem TwoA.make2 (hd : i1 ≠ i3 ∧ i2 ≠ i3 ∧ i4 ≠ i3) (h : TwoA i1 i2 i3 i4 w1 B ov l x y r w) (h4 : r i4 = none) (o : Own w' w.heap.size v y) (k : Below w.heap.size w w') : TwoA i1 i2 i3 i4 w1 B ov l x y (r.set i3 v) w' := by
  have e1 : (r.set i3 v) i1 = r i1 := Told.set_ne hd.1
  have e2 : (r.set i3 v) i2 = r i2 := Told.set_ne hd.2.1
  have e4 : (r.set i3 v) i4 = none := (Told.set_ne hd.2.2).trans h4
  refine ⟨only_trans h.grow (grown_of_below k _), fun z hz hz2 => ?_, fun z hz _ => ?_, fun hz => (h.out0 (e2 ▸ hz)).below k, fun z hz _ => (h.out1 z (e2 ▸ hz) h4).mid k, fun z hz => ?_⟩
  · rw [e1] at hz
    rw [e2] at hz2
    exact ⟨(h.one z hz hz2).1.below k, (h.one z hz hz2).2⟩
  · rw [Told.set_same] at hz
    obtain rfl := Option.some.inj hz
    exact ⟨o.rd, fun g hg => by have := (o.from g hg).1; have := h.grow.size; omega⟩
  · rw [e4] at hz; cases hz
theorem TwoA.first (hd : i3 ≠ i2 ∧ i4 ≠ i2) (h : TwoA i1 i2 i3 i4 w1 B ov l x y r w) (h4 : r i4 = none) (hold : ∀ g, ov.ownBlock = some g → g < w1.heap.size) (o : Own w' B v (l ++ x)) (g : w.grownBy w' ov.ownBlock) (k : v.ownBlock = ov.ownBlock ∨ v.ownBlock = some w.heap.size) : TwoA i1 i2 i3 i4 w1 B ov l x y (r.set i2 v) w' := by
  have e3 : (r.set i2 v) i3 = r i3 := Told.set_ne hd.1
  have e4 : (r.set i2 v) i4 = none := (Told.set_ne hd.2).trans h4
  refine ⟨only_trans h.grow g, fun z _ hz => ?_, fun z hz _ => ?_, fun hz => ?_, fun z hz _ => ?_, fun z hz => ?_⟩
  · rw [Told.set_same] at hz; cases hz
  · rw [e3] at hz
    obtain ⟨hr, hn⟩ := h.two z hz h4
    refine ⟨hr.grown g ?_, hn⟩
    cases hyb : z.ownBlock with
    | none => exact .inl rfl
    | some j => exact .inr fun e => by have h1 := hold j e.symm; have h2 := hn j hyb; omega
  · rw [Told.set_same] at hz; cases hz
  · rw [Told.set_same] at hz
    obtain rfl := Option.some.inj hz
    exact ⟨o, only_trans h.grow g, fun q e => by
      rcases k with z | z
      · exact .inl (z ▸ e)
      · right; rw [z] at e; have := Option.some.inj e; have := h.grow.size; omega⟩
  · rw [e4] at hz; cases hz
theorem TwoA.second (hd : i2 ≠ i4) {v0 : Value} (h : TwoA i1 i2 i3 i4 w1 B ov l x y r w) (h2 : r i2 = some v0) (h4 : r i4 = none) (o : Own w' B v (l ++ x ++ y)) (g : w.grownBy w' v0.ownBlock) (k : v.ownBlock = v0.ownBlock ∨ v.ownBlock = some w.heap.size) : TwoA i1 i2 i3 i4 w1 B ov l x y (r.set i4 v) w' := by
  have e2 : (r.set i4 v) i2 = r i2 := Told.set_ne hd
  have hn := (h.out1 v0 h2 h4).next o g k
  refine ⟨hn.grow, fun z _ hz => ?_, fun z _ hz => ?_, fun hz => ?_, fun z _ hz => ?_, fun z hz => ?_⟩
  · rw [e2, h2] at hz; cases hz
  · rw [Told.set_same] at hz; cases hz
  · rw [e2, h2] at hz; cases hz
  · rw [Told.set_same] at hz; cases hz
  · rw [Told.set_same] at hz
    obtain rfl := Option.some.inj hz
    exact hn
end
end Go.Proofs.Ytkagapgganoomaa
/- Pieces appended one after another to a slice of the call's own, in a region that draws its order (FactsW): some are made in the region (by the operation mk k, before the k-th append, in whatever order), the others stand in older memory. app k: the operation that appends the k-th piece. Own work. -/
namespace Go.Proofs.Ytkagapgganoomaa
open Go.ChangeShapes Go.WideShapes Go.ChangeAt Go.RowKit
/-- The first k + 1 pieces. -/
def upTo (pc : Nat → List Nat) : Nat → List Nat
  | 0 => pc 0
  | k + 1 => upTo pc k ++ pc (k + 1)
theorem told_ne {r : Told} {i : Nat} (h : ∃ u, r i = some u) : r i ≠ none := fun e => by obtain ⟨u, hu⟩ := h; rw [hu] at e; cases e
structure Chain (n : Nat) (app : Nat → Nat) (mk : Nat → Option Nat) (pc : Nat → List Nat) (w1 : World) (B : Nat) (ov : Value) (l : List Nat) (r : Told) (w : World) : Prop where
  grow : w1.grownBy w ov.ownBlock
  made : ∀ k m, k < n → mk k = some m → ∀ v, r m = some v → r (app k) = none → Rd w v (pc k) ∧ ∀ g, v.ownBlock = some g → w1.heap.size ≤ g
  out0 : r (app 0) = none → Own w B ov l
  out : ∀ k, k < n → ∀ v, r (app k) = some v → (k + 1 = n ∨ r (app (k + 1)) = none) → Grew w1 B ov w v (l ++ upTo pc k)
section
variable {n : Nat} {app : Nat → Nat} {mk : Nat → Option Nat} {pc : Nat → List Nat} {w1 w w' : World} {B : Nat} {ov v : Value} {l : List Nat} {r : Told}
theorem Chain.zero (h : w = w1) (o : Own w1 B ov l) : Chain n app mk pc w1 B ov l (fun _ => none) w := by
  subst h
  exact ⟨World.grownBy.refl _ _, nofun, fun _ => o, nofun⟩
/-- The k-th piece is made. -/
theorem Chain.make (k m : Nat) (hm : mk k = some m) (hd : ∀ j, j < n → app j ≠ m) (hu : ∀ j, j < n → mk j = some m → j = k) (hn : 0 < n) (h : Chain n app mk pc w1 B ov l r w) (o : Own w' w.heap.size v (pc k)) (kb : Below w.heap.size w w') : Chain n app mk pc w1 B ov l (r.set m v) w' := by
  have ea : ∀ j, j < n → (r.set m v) (app j) = r (app j) := fun j hj => Told.set_ne (hd j hj)
  refine ⟨only_trans h.grow (grown_of_below kb _), fun j i hj hi z hz hz2 => ?_, fun hz => (h.out0 (by rw [← ea 0 hn]; exact hz)).below kb, fun j hj z hz hz2 => ?_⟩
  · rw [ea j hj] at hz2
    by_cases e : i = m
    · subst e
      obtain rfl := hu j hj hi
      rw [Told.set_same] at hz
      obtain rfl := Option.some.inj hz
      exact ⟨o.rd, fun g hg => by have := (o.from g hg).1; have := h.grow.size; omega⟩
    · rw [Told.set_ne e] at hz
      obtain ⟨h1, h2⟩ := h.made j i hj hi z hz hz2
      exact ⟨h1.below kb, h2⟩
  · rw [ea j hj] at hz
    refine (h.out j hj z hz ?_).mid kb
    rcases hz2 with q | q
    · exact .inl q
    · rcases Nat.lt_or_ge (j + 1) n with q2 | q2
      · exact .inr (by rw [← ea (j + 1) q2]; exact q)
      · exact .inl (by omega)
/-- The first piece is appended. -/
theorem Chain.first (hd : ∀ j, j < n → mk j ≠ some (app 0)) (ha : ∀ j, j < n → 0 < j → app j ≠ app 0) (h : Chain n app mk pc w1 B ov l r w) (hl : ∀ j, j < n → 0 < j → r (app j) = none) (hold : ∀ g, ov.ownBlock = some g → g < w1.heap.size) (o : Own w' B v (l ++ pc 0)) (g : w.grownBy w' ov.ownBlock) (k : v.ownBlock = ov.ownBlock ∨ v.ownBlock = some w.heap.size) : Chain n app mk pc w1 B ov l (r.set (app 0) v) w' := by
  refine ⟨only_trans h.grow g, fun j i hj hi z hz hz2 => ?_, fun hz => ?_, fun j hj z hz _ => ?_⟩
  · rw [Told.set_ne (fun e => hd j hj (by rw [← e]; exact hi))] at hz
    rcases Nat.eq_zero_or_pos j with q | q
    · subst q; rw [Told.set_same] at hz2; cases hz2
    · obtain ⟨hr, hn2⟩ := h.made j i hj hi z hz (hl j hj q)
      refine ⟨hr.grown g ?_, hn2⟩
      cases hyb : z.ownBlock with
      | none => exact .inl rfl
      | some y => exact .inr fun e => by have h1 := hold y e.symm; have h2 := hn2 y hyb; omega
  · rw [Told.set_same] at hz; cases hz
  · rcases Nat.eq_zero_or_pos j with q | q
    · subst q
      rw [Told.set_same] at hz
      obtain rfl := Option.some.inj hz
      exact ⟨o, only_trans h.grow g, fun y e => by
        rcases k with z | z
        · exact .inl (z ▸ e)
        · right; rw [z] at e; have := Option.some.inj e; have := h.grow.size; omega⟩
    · rw [Told.set_ne (ha j hj q), hl j hj q] at hz; cases hz
/-- The (k + 1)-th piece is appended; no later one is made in the region. -/
theorem Chain.then_ (k : Nat) (hk : k + 1 < n) (ha : ∀ j, j < n → j ≠ k + 1 → app j ≠ app (k + 1)) (hm : ∀ j, j < n → k + 1 < j → mk j = none) (h : Chain n app mk pc w1 B ov l r w) (hp : ∀ j, j ≤ k → r (app j) ≠ none) (hl : ∀ j, j < n → k < j → r (app j) = none)
    {v0 : Value} (h0 : r (app k) = some v0) (o : Own w' B v (l ++ upTo pc k ++ pc (k + 1))) (g : w.grownBy w' v0.ownBlock) (kk : v.ownBlock = v0.ownBlock ∨ v.ownBlock = some w.heap.size) : Chain n app mk pc w1 B ov l (r.set (app (k + 1)) v) w' := by
  have hn := (h.out k (by omega) v0 h0 (.inr (hl (k + 1) hk (by omega)))).next o g kk
  refine ⟨hn.grow, fun j i hj hi z hz hz2 => ?_, fun hz => ?_, fun j hj z hz hz2 => ?_⟩
  · exfalso
    rcases Nat.lt_trichotomy j (k + 1) with q | q | q
    · rw [Told.set_ne (ha j hj (by omega))] at hz2
      exact hp j (by omega) hz2
    · subst q; rw [Told.set_same] at hz2; cases hz2
    · rw [hm j hj q] at hi; cases hi
  · rw [Told.set_ne (ha 0 (by omega) (by omega))] at hz
    exact absurd hz (hp 0 (Nat.zero_le _))
  · rcases Nat.lt_trichotomy j (k + 1) with q | q | q
    · exfalso
      rcases hz2 with e | e
      · omega
      · rcases Nat.lt_or_ge (j + 1) (k + 1) with q2 | q2
        · rw [Told.set_ne (ha (j + 1) (by omega) (by omega))] at e
          exact hp (j + 1) (by omega) e
        · obtain rfl : j = k := by omega
          rw [Told.set_same] at e; cases e
    · subst q
      rw [Told.set_same] at hz
      obtain rfl := Option.some.inj hz
      show Grew w1 B ov w' v (l ++ (upTo pc k ++ pc (k + 1)))
      rw [← List.append_assoc]; exact hn
    · rw [Told.set_ne (ha j hj (by omega)), hl j hj (by omega)] at hz; cases hz
end
end Go.Proofs.Ytkagapgganoomaa
/- A part of a block reads as bytes. Cut off RtPutR in round 15. Own work. -/
namespace Go.Proofs.Ytkagapgganoomaa
open Go.ChangeShapes Go.WideShapes Go.ChangeAt Go.RowKit
/-- A part of a block reads as bytes. -/
theorem rd_part {w : World} {b : Nat} {t : TypeId} {L : List Value} (h : Blk w b t L) {o n : Nat} {l : List Nat} (hl : Bytes n l) (he : (L.drop o).take n = row8 l) (hn : n ≤ 140737488355328) : Rd w (.slice (some ⟨b, o, none⟩) n n) l := by
  refine ⟨hl.2, by rw [hl.1]; exact hn, .inr ⟨_, n, by rw [hl.1], by rw [hl.1]; exact Nat.le_refl _, fun j hj => ?_⟩⟩
  rw [Addr.add_mid]
  refine h.cell (o + j) _ ?_
  have h1 := row8_val l j hj
  rw [← he, List.getElem?_take, if_pos (by rw [← hl.1]; exact hj), List.getElem?_drop] at h1
  exact h1
end Go.Proofs.Ytkagapgganoomaa
/- append onto a slice without room, of whatever bytes, none too: what it reads. Work ahead for stage 15. Own work. -/
namespace Go.Proofs.Ytkagapgganoomaa
open Go.RowKit
theorem run_app_any (w : World) (ty : TypeId) (ad : Addr) (n : Nat) (l m : List Nat) (hl : l.length = n) (hv : Rd w (.slice (some ad) n n) l) (y : Value) (hy : Rd w y m) (hn : n + m.length ≤ 140737488355328) :
    ∃ v' w', (Builtin.append_ #[33, 33] ty #[.slice (some ad) n n, y]).run Try.prog w = .ok v' w' ∧ Rd w' v' (l ++ m) ∧ Below w.heap.size w w' := by
  rcases Nat.eq_zero_or_pos m.length with h0 | h0
  · obtain rfl : m = [] := List.eq_nil_of_length_eq_zero h0
    obtain ⟨i0, hi, _, hz1, _⟩ := info_parts infoB
    have hs : Src Try.prog i0.size 33 y 0 [] w := by
      rcases hy.form with ⟨rfl, _⟩ | ⟨ya, yc, rfl, _, _⟩
      · exact Src.ofNil w Try.underlying33 _
      · exact Src.ofSlice w Try.underlying33 ya 0 yc [] (by simp) (fun j u h => by simp at h) (fun u h => by cases h)
    refine ⟨_, w, ?_, by rw [List.append_nil]; exact hv, Below.refl _ _⟩
    rcases hs.kind with ⟨e', hk⟩ | hk <;> simp [Builtin.append_, run_underlying Try.underlying33, sizeOf, typeInfo, hi, hs.len, hs.cells, storeCells]
  · obtain ⟨v', w', h1, h2, h3⟩ := run_app_full w ty ad n l m hl hv y hy h0 hn
    exact ⟨v', w', h1, h2.rd, h3⟩
theorem wpList_app_any {ops : Array Oper} {rest : List Oper} {o : Oper} {a : Act} {w : World} {Q : Exit → Act → World → Prop} (hgd : o.guard = none) (s x : Operand) (ho : o.op = .call { callee := .builtin .append, args := #[s, x], argTypes := #[33, 33] })
    (ad : Addr) (n : Nat) (y : Value) (l m : List Nat) (hl : l.length = n) (hs : a.eval s = .slice (some ad) n n) (hx : a.eval x = y) (hv : Rd w (.slice (some ad) n n) l) (hy : Rd w y m) (hn : n + m.length ≤ 140737488355328)
    (h : ∀ v' w', Rd w' v' (l ++ m) → Below w.heap.size w w' → wpList Try.prog ops Q rest (a.put o.dst v') w') : wpList Try.prog ops Q (o :: rest) a w := by
  obtain ⟨v', w', hrun, h2, h3⟩ := run_app_any w o.type ad n l m hl hv y hy hn
  refine wpList_plain hgd fun _ hK => ?_
  unfold Oper.wp
  simp only [execOp, ho, resolve, invoke, builtin, Sem.run_bind, Sem.run_pure, Result.andThen_ok, List.map_toArray, List.map_cons, List.map_nil, hs, hx, hrun]
  exact hK _ _ (h v' w' h2 h3)
end Go.Proofs.Ytkagapgganoomaa
/- A constant's bytes in a region that draws its order: one operation makes the row, another marks it, a third appends to it. Work ahead for stage 15. Own work. -/
namespace Go.Proofs.Ytkagapgganoomaa
open Go.ChangeShapes Go.WideShapes Go.ChangeAt Go.RowKit
theorem run_mark {P : Program} (w : World) (g : Nat) (C : Array Value) (n c : Nat) (t e : TypeId) (ht : P.underlying t = some (.slice e)) (he : P.underlying e = some (.int .u8)) (hg : w.heap[g]? = some (.cells C e)) :
    ∃ w', (convert t t (.slice (some ⟨g, 0, none⟩) n c)).run P w = .ok (.slice (some ⟨g, 0, none⟩) n c) w' ∧ w.grownBy w' (some g) ∧ w'.heap[g]? = some (.cells C e (C.size, C.size + 1)) := by
  have hsh : w.shape? g = some (e, C.size) := by unfold World.shape?; rw [hg]
  refine ⟨w.freeze ⟨g, C.size, none⟩ 1, ?_, ?_, ?_⟩
  · simp [convert, run_underlying ht, run_underlying he, markStringish, hsh]
  · unfold World.freeze
    rw [if_neg (by decide)]
    refine ⟨rfl, rfl, rfl, by simp, fun k _ hne => ?_⟩
    show (w.heap.modify g _)[k]? = w.heap[k]?
    rw [Array.getElem?_modify, if_neg (fun q => hne (by rw [q]))]
  · unfold World.freeze
    rw [if_neg (by decide)]
    show (w.heap.modify g _)[g]? = _
    rw [Array.getElem?_modify, if_pos rfl, hg]
    rfl
theorem rd_marked {w : World} {g : Nat} {e : TypeId} {mk : Nat × Nat} {l : List Nat} (hl : ∀ k, gb l k < 256) (hf : l.length ≤ 140737488355328) (hg : w.heap[g]? = some (.cells (row8 l).toArray e mk)) : Rd w (.slice (some ⟨g, 0, none⟩) l.length l.length) l := by
  refine ⟨hl, hf, .inr ⟨_, _, rfl, Nat.le_refl _, fun j hj => ?_⟩⟩
  rw [Addr.add_mid, Nat.zero_add]
  have h1 := row8_val l j hj
  unfold World.cell?
  rw [hg]
  simpa using h1
def Pred.lit {B : Nat} (l : List Nat) : Pred B := ⟨fun v w => ∃ g, v = .slice (some ⟨g, 0, none⟩) l.length l.length ∧ w.heap[g]? = some (.cells (row8 l).toArray 5) ∧ B ≤ g, false,
  fun {v w w'} ⟨g, e, h, hb⟩ b => ⟨g, e, by
    have hlt : g < w.heap.size := (Array.getElem?_eq_some_iff.1 h).1
    rw [b.block g hlt]; exact h, hb⟩,
  fun {v w w' k} ⟨g, e, h, hb⟩ hk _ hne => ⟨g, e, by
    have hlt : g < w.heap.size := (Array.getElem?_eq_some_iff.1 h).1
    rw [hk.block g hlt (fun q => (hne.resolve_left (by simp)) (by rw [e]; exact q))]; exact h, hb⟩⟩
def Pred.full {B : Nat} (l : List Nat) : Pred B := ⟨fun v w => ∃ ad, v = .slice (some ad) l.length l.length ∧ Rd w v l, false,
  fun ⟨ad, e, h⟩ b => ⟨ad, e, h.below b⟩,
  fun ⟨ad, e, h⟩ hg _ hne => ⟨ad, e, h.grown hg (held_own (hne.resolve_left (by simp)))⟩⟩
theorem own_from {w : World} {B : Nat} {v : Value} {l : List Nat} (h : Own w B v l) : ∀ g, held v = some g → B ≤ g ∧ g < w.heap.size := fun g hg => by
  obtain ⟨ao, c, rfl, _⟩ := h.rd.shape
  exact h.from g (by
    cases ao with
    | none => cases hg
    | some q => exact hg)
section
variable {B : Nat} {ops : List Oper} {Q : Exit → Act → World → Prop} {T : List (Pred B)} {U : Nat → Nat} {i : Nat} {o : Oper} {a : Act} {w : World}
/-- The row of four bytes is made. -/
theorem doesG_lit4 (hw : Region.wanted o (yielded ops.toArray a.tmps) = true) (x y z u : Nat) (ho : o.op = .buildSlice 33 4 #[(0, .const (.int .u8 (x : Int))), (1, .const (.int .u8 (y : Int))), (2, .const (.int .u8 (z : Int))), (3, .const (.int .u8 (u : Int)))]) (hB : B ≤ w.heap.size) (hf : T.getD i (.val undef) = .lit [x, y, z, u]) : DoesG Try.prog ops Q T U i o a w := by
  refine doesG_new hw fun K hK => ?_
  unfold Oper.wp execOp
  rw [ho]
  rw [hf] at hK
  go_simp
  refine hK _ _ ⟨w.heap.size, rfl, heap_alloc_new w _, hB⟩ ((Below.refl _ _).alloc (Nat.le_refl _) _) (fun g hg => ?_)
  have : w.heap.size = g := Option.some.inj hg
  simp; omega
/-- It is marked. -/
theorem doesG_mark (hw : Region.wanted o (yielded ops.toArray a.tmps) = true) (x : Operand) (ho : o.op = .convert 33 33 x) (d : Nat) (hd : d ∈ depsOf o) (hu : U d = i) (hn : (T.getD d (.val undef)).firm = false) (l : List Nat) (hl : ∀ k, gb l k < 256) (hfit : l.length ≤ 140737488355328) (v : Value) (hvd : valOf ops a d = v) (hx : a.eval x = v)
    (hv : ∃ g, v = .slice (some ⟨g, 0, none⟩) l.length l.length ∧ w.heap[g]? = some (.cells (row8 l).toArray 5) ∧ B ≤ g) (hf : T.getD i (.val undef) = .full l) : DoesG Try.prog ops Q T U i o a w := by
  obtain ⟨g, rfl, hg, hb⟩ := hv
  obtain ⟨w', hrun, hgr, hg'⟩ := run_mark (P := Try.prog) w g _ l.length l.length 33 5 Try.underlying33 Try.underlying5 hg
  have hlt : g < w.heap.size := (Array.getElem?_eq_some_iff.1 hg).1
  refine .inl ⟨hw, fun K hK => ?_⟩
  unfold Oper.wp execOp
  rw [ho]
  simp only [hx, Sem.run_bind, hrun, Result.andThen_ok, Sem.run_pure, Oper.upon_value]
  rw [hf] at hK
  refine hK _ _ ⟨_, rfl, rd_marked hl hfit hg'⟩ (.inr ⟨d, g, hd, hu, hn, by rw [hvd]; rfl, hb, hgr⟩) (fun _ k hk => ?_)
  have e : g = k := Option.some.inj hk
  subst e
  exact ⟨Nat.lt_of_lt_of_le hlt hgr.size, .inr ⟨d, hd, hu, hn, by rw [hvd]; rfl⟩⟩
/-- Bytes are appended to it: a row of the region's own. -/
theorem doesG_appFull (hw : Region.wanted o (yielded ops.toArray a.tmps) = true) (s x : Operand) (ho : o.op = .call { callee := .builtin .append, args := #[s, x], argTypes := #[33, 33] })
    (l m : List Nat) (v y : Value) (hs : a.eval s = v) (hx : a.eval x = y) (hv : ∃ ad, v = .slice (some ad) l.length l.length ∧ Rd w v l) (hy : Rd w y m) (hm : 0 < m.length) (hl : l.length + m.length ≤ 140737488355328) (hB : B ≤ w.heap.size)
    (hf : ∀ v' w', Own w' B v' (l ++ m) → (T.getD i (.val undef)).holds v' w') : DoesG Try.prog ops Q T U i o a w := by
  obtain ⟨ad, rfl, hr⟩ := hv
  obtain ⟨v', w', hrun, h2, h3⟩ := run_app_full w o.type ad l.length l m rfl hr y hy hm hl
  refine doesG_new hw fun K hK => ?_
  unfold Oper.wp
  simp only [execOp, ho, resolve, invoke, builtin, Sem.run_bind, Sem.run_pure, Result.andThen_ok, List.map_toArray, List.map_cons, List.map_nil, hs, hx, hrun]
  exact hK _ _ (hf _ _ (h2.lower hB)) h3 (own_from h2)
end
end Go.Proofs.Ytkagapgganoomaa

/- Texts of 5 subjects in one file: FactX, Zed, RtRows, EqX, DevRA. Own work. -/
import Derived.Test.YtflnodkajhokhaaDoorMa1
import Derived.Test.YtflnodkajhokhaaDoorMa0
import Derived.Great.BuildSlice
import Derived.WalkKit
import Derived.Test.YtflnodkajhokhaaDoorRows
import Derived.ProofKit
import Derived.Deep.MidRow
import Derived.BigQuiet
import Derived.BigRegion
import Derived.Deep.DeepCutAuto
section
namespace Go.Proofs.YtflnodkajhokhaaDoor
open Go.RowKit
def dstQ (ops : List Oper) (i : Nat) : Option Nat := (ops[i]?).bind (·.dst)
theorem putOps_eqS (a : Act) : ∀ (l : List Oper) (i : Nat) (vs : Nat -> Value) (b : Act), b.defers = a.defers -> b.tmps.size = a.tmps.size ->
    (∀ k, (∀ o ∈ l, o.dst ≠ some k) -> b.tmps[k]? = a.tmps[k]?) -> (∀ (j : Nat) o d, l[j]? = some o -> o.dst = some d -> a.tmps[d]? = some (vs (i + j))) -> putOps l i vs b = a
  | [], i, vs, b, hd, hs, hk, _ => by
    obtain ⟨bt, bd⟩ := b
    obtain ⟨at', ad⟩ := a
    simp only at hd hs
    subst hd
    show (⟨bt, bd⟩ : Act) = ⟨at', bd⟩
    congr 1
    apply Array.ext_getElem?
    intro k
    exact hk k (fun o ho => by cases ho)
  | o :: r, i, vs, b, hd, hs, hk, hv => by
    refine putOps_eqS a r (i + 1) vs (b.put o.dst (vs i)) (by rw [put_defers']; exact hd) (by rw [put_size]; exact hs) (fun k h => ?_) (fun j o' d' ho' hd' => by
      have h' := hv (j + 1) o' d' (by simpa using ho') hd'
      rw [show i + 1 + j = i + (j + 1) by omega]; exact h')
    cases e : o.dst with
    | none =>
      show b.tmps[k]? = _
      refine hk k (fun o' ho' => ?_)
      rcases List.mem_cons.1 ho' with q | q
      . subst q; rw [e]; intro x; cases x
      . exact h o' q
    | some d =>
      have hd2 := hv 0 o d rfl e
      show (b.tmps.setIfInBounds d (vs i))[k]? = _
      by_cases hdk : d = k
      . subst hdk
        have hlt : d < b.tmps.size := by
          rw [hs]
          rcases Nat.lt_or_ge d a.tmps.size with q | q
          . exact q
          . rw [Array.getElem?_eq_none q] at hd2; cases hd2
        rw [hd2, Array.getElem?_setIfInBounds_self_of_lt hlt, Nat.add_zero]
      . rw [Array.getElem?_setIfInBounds_ne hdk]
        refine hk k (fun o' ho' => ?_)
        rcases List.mem_cons.1 ho' with q | q
        . subst q; rw [e]; simpa using hdk
        . exact h o' q
end Go.Proofs.YtflnodkajhokhaaDoor
namespace Go.Proofs.YtflnodkajhokhaaDoor
open Go.ChangeShapes Go.WideShapes Go.ChangeAt Go.RowKit
section
variable {P : Program} {o : Oper} {a : Act} {w : World}
theorem ex_nilCheck {x : Operand} {p : Addr} (ho : o.op = .nilCheck x) (hx : a.eval x = .pointer (some p)) : (execOp a.eval o).run P w = .ok (.value (.pointer (some p))) w := by
  unfold execOp; rw [ho]; simp only [hx]; go_simp
theorem ex_fieldAddr {x : Operand} {t : TypeId} {p q : Addr} {f : Nat} (ho : o.op = .fieldAddr t x f) (hx : a.eval x = .pointer (some p)) (h : (Instr.fieldAt t (.pointer (some p)) f).run P w = .ok (.pointer (some q)) w) : (execOp a.eval o).run P w = .ok (.value (.pointer (some q))) w := by
  unfold execOp; rw [ho]; simp only [hx, Sem.run_bind, h, Result.andThen_ok, Sem.run_pure]
theorem ex_min {x y : Operand} {ts : Array TypeId} {k : IntKind} {u v : Int} (ho : o.op = .call { callee := .builtin .min, args := #[x, y], argTypes := ts }) (hx : a.eval x = .int k u) (hy : a.eval y = .int k v) : (execOp a.eval o).run P w = .ok (.value (.int k (min u v))) w := by
  have e : (if v < u then v else u) = min u v := by split <;> omega
  simp only [execOp, ho, resolve, invoke, builtin, Sem.run_bind, Sem.run_pure, Result.andThen_ok, List.map_toArray, List.map_cons, List.map_nil, hx, hy, run_min_int2, e]
end
end Go.Proofs.YtflnodkajhokhaaDoor
namespace Go.Proofs.YtflnodkajhokhaaDoor
open Go.RowKit
def DoesK (P : Program) (ops : List Oper) (Q : Exit -> Act -> World -> Prop) (o : Oper) (a : Act) (w : World) (C : Value -> World -> Prop) : Prop :=
  Region.wanted o (yielded ops.toArray a.tmps) = true /\ ∀ K : Act -> World -> Prop, (∀ v w', C v w' -> K (a.put o.dst v) w') -> o.wp P a w K Q
theorem doesK_val {P : Program} {ops : List Oper} {Q : Exit -> Act -> World -> Prop} {o : Oper} {a : Act} {w : World} {C : Value -> World -> Prop} {v : Value} (hw : Region.wanted o (yielded ops.toArray a.tmps) = true) (h : (execOp a.eval o).run P w = .ok (.value v) w) (hC : C v w) : DoesK P ops Q o a w C := by
  refine ⟨hw, fun K hK => ?_⟩
  unfold Oper.wp
  rw [h, Oper.upon_value]
  exact hK v w hC
theorem doesK_call {P : Program} {ops : List Oper} {Q : Exit -> Act -> World -> Prop} {o : Oper} {a : Act} {w : World} {C : Value -> World -> Prop} {fn : FuncId} {args : Array Value} (hw : Region.wanted o (yielded ops.toArray a.tmps) = true) (h : (execOp a.eval o).run P w = .ok (.enter fn args) w)
    (hc : Calls P fn args w fun e w' => ∃ v, e = .returned v /\ C v w') : DoesK P ops Q o a w C := by
  refine ⟨hw, fun K hK => ?_⟩
  unfold Oper.wp
  rw [h, Oper.upon_enter]
  refine hc.mono fun e w' hh => ?_
  obtain ⟨v, rfl, hf⟩ := hh
  exact hK v w' hf
theorem doesK_load {ops : List Oper} {Q : Exit -> Act -> World -> Prop} {o : Oper} {a : Act} {w : World} {C : Value -> World -> Prop} (hw : Region.wanted o (yielded ops.toArray a.tmps) = true) (ty : TypeId) (x : Operand) (ho : o.op = .load ty x) (b f : Nat) (hx : a.eval x = .pointer (some ⟨b, f, none⟩)) (cs : List Value) (hr : w.rangeAt b f cs) (d : TypeDesc) (hu : Tryd.prog.underlying ty = some d) (hd : d.isRow = true) (hi : (Tryd.prog.info? ty).map (·.size) = some cs.length) (hC : C (.agg cs.toArray) w) : DoesK Tryd.prog ops Q o a w C :=
  ⟨hw, fun _ hK => wp_load_mid ty x ho b f hx cs d hr hu hd hi (hK _ _ hC)⟩
end Go.Proofs.YtflnodkajhokhaaDoor
namespace Go.Proofs.YtflnodkajhokhaaDoor
open Go.RowKit
structure Last where
  holds : Value -> World -> Prop
  later : ∀ {v w w'}, holds v w -> Below w.heap.size w w' -> holds v w'
def Last.val (x : Value) : Last := ⟨fun v _ => v = x, fun h _ => h⟩
def DoesL (P : Program) (ops : List Oper) (Q : Exit -> Act -> World -> Prop) (o : Oper) (a : Act) (w : World) (f : Last) : Prop :=
  Region.wanted o (yielded ops.toArray a.tmps) = true /\ ∀ K : Act -> World -> Prop, (∀ v w', Below w.heap.size w w' -> f.holds v w' -> K (a.put o.dst v) w') -> o.wp P a w K Q
theorem wp_region_l {P : Program} {id : Nat} {ops : List Oper} {Q : Exit -> Act -> World -> Prop} {a0 : Act} {w0 : World} (hm : P.follows .mixedOrders = true) (n : Nat) (hn : n < ops.length)
    (hB : factsB (ops.take n) a0.tmps.size = true) (hL : tailB ops n = true) (hE : earlyB 0 ops = true) (tbl : List Last)
    (hop : eachOp (fun i o => ∀ a w, (∀ k, (∀ i, i < n -> dstOf ops i ≠ k) -> a.tmps.getD k undef = a0.tmps.getD k undef) -> Below w0.heap.size w0 w -> (∀ j ∈ depsOf o, (tbl.getD j (Last.val undef)).holds (valOf ops a j) w) -> DoesL P ops Q o a w (tbl.getD i (Last.val undef))) 0 (ops.take n))
    (hend : ∀ (vs : Nat -> Value) w, Below w0.heap.size w0 w -> (∀ i, i < n -> (tbl.getD i (Last.val undef)).holds (vs i) w) -> wpList P ops.toArray Q (ops.drop n) (putOps (ops.take n) 0 vs a0) w) : (Code.region id ops.toArray true).wp P Q a0 w0 := by
  simp only [factsB, Bool.and_eq_true, List.all_eq_true, decide_eq_true_eq] at hB
  obtain ⟨⟨⟨_, hsome⟩, hnd⟩, hrange⟩ := hB
  have htl : (ops.take n).length = n := by rw [List.length_take]; omega
  rw [htl] at hrange
  have hget : ∀ i, i < n -> (ops.take n)[i]? = ops[i]? := fun i hi => by rw [List.getElem?_take, if_pos hi]
  have hdstE : ∀ i, i < n -> dstOf (ops.take n) i = dstOf ops i := fun i hi => by unfold dstOf; rw [hget i hi]
  have hdst : ∀ (i : Nat) o, i < n -> ops[i]? = some o -> o.dst = some (dstOf ops i) := fun i o hi ho => by
    have hs := hsome o (List.mem_of_getElem? (by rw [hget i hi]; exact ho))
    obtain ⟨d, hd⟩ := Option.isSome_iff_exists.1 hs
    unfold dstOf; rw [ho]; simp [hd]
  have hlt : ∀ i, i < n -> dstOf ops i < a0.tmps.size := fun i hi => by
    rw [<- hdstE i hi]; simpa using hrange i (by simpa using hi)
  have hat : ∀ i, i < n -> ∃ o, ops[i]? = some o := fun i hi => ⟨ops[i], List.getElem?_eq_getElem (by omega)⟩
  have hapart : ∀ i j, i < n -> j < n -> dstOf ops i = dstOf ops j -> i = j := fun i j hi hj e => by
    obtain ⟨oi, ei⟩ := hat i hi
    obtain ⟨oj, ej⟩ := hat j hj
    have e1 := hdst i oi hi ei
    have e2 := hdst j oj hj ej
    have hp := List.pairwise_iff_getElem.1 hnd
    have hi' : i < ((ops.take n).map (·.dst)).length := by simp; omega
    have hj' : j < ((ops.take n).map (·.dst)).length := by simp; omega
    have q1 : ops[i]'(by omega) = oi := (List.getElem?_eq_some_iff.1 ei).2
    have q2 : ops[j]'(by omega) = oj := (List.getElem?_eq_some_iff.1 ej).2
    rcases Nat.lt_trichotomy i j with q | q | q
    . exact absurd (by simp [q1, q2, e1, e2, e]) (hp i j hi' hj' q)
    . exact q
    . exact absurd (by simp [q1, q2, e1, e2, e]) (hp j i hj' hi' q)
  have hanc : ∀ i, n <= i -> i < ops.length -> ∀ j, j < i -> ancB ops ops.length j i = true := fun i h1 h2 j h3 => by
    unfold tailB at hL
    rw [List.all_eq_true] at hL
    have h := hL i (by simpa using h2)
    simp only [Bool.or_eq_true, decide_eq_true_eq, List.all_eq_true] at h
    rcases h with q | q
    . omega
    . exact q j (by simpa using h3)
  refine wp_region_inv hm (fun l a w => (l.getD n true = false /\ a.defers = a0.defers /\ a.tmps.size = a0.tmps.size /\ (∀ k, (∀ i, i < n -> dstOf ops i ≠ k) -> a.tmps[k]? = a0.tmps[k]?) /\ Below w0.heap.size w0 w /\ ∀ i, i < n -> l.getD i true = true -> (tbl.getD i (Last.val undef)).holds (valOf ops a i) w) \/
      ∃ t, n < t /\ t <= ops.length /\ (∀ i, i < t -> l.getD i true = true) /\ (∀ i, t <= i -> i < ops.length -> l.getD i true = false) /\ wpList P ops.toArray Q (ops.drop t) a w)
    (.inl ⟨by simp [Array.getD, hn], rfl, rfl, fun _ _ => rfl, (Below.refl _ _).drew, fun i hi h => by simp [Array.getD, Nat.lt_trans hi hn] at h⟩) ?_
  intro l a w hl hc hj
  have hlen : l.size = ops.length := by simpa using hl
  have hto : ∀ i, i < ops.length -> l.getD i false = true -> l.getD i true = true := fun i hi h => by
    simp [Array.getD, hlen, hi] at h ⊢; exact h
  have hfr : ∀ i, i < ops.length -> l.getD i true = false -> l.getD i false = false := fun i hi h => by
    simp [Array.getD, hlen, hi] at h ⊢; exact h
  have hin : ∀ i, l.getD i true = false -> i < ops.length := fun i h => by
    rcases Nat.lt_or_ge i l.size with q | q
    . omega
    . simp [Array.getD, Nat.not_lt.mpr q] at h
  have hne : (∃ i, l.getD i true = false) -> Region.ready .any ops.toArray l ≠ [] := fun hex => by
    have hmin : ∃ i, l.getD i true = false /\ ∀ j, j < i -> l.getD j true = true := by
      obtain ⟨i, hi⟩ := hex
      induction i using Nat.strongRecOn with
      | _ i ih =>
        rcases Classical.em (∃ j, j < i /\ l.getD j true = false) with ⟨j, hji, hj⟩ | q
        . exact ih j hji hj
        . refine ⟨i, hi, fun j hj => ?_⟩
          cases h : l.getD j true with
          | true => rfl
          | false => exact absurd ⟨j, hj, h⟩ q
    obtain ⟨i, hi, hj⟩ := hmin
    have hil := hin i hi
    refine List.ne_nil_of_mem (a := i) (mem_ready.2 ⟨hi, ops[i], by simp [hil], fun e he hb => ?_⟩)
    have hdep : e.on ∈ depsOf ops[i] := List.mem_map.2 ⟨e, List.mem_filter.2 ⟨by simpa using he, hb⟩, rfl⟩
    have h1 := earlyB_get ops 0 i ops[i] hE (List.getElem?_eq_getElem hil) e.on hdep
    have h2 := hj e.on (by omega)
    have h3 : e.on < l.size := by omega
    simp [Array.getD, h3] at h2 ⊢
    exact h2
  have hready : ∀ i ∈ Region.ready .any ops.toArray l, ∃ o, ops[i]? = some o /\ l.getD i true = false /\ ∀ j ∈ depsOf o, l.getD j false = true := fun i hi => by
    obtain ⟨hu, o, ho, hdeps⟩ := mem_ready.1 hi
    refine ⟨o, by simpa using ho, hu, fun j hj => ?_⟩
    obtain ⟨e, he, q⟩ := List.mem_map.1 hj
    obtain ⟨he1, he2⟩ := List.mem_filter.1 he
    subst q
    exact hdeps e (by simpa using he1) he2
  have hset : ∀ i, l.getD i true = false -> ∀ j, (l.setIfInBounds i true).getD j true = if i = j then true else l.getD j true := fun i hi j => by
    by_cases h : i = j
    . subst h; rw [if_pos rfl]; simp [Array.getD, hlen, hin i hi]
    . rw [if_neg h, getD_set_ne true h]
  rcases hj with ⟨hln, j1, j2, j3, j4, j5⟩ | ⟨t, ht1, ht2, ht3, ht4, hwp⟩
  . right
    refine ⟨hne ⟨n, hln⟩, ?_⟩
    intro i hi
    obtain ⟨o, ho', hu, hdeps'⟩ := hready i hi
    have hil := hin i hu
    rcases Nat.lt_trichotomy i n with hi' | hi' | hi'
    . have hx := eachOp_get (ops.take n) 0 i o hop (by rw [hget i hi']; exact ho') a w (fun k hk => by
        have := j3 k hk
        rw [Array.getD_eq_getD_getElem?, Array.getD_eq_getD_getElem?, this]) j4 (fun j hj => by
          have hjn : j < n := by
            have := earlyB_get ops 0 i o hE ho' j hj
            omega
          exact j5 j hjn (hto j (by omega) (hdeps' j hj)))
      rw [Nat.zero_add] at hx
      obtain ⟨hw, hx⟩ := hx
      unfold wpOp
      rw [show ops.toArray[i]? = some o by simpa using ho']
      show if Region.wanted o (yielded ops.toArray a.tmps) = true then _ else _
      rw [if_pos hw]
      refine .inl (hx _ (fun v w' hb hf => .inl ?_))
      have hd := hdst i o hi' ho'
      have hdl' := hlt i hi'
      rw [getD_set_ne true (show i ≠ n by omega)]
      refine ⟨hln, by rw [put_defers']; exact j1, by rw [put_size]; exact j2, fun k hk => ?_, j4.trans (hb.mono j4.size), fun j hj hlj => ?_⟩
      . rw [hd]
        show (a.tmps.setIfInBounds _ v)[k]? = _
        rw [Array.getElem?_setIfInBounds_ne (hk i hi')]
        exact j3 k hk
      . by_cases hji : i = j
        . subst hji
          have : valOf ops (a.put o.dst v) i = v := by
            unfold valOf
            rw [hd]
            show (a.tmps.setIfInBounds (dstOf ops i) v).getD (dstOf ops i) undef = v
            have h1 : dstOf ops i < a.tmps.size := by rw [j2]; exact hdl'
            simp [Array.getD, h1]
          rw [this]; exact hf
        . have e : valOf ops (a.put o.dst v) j = valOf ops a j := by
            unfold valOf
            rw [hd]
            show (a.tmps.setIfInBounds (dstOf ops i) v).getD (dstOf ops j) undef = _
            have hne : dstOf ops i ≠ dstOf ops j := fun q => hji (hapart i j hi' hj q)
            rw [Array.getD_eq_getD_getElem?, Array.getD_eq_getD_getElem?, Array.getElem?_setIfInBounds_ne hne]
          rw [e]
          rw [getD_set_ne true hji] at hlj
          exact Last.later _ (j5 j hj hlj) hb
    . subst hi'
      have hall : ∀ j, j < i -> l.getD j true = true := fun j hj => hto j (by omega) (anc_listed hc hlen _ j i o ho' hdeps' (hanc i (Nat.le_refl _) hil j hj))
      have e := putOps_eq a (ops.take i) 0 (fun i => valOf ops a i) a0 j1.symm j2.symm (fun k hk => (j3 k (fun m hm q => by
        obtain ⟨om, em⟩ := hat m hm
        exact hk om (List.mem_of_getElem? (by rw [hget m hm]; exact em)) (by rw [hdst m om hm em, q]))).symm) (fun j o ho => by
        have hj : j < i := by
          have := (List.getElem?_eq_some_iff.1 ho).1
          omega
        rw [hget j hj] at ho
        refine ⟨_, hdst j o hj ho, ?_⟩
        have h1 : dstOf ops j < a.tmps.size := by rw [j2]; exact hlt j hj
        rw [Array.getElem?_eq_getElem h1, Nat.zero_add]
        unfold valOf
        simp [Array.getD, h1])
      have hx := hend (fun i => valOf ops a i) w j4 (fun j hj => j5 j hj (hall j hj))
      rw [e] at hx
      have hu' : ∀ m, i < m -> m < ops.length -> l.getD m true = false := fun m h1 h2 => by
        cases hm : l.getD m true with
        | false => rfl
        | true =>
          exfalso
          have hmo : ops[m]? = some ops[m] := List.getElem?_eq_getElem h2
          have := anc_listed hc hlen _ i m ops[m] hmo (fun k hk => by
            obtain ⟨x, hx, qe⟩ := List.mem_map.1 hk
            obtain ⟨hx1, hx2⟩ := List.mem_filter.1 hx
            have := hc m ops[m] (by simp [h2]) hm x (by simpa using hx1) hx2
            rw [qe] at this; exact this) (hanc m (by omega) h2 i h1)
          rw [hfr i hil hu] at this; cases this
      rw [List.drop_eq_getElem_cons hil] at hx
      have hoe : ops[i] = o := (List.getElem?_eq_some_iff.1 ho').2
      rw [hoe] at hx
      have key : wpOp P ops.toArray Q i (wpList P ops.toArray Q (ops.drop (i + 1))) a w := by
        unfold wpOp
        rw [show ops.toArray[i]? = some o by simpa using ho']
        exact hx
      refine wpOp_mono (fun a' w' hq => .inr ⟨i + 1, by omega, by omega, fun j hj => ?_, fun j h1 h2 => ?_, hq⟩) key
      . rw [hset i hu]
        split
        . rfl
        . exact hall j (by omega)
      . rw [hset i hu, if_neg (by omega)]
        exact hu' j (by omega) h2
    . exfalso
      have := anc_listed hc hlen _ n i o ho' hdeps' (hanc i (by omega) hil n hi')
      rw [hfr n hn hln] at this; cases this
  . by_cases hte : t = ops.length
    . left
      have hall : ∀ i, l.getD i true = true := fun i => by
        rcases Nat.lt_or_ge i ops.length with q | q
        . exact ht3 i (by omega)
        . simp [Array.getD, hlen, Nat.not_lt.mpr q]
      rw [rem_all hall]
      refine ⟨?_, ?_⟩
      . rw [List.eq_nil_iff_forall_not_mem]
        intro i hi
        have := (mem_ready.1 hi).1
        rw [hall i] at this; cases this
      . rw [hte, List.drop_length] at hwp
        exact hwp
    . right
      have htl' : t < ops.length := by omega
      refine ⟨hne ⟨t, ht4 t (Nat.le_refl _) htl'⟩, ?_⟩
      intro i hi
      obtain ⟨o, ho', hu, hdeps'⟩ := hready i hi
      have hil := hin i hu
      have hit : i = t := by
        rcases Nat.lt_trichotomy i t with q | q | q
        . rw [ht3 i q] at hu; cases hu
        . exact q
        . exfalso
          have := anc_listed hc hlen _ t i o ho' hdeps' (hanc i (by omega) hil t q)
          rw [hfr t htl' (ht4 t (Nat.le_refl _) htl')] at this; cases this
      subst hit
      rw [List.drop_eq_getElem_cons hil] at hwp
      have hoe : ops[i] = o := (List.getElem?_eq_some_iff.1 ho').2
      rw [hoe] at hwp
      have key : wpOp P ops.toArray Q i (wpList P ops.toArray Q (ops.drop (i + 1))) a w := by
        unfold wpOp
        rw [show ops.toArray[i]? = some o by simpa using ho']
        exact hwp
      refine wpOp_mono (fun a' w' hq => .inr ⟨i + 1, by omega, by omega, fun j hj => ?_, fun j h1 h2 => ?_, hq⟩) key
      . rw [hset i hu]
        split
        . rfl
        . exact ht3 j (by omega)
      . rw [hset i hu, if_neg (by omega)]
        exact ht4 j (by omega) h2
section
variable {P : Program} {ops : List Oper} {Q : Exit -> Act -> World -> Prop} {o : Oper} {a : Act} {w : World} {f : Last}
theorem doesL_val {v : Value} (hw : Region.wanted o (yielded ops.toArray a.tmps) = true) (h : (execOp a.eval o).run P w = .ok (.value v) w) (hf : f.holds v w) : DoesL P ops Q o a w f := by
  refine ⟨hw, fun K hK => ?_⟩
  unfold Oper.wp
  rw [h, Oper.upon_value]
  exact hK v w (Below.refl _ _) hf
theorem doesL_wp (hw : Region.wanted o (yielded ops.toArray a.tmps) = true) (h : ∀ K : Act -> World -> Prop, (∀ v w', f.holds v w' -> Below w.heap.size w w' -> K (a.put o.dst v) w') -> o.wp P a w K Q) : DoesL P ops Q o a w f :=
  ⟨hw, fun K hK => h K fun v w' hf hb => hK v w' hb hf⟩
theorem doesL_call {g : FuncId} {args : Array Value} (hw : Region.wanted o (yielded ops.toArray a.tmps) = true) (h : (execOp a.eval o).run P w = .ok (.enter g args) w) (hc : Calls P g args w fun e w' => ∃ v, e = .returned v /\ f.holds v w' /\ Below w.heap.size w w') : DoesL P ops Q o a w f :=
  doesL_wp hw fun K hK => by
    unfold Oper.wp
    rw [h, Oper.upon_enter]
    refine hc.mono fun e w' hh => ?_
    obtain ⟨v, rfl, hf, hb⟩ := hh
    exact hK v w' hf hb
end
end Go.Proofs.YtflnodkajhokhaaDoor
namespace Go.Proofs.YtflnodkajhokhaaDoor
open Go.RowKit
structure Keep (B : Nat) (w w' : World) : Prop where
  below : Below B w w'
  cell : ∀ a v, w.cell? a = some v -> w'.cell? a = some v
theorem keep_below {B : Nat} {w w' : World} (h : Below w.heap.size w w') (hB : B <= w.heap.size) : Keep B w w' := ⟨h.mono hB, fun a v hc => by
  rw [World.cell?_of_block (w := w) (h.block _ (World.block_lt_of_cell? w _ hc))]; exact hc⟩
theorem Keep.refl (B : Nat) (w : World) : Keep B w w := ⟨Below.refl _ _, fun _ _ h => h⟩
structure LastC (B : Nat) where
  holds : Value -> World -> Prop
  later : ∀ {v w w'}, holds v w -> Keep B w w' -> holds v w'
def LastC.val {B : Nat} (x : Value) : LastC B := ⟨fun v _ => v = x, fun h _ => h⟩
def DoesC (B : Nat) (P : Program) (ops : List Oper) (Q : Exit -> Act -> World -> Prop) (o : Oper) (a : Act) (w : World) (f : LastC B) : Prop :=
  Region.wanted o (yielded ops.toArray a.tmps) = true /\ ∀ K : Act -> World -> Prop, (∀ v w', Keep B w w' -> f.holds v w' -> K (a.put o.dst v) w') -> o.wp P a w K Q
theorem wp_region_c {P : Program} {id : Nat} {ops : List Oper} {Q : Exit -> Act -> World -> Prop} {a0 : Act} {w0 : World} (hm : P.follows .mixedOrders = true) (n : Nat) (hn : n < ops.length)
    (hB : factsB (ops.take n) a0.tmps.size = true) (hL : tailB ops n = true) (hE : earlyB 0 ops = true) (B : Nat) (_hB0 : B = w0.heap.size) (tbl : List (LastC B))
    (hop : eachOp (fun i o => ∀ a w, (∀ k, (∀ i, i < n -> dstOf ops i ≠ k) -> a.tmps.getD k undef = a0.tmps.getD k undef) -> Keep B w0 w -> (∀ j ∈ depsOf o, (tbl.getD j (LastC.val undef)).holds (valOf ops a j) w) -> DoesC B P ops Q o a w (tbl.getD i (LastC.val undef))) 0 (ops.take n))
    (hend : ∀ (vs : Nat -> Value) w, Keep B w0 w -> (∀ i, i < n -> (tbl.getD i (LastC.val undef)).holds (vs i) w) -> wpList P ops.toArray Q (ops.drop n) (putOps (ops.take n) 0 vs a0) w) : (Code.region id ops.toArray true).wp P Q a0 w0 := by
  simp only [factsB, Bool.and_eq_true, List.all_eq_true, decide_eq_true_eq] at hB
  obtain ⟨⟨⟨_, hsome⟩, hnd⟩, hrange⟩ := hB
  have htl : (ops.take n).length = n := by rw [List.length_take]; omega
  rw [htl] at hrange
  have hget : ∀ i, i < n -> (ops.take n)[i]? = ops[i]? := fun i hi => by rw [List.getElem?_take, if_pos hi]
  have hdstE : ∀ i, i < n -> dstOf (ops.take n) i = dstOf ops i := fun i hi => by unfold dstOf; rw [hget i hi]
  have hdst : ∀ (i : Nat) o, i < n -> ops[i]? = some o -> o.dst = some (dstOf ops i) := fun i o hi ho => by
    have hs := hsome o (List.mem_of_getElem? (by rw [hget i hi]; exact ho))
    obtain ⟨d, hd⟩ := Option.isSome_iff_exists.1 hs
    unfold dstOf; rw [ho]; simp [hd]
  have hlt : ∀ i, i < n -> dstOf ops i < a0.tmps.size := fun i hi => by
    rw [<- hdstE i hi]; simpa using hrange i (by simpa using hi)
  have hat : ∀ i, i < n -> ∃ o, ops[i]? = some o := fun i hi => ⟨ops[i], List.getElem?_eq_getElem (by omega)⟩
  have hapart : ∀ i j, i < n -> j < n -> dstOf ops i = dstOf ops j -> i = j := fun i j hi hj e => by
    obtain ⟨oi, ei⟩ := hat i hi
    obtain ⟨oj, ej⟩ := hat j hj
    have e1 := hdst i oi hi ei
    have e2 := hdst j oj hj ej
    have hp := List.pairwise_iff_getElem.1 hnd
    have hi' : i < ((ops.take n).map (·.dst)).length := by simp; omega
    have hj' : j < ((ops.take n).map (·.dst)).length := by simp; omega
    have q1 : ops[i]'(by omega) = oi := (List.getElem?_eq_some_iff.1 ei).2
    have q2 : ops[j]'(by omega) = oj := (List.getElem?_eq_some_iff.1 ej).2
    rcases Nat.lt_trichotomy i j with q | q | q
    . exact absurd (by simp [q1, q2, e1, e2, e]) (hp i j hi' hj' q)
    . exact q
    . exact absurd (by simp [q1, q2, e1, e2, e]) (hp j i hj' hi' q)
  have hanc : ∀ i, n <= i -> i < ops.length -> ∀ j, j < i -> ancB ops ops.length j i = true := fun i h1 h2 j h3 => by
    unfold tailB at hL
    rw [List.all_eq_true] at hL
    have h := hL i (by simpa using h2)
    simp only [Bool.or_eq_true, decide_eq_true_eq, List.all_eq_true] at h
    rcases h with q | q
    . omega
    . exact q j (by simpa using h3)
  refine wp_region_inv hm (fun l a w => (l.getD n true = false /\ a.defers = a0.defers /\ a.tmps.size = a0.tmps.size /\ (∀ k, (∀ i, i < n -> dstOf ops i ≠ k) -> a.tmps[k]? = a0.tmps[k]?) /\ Keep B w0 w /\ ∀ i, i < n -> l.getD i true = true -> (tbl.getD i (LastC.val undef)).holds (valOf ops a i) w) \/
      ∃ t, n < t /\ t <= ops.length /\ (∀ i, i < t -> l.getD i true = true) /\ (∀ i, t <= i -> i < ops.length -> l.getD i true = false) /\ wpList P ops.toArray Q (ops.drop t) a w)
    (.inl ⟨by simp [Array.getD, hn], rfl, rfl, fun _ _ => rfl, ⟨(Below.refl _ _).drew, fun _ _ h => h⟩, fun i hi h => by simp [Array.getD, Nat.lt_trans hi hn] at h⟩) ?_
  intro l a w hl hc hj
  have hlen : l.size = ops.length := by simpa using hl
  have hto : ∀ i, i < ops.length -> l.getD i false = true -> l.getD i true = true := fun i hi h => by
    simp [Array.getD, hlen, hi] at h ⊢; exact h
  have hfr : ∀ i, i < ops.length -> l.getD i true = false -> l.getD i false = false := fun i hi h => by
    simp [Array.getD, hlen, hi] at h ⊢; exact h
  have hin : ∀ i, l.getD i true = false -> i < ops.length := fun i h => by
    rcases Nat.lt_or_ge i l.size with q | q
    . omega
    . simp [Array.getD, Nat.not_lt.mpr q] at h
  have hne : (∃ i, l.getD i true = false) -> Region.ready .any ops.toArray l ≠ [] := fun hex => by
    have hmin : ∃ i, l.getD i true = false /\ ∀ j, j < i -> l.getD j true = true := by
      obtain ⟨i, hi⟩ := hex
      induction i using Nat.strongRecOn with
      | _ i ih =>
        rcases Classical.em (∃ j, j < i /\ l.getD j true = false) with ⟨j, hji, hj⟩ | q
        . exact ih j hji hj
        . refine ⟨i, hi, fun j hj => ?_⟩
          cases h : l.getD j true with
          | true => rfl
          | false => exact absurd ⟨j, hj, h⟩ q
    obtain ⟨i, hi, hj⟩ := hmin
    have hil := hin i hi
    refine List.ne_nil_of_mem (a := i) (mem_ready.2 ⟨hi, ops[i], by simp [hil], fun e he hb => ?_⟩)
    have hdep : e.on ∈ depsOf ops[i] := List.mem_map.2 ⟨e, List.mem_filter.2 ⟨by simpa using he, hb⟩, rfl⟩
    have h1 := earlyB_get ops 0 i ops[i] hE (List.getElem?_eq_getElem hil) e.on hdep
    have h2 := hj e.on (by omega)
    have h3 : e.on < l.size := by omega
    simp [Array.getD, h3] at h2 ⊢
    exact h2
  have hready : ∀ i ∈ Region.ready .any ops.toArray l, ∃ o, ops[i]? = some o /\ l.getD i true = false /\ ∀ j ∈ depsOf o, l.getD j false = true := fun i hi => by
    obtain ⟨hu, o, ho, hdeps⟩ := mem_ready.1 hi
    refine ⟨o, by simpa using ho, hu, fun j hj => ?_⟩
    obtain ⟨e, he, q⟩ := List.mem_map.1 hj
    obtain ⟨he1, he2⟩ := List.mem_filter.1 he
    subst q
    exact hdeps e (by simpa using he1) he2
  have hset : ∀ i, l.getD i true = false -> ∀ j, (l.setIfInBounds i true).getD j true = if i = j then true else l.getD j true := fun i hi j => by
    by_cases h : i = j
    . subst h; rw [if_pos rfl]; simp [Array.getD, hlen, hin i hi]
    . rw [if_neg h, getD_set_ne true h]
  rcases hj with ⟨hln, j1, j2, j3, j4, j5⟩ | ⟨t, ht1, ht2, ht3, ht4, hwp⟩
  . right
    refine ⟨hne ⟨n, hln⟩, ?_⟩
    intro i hi
    obtain ⟨o, ho', hu, hdeps'⟩ := hready i hi
    have hil := hin i hu
    rcases Nat.lt_trichotomy i n with hi' | hi' | hi'
    . have hx := eachOp_get (ops.take n) 0 i o hop (by rw [hget i hi']; exact ho') a w (fun k hk => by
        have := j3 k hk
        rw [Array.getD_eq_getD_getElem?, Array.getD_eq_getD_getElem?, this]) j4 (fun j hj => by
          have hjn : j < n := by
            have := earlyB_get ops 0 i o hE ho' j hj
            omega
          exact j5 j hjn (hto j (by omega) (hdeps' j hj)))
      rw [Nat.zero_add] at hx
      obtain ⟨hw, hx⟩ := hx
      unfold wpOp
      rw [show ops.toArray[i]? = some o by simpa using ho']
      show if Region.wanted o (yielded ops.toArray a.tmps) = true then _ else _
      rw [if_pos hw]
      refine .inl (hx _ (fun v w' hb hf => .inl ?_))
      have hd := hdst i o hi' ho'
      have hdl' := hlt i hi'
      rw [getD_set_ne true (show i ≠ n by omega)]
      refine ⟨hln, by rw [put_defers']; exact j1, by rw [put_size]; exact j2, fun k hk => ?_, ⟨j4.below.trans hb.below, fun a v h => hb.cell a v (j4.cell a v h)⟩, fun j hj hlj => ?_⟩
      . rw [hd]
        show (a.tmps.setIfInBounds _ v)[k]? = _
        rw [Array.getElem?_setIfInBounds_ne (hk i hi')]
        exact j3 k hk
      . by_cases hji : i = j
        . subst hji
          have : valOf ops (a.put o.dst v) i = v := by
            unfold valOf
            rw [hd]
            show (a.tmps.setIfInBounds (dstOf ops i) v).getD (dstOf ops i) undef = v
            have h1 : dstOf ops i < a.tmps.size := by rw [j2]; exact hdl'
            simp [Array.getD, h1]
          rw [this]; exact hf
        . have e : valOf ops (a.put o.dst v) j = valOf ops a j := by
            unfold valOf
            rw [hd]
            show (a.tmps.setIfInBounds (dstOf ops i) v).getD (dstOf ops j) undef = _
            have hne : dstOf ops i ≠ dstOf ops j := fun q => hji (hapart i j hi' hj q)
            rw [Array.getD_eq_getD_getElem?, Array.getD_eq_getD_getElem?, Array.getElem?_setIfInBounds_ne hne]
          rw [e]
          rw [getD_set_ne true hji] at hlj
          exact LastC.later _ (j5 j hj hlj) hb
    . subst hi'
      have hall : ∀ j, j < i -> l.getD j true = true := fun j hj => hto j (by omega) (anc_listed hc hlen _ j i o ho' hdeps' (hanc i (Nat.le_refl _) hil j hj))
      have e := putOps_eq a (ops.take i) 0 (fun i => valOf ops a i) a0 j1.symm j2.symm (fun k hk => (j3 k (fun m hm q => by
        obtain ⟨om, em⟩ := hat m hm
        exact hk om (List.mem_of_getElem? (by rw [hget m hm]; exact em)) (by rw [hdst m om hm em, q]))).symm) (fun j o ho => by
        have hj : j < i := by
          have := (List.getElem?_eq_some_iff.1 ho).1
          omega
        rw [hget j hj] at ho
        refine ⟨_, hdst j o hj ho, ?_⟩
        have h1 : dstOf ops j < a.tmps.size := by rw [j2]; exact hlt j hj
        rw [Array.getElem?_eq_getElem h1, Nat.zero_add]
        unfold valOf
        simp [Array.getD, h1])
      have hx := hend (fun i => valOf ops a i) w j4 (fun j hj => j5 j hj (hall j hj))
      rw [e] at hx
      have hu' : ∀ m, i < m -> m < ops.length -> l.getD m true = false := fun m h1 h2 => by
        cases hm : l.getD m true with
        | false => rfl
        | true =>
          exfalso
          have hmo : ops[m]? = some ops[m] := List.getElem?_eq_getElem h2
          have := anc_listed hc hlen _ i m ops[m] hmo (fun k hk => by
            obtain ⟨x, hx, qe⟩ := List.mem_map.1 hk
            obtain ⟨hx1, hx2⟩ := List.mem_filter.1 hx
            have := hc m ops[m] (by simp [h2]) hm x (by simpa using hx1) hx2
            rw [qe] at this; exact this) (hanc m (by omega) h2 i h1)
          rw [hfr i hil hu] at this; cases this
      rw [List.drop_eq_getElem_cons hil] at hx
      have hoe : ops[i] = o := (List.getElem?_eq_some_iff.1 ho').2
      rw [hoe] at hx
      have key : wpOp P ops.toArray Q i (wpList P ops.toArray Q (ops.drop (i + 1))) a w := by
        unfold wpOp
        rw [show ops.toArray[i]? = some o by simpa using ho']
        exact hx
      refine wpOp_mono (fun a' w' hq => .inr ⟨i + 1, by omega, by omega, fun j hj => ?_, fun j h1 h2 => ?_, hq⟩) key
      . rw [hset i hu]
        split
        . rfl
        . exact hall j (by omega)
      . rw [hset i hu, if_neg (by omega)]
        exact hu' j (by omega) h2
    . exfalso
      have := anc_listed hc hlen _ n i o ho' hdeps' (hanc i (by omega) hil n hi')
      rw [hfr n hn hln] at this; cases this
  . by_cases hte : t = ops.length
    . left
      have hall : ∀ i, l.getD i true = true := fun i => by
        rcases Nat.lt_or_ge i ops.length with q | q
        . exact ht3 i (by omega)
        . simp [Array.getD, hlen, Nat.not_lt.mpr q]
      rw [rem_all hall]
      refine ⟨?_, ?_⟩
      . rw [List.eq_nil_iff_forall_not_mem]
        intro i hi
        have := (mem_ready.1 hi).1
        rw [hall i] at this; cases this
      . rw [hte, List.drop_length] at hwp
        exact hwp
    . right
      have htl' : t < ops.length := by omega
      refine ⟨hne ⟨t, ht4 t (Nat.le_refl _) htl'⟩, ?_⟩
      intro i hi
      obtain ⟨o, ho', hu, hdeps'⟩ := hready i hi
      have hil := hin i hu
      have hit : i = t := by
        rcases Nat.lt_trichotomy i t with q | q | q
        . rw [ht3 i q] at hu; cases hu
        . exact q
        . exfalso
          have := anc_listed hc hlen _ t i o ho' hdeps' (hanc i (by omega) hil t q)
          rw [hfr t htl' (ht4 t (Nat.le_refl _) htl')] at this; cases this
      subst hit
      rw [List.drop_eq_getElem_cons hil] at hwp
      have hoe : ops[i] = o := (List.getElem?_eq_some_iff.1 ho').2
      rw [hoe] at hwp
      have key : wpOp P ops.toArray Q i (wpList P ops.toArray Q (ops.drop (i + 1))) a w := by
        unfold wpOp
        rw [show ops.toArray[i]? = some o by simpa using ho']
        exact hwp
      refine wpOp_mono (fun a' w' hq => .inr ⟨i + 1, by omega, by omega, fun j hj => ?_, fun j h1 h2 => ?_, hq⟩) key
      . rw [hset i hu]
        split
        . rfl
        . exact ht3 j (by omega)
      . rw [hset i hu, if_neg (by omega)]
        exact ht4 j (by omega) h2
section
variable {B : Nat} {P : Program} {ops : List Oper} {Q : Exit -> Act -> World -> Prop} {o : Oper} {a : Act} {w : World} {f : LastC B}
theorem doesC_val {v : Value} (hw : Region.wanted o (yielded ops.toArray a.tmps) = true) (h : (execOp a.eval o).run P w = .ok (.value v) w) (hf : f.holds v w) : DoesC B P ops Q o a w f := by
  refine ⟨hw, fun K hK => ?_⟩
  unfold Oper.wp
  rw [h, Oper.upon_value]
  exact hK v w (Keep.refl _ _) hf
theorem doesC_wp (hB : B <= w.heap.size) (hw : Region.wanted o (yielded ops.toArray a.tmps) = true) (h : ∀ K : Act -> World -> Prop, (∀ v w', f.holds v w' -> Below w.heap.size w w' -> K (a.put o.dst v) w') -> o.wp P a w K Q) : DoesC B P ops Q o a w f :=
  ⟨hw, fun K hK => h K fun v w' hf hb => hK v w' (keep_below hb hB) hf⟩
theorem doesC_call (hB : B <= w.heap.size) {g : FuncId} {args : Array Value} (hw : Region.wanted o (yielded ops.toArray a.tmps) = true) (h : (execOp a.eval o).run P w = .ok (.enter g args) w) (hc : Calls P g args w fun e w' => ∃ v, e = .returned v /\ f.holds v w' /\ Below w.heap.size w w') : DoesC B P ops Q o a w f :=
  doesC_wp hB hw fun K hK => by
    unfold Oper.wp
    rw [h, Oper.upon_enter]
    refine hc.mono fun e w' hh => ?_
    obtain ⟨v, rfl, hf, hb⟩ := hh
    exact hK v w' hf hb
end
theorem Keep.rd {B : Nat} {w w' : World} {v : Value} {l : List Nat} (k : Keep B w w') (h : Rd w v l) : Rd w' v l := by
  refine ⟨h.byte, h.fits, ?_⟩
  rcases h.form with q | ⟨ad, cap, e, hc, hs⟩
  . exact .inl q
  . exact .inr ⟨ad, cap, e, hc, fun j hj => k.cell _ _ (hs j hj)⟩
theorem Keep.rds {B : Nat} {w w' : World} {v : Value} {ls : List (List Nat)} (k : Keep B w w') (h : Rds w v ls) : Rds w' v ls := by
  refine ⟨h.fits, ?_⟩
  rcases h.form with q | ⟨ad, cap, e, hc, hs⟩
  . exact .inl q
  . refine .inr ⟨ad, cap, e, hc, fun j l hj => ?_⟩
    obtain ⟨x, h1, h2⟩ := hs j l hj
    exact ⟨x, k.cell _ _ h1, k.rd h2⟩
def LastC.rd {B : Nat} (l : List Nat) : LastC B := ⟨fun v w => Rd w v l, fun h k => k.rd h⟩
def LastC.rds {B : Nat} (ls : List (List Nat)) : LastC B := ⟨fun v w => Rds w v ls, fun h k => k.rds h⟩
def Lit (B : Nat) (v : Value) (l : List Nat) (w : World) : Prop := ∃ b, v = .slice (some ⟨b, 0, none⟩) l.length l.length /\ B <= b /\ Rd w v l /\ b < w.heap.size
def LastC.lit {B : Nat} (l : List Nat) : LastC B := ⟨fun v w => Lit B v l w, fun ⟨b, e, hb, h, hl⟩ k => ⟨b, e, hb, k.rd h, Nat.lt_of_lt_of_le hl k.below.size⟩⟩
theorem keep_freeze {B : Nat} (w : World) (b k : Nat) (hb : B <= b) : Keep B w (w.freeze ⟨b, k, none⟩ 1) := by
  have hs : (w.freeze ⟨b, k, none⟩ 1).heap.size = w.heap.size := by unfold World.freeze; rw [if_neg (by decide)]; simp
  have hg : ∀ j, (w.freeze ⟨b, k, none⟩ 1).heap[j]? = if b = j then (w.heap[j]?).map (fun | .cells c e (lo, hi) => .cells c e (if lo == hi then (k, k + 1) else (min lo k, max hi (k + 1))) | o => o) else w.heap[j]? := fun j => by
    unfold World.freeze
    rw [if_neg (by decide)]
    show (w.heap.modify b _)[j]? = _
    rw [Array.getElem?_modify]
    split
    . rfl
    . rfl
  refine ⟨⟨by unfold World.freeze; rw [if_neg (by decide)], by unfold World.freeze; rw [if_neg (by decide)], by unfold World.freeze; rw [if_neg (by decide)], Nat.le_of_eq hs.symm, fun j hj => by rw [hg j, if_neg (by omega)]⟩, fun a v hc => ?_⟩
  unfold World.cell? at hc ⊢
  rw [hg a.block]
  by_cases e : b = a.block
  . rw [if_pos e]
    cases q : w.heap[a.block]? with
    | none => rw [q] at hc; cases hc
    | some o =>
      rw [q] at hc
      cases o with
      | cells c t m => obtain ⟨lo, hi⟩ := m; simpa using hc
      | _ => cases hc
  . rw [if_neg e]; exact hc
theorem doesC_mark {B : Nat} {ops : List Oper} {Q : Exit -> Act -> World -> Prop} {o : Oper} {a : Act} {w : World} (hw : Region.wanted o (yielded ops.toArray a.tmps) = true) (x : Operand) (ho : o.op = .convert 25 25 x) (l : List Nat) (hx : Lit B (a.eval x) l w) : DoesC B Tryd.prog ops Q o a w (.rd l) := by
  obtain ⟨b, e, hb, hr, hlt⟩ := hx
  rw [e] at hr
  refine ⟨hw, fun K hK => ?_⟩
  have key : ∃ w', (convert 25 25 (.slice (some ⟨b, 0, none⟩) l.length l.length)).run Tryd.prog w = .ok (.slice (some ⟨b, 0, none⟩) l.length l.length) w' /\ Keep B w w' := by
    cases hs : w.shape? b with
    | none => exact ⟨w, by simp [convert, run_underlying Tryd.underlying25, run_underlying Tryd.underlying5, markStringish, hs], Keep.refl _ _⟩
    | some p =>
      obtain ⟨t, n⟩ := p
      exact ⟨w.freeze ⟨b, n, none⟩ 1, by simp [convert, run_underlying Tryd.underlying25, run_underlying Tryd.underlying5, markStringish, hs], keep_freeze w b n hb⟩
  obtain ⟨w', hrun, hk⟩ := key
  unfold Oper.wp execOp
  simp only [ho, e, Sem.run_bind, hrun, Result.andThen_ok, Sem.run_pure, Oper.upon_value]
  exact hK _ _ hk (hk.rd hr)
end Go.Proofs.YtflnodkajhokhaaDoor
end

section
namespace Go.Proofs.YtflnodkajhokhaaDoor
open Go.RowKit
inductive Fz where
  | pre (x : Value)
  | of (j : Nat) (f : Value -> Value -> Prop)
  | any
abbrev Told := Nat -> Option Value
def Told.set (r : Told) (i : Nat) (v : Value) : Told := fun j => if j = i then some v else r j
theorem Told.set_same (r : Told) (i : Nat) (v : Value) : r.set i v i = some v := if_pos rfl
theorem Told.set_ne {r : Told} {i j : Nat} {v : Value} (h : j ≠ i) : r.set i v j = r j := if_neg h
def Fz.holds : Fz -> Told -> Value -> Prop
  | .pre x, _, v => v = x
  | .of j f, r, v => ∃ u, r j = some u /\ f u v
  | .any, _, _ => True
theorem Fz.last {f : Fz} {r : Told} {i : Nat} {u v : Value} (hi : r i = none) (h : f.holds r v) : f.holds (r.set i u) v := by
  cases f with
  | pre x => exact h
  | of j g =>
    obtain ⟨z, e, hg⟩ := h
    refine ⟨z, ?_, hg⟩
    rw [Told.set_ne (fun q => by rw [q, hi] at e; cases e)]; exact e
  | any => trivial
def factsZ (ops : List Oper) (S : List Nat) (n : Nat) : Bool := (List.range ops.length).all (fun i => match dstQ ops i with | none => S.contains i | some d => decide (d < n)) && (List.range ops.length).all (fun i => (List.range ops.length).all fun j => decide (i = j) || decide (dstQ ops i = none) || decide (dstQ ops i ≠ dstQ ops j)) && S.all (· < ops.length)
theorem any_z {P : Program} {ops : List Oper} {Q : Exit -> Act -> World -> Prop} {a0 : Act} {w0 : World} (S : List Nat) (hE : earlyB 0 ops = true) (hB : factsZ ops S a0.tmps.size = true)
    (I : Told -> World -> Prop) (tbl : List Fz) (hT : ∀ i ∈ S, dstQ ops i = none -> tbl.getD i .any = .any) (hI0 : I (fun _ => none) w0.drew)
    (hop : eachOp (fun i o => ∀ a w r, (∀ k, (∀ i, i < ops.length -> dstQ ops i ≠ some k) -> a.tmps.getD k undef = a0.tmps.getD k undef) -> I r w -> (∀ j, j ∉ S -> r j = none) -> r i = none -> (∀ j ∈ S, ancB ops ops.length i j = true -> r j = none) -> (∀ j ∈ S, ancB ops ops.length j i = true -> ∃ u, r j = some u) -> (∀ j ∈ depsOf o, (tbl.getD j .any).holds r (valOf ops a j)) ->
      DoesK P ops Q o a w (fun v w' => I (if i ∈ S then r.set i v else r) w' /\ (tbl.getD i .any).holds (if i ∈ S then r.set i v else r) v)) 0 ops)
    (hend : ∀ (vs : Nat -> Value) r w, I r w -> (∀ j ∈ S, ∃ u, r j = some u) -> (∀ i, i < ops.length -> (tbl.getD i .any).holds r (vs i)) -> Q .normal (putOps ops 0 vs a0) w) : RegAny P ops.toArray Q a0 w0 := by
  simp only [factsZ, Bool.and_eq_true, List.all_eq_true, List.mem_range] at hB
  obtain ⟨⟨hB1, hB2⟩, hB3⟩ := hB
  have hq : ∀ (i : Nat) o, ops[i]? = some o -> dstQ ops i = o.dst := fun i o ho => by unfold dstQ; rw [ho]; rfl
  have hdst : ∀ (i : Nat) o d, ops[i]? = some o -> o.dst = some d -> dstOf ops i = d /\ d < a0.tmps.size := fun i o d ho hd => by
    have h := hB1 i (List.getElem?_eq_some_iff.1 ho).1
    rw [hq i o ho, hd] at h
    simp only [decide_eq_true_eq] at h
    exact ⟨by unfold dstOf; rw [ho]; simp [hd], h⟩
  have hnone : ∀ (i : Nat) o, ops[i]? = some o -> o.dst = none -> i ∈ S := fun i o ho hd => by
    have h := hB1 i (List.getElem?_eq_some_iff.1 ho).1
    rw [hq i o ho, hd] at h
    simpa using h
  have hS : ∀ j ∈ S, j < ops.length := fun j hj => by simpa using hB3 j hj
  have hapart : ∀ i j d, i < ops.length -> j < ops.length -> dstQ ops i = some d -> dstQ ops j = some d -> i = j := fun i j d hi hj e1 e2 => by
    have h := hB2 i hi j hj
    simp only [Bool.or_eq_true, decide_eq_true_eq] at h
    rcases h with (h | h) | h
    . exact h
    . rw [e1] at h; cases h
    . exact absurd (e1.trans e2.symm) h
  refine any_inv (fun l a w => a.defers = a0.defers /\ a.tmps.size = a0.tmps.size /\ (∀ k, (∀ i, i < ops.length -> dstQ ops i ≠ some k) -> a.tmps[k]? = a0.tmps[k]?) /\ ∃ r : Told, (∀ j, j ∉ S -> r j = none) /\ (∀ j ∈ S, l.getD j true = false -> r j = none) /\ (∀ j ∈ S, l.getD j true = true -> ∃ u, r j = some u) /\ I r w /\ ∀ i, i < ops.length -> l.getD i true = true -> (tbl.getD i .any).holds r (valOf ops a i))
    ⟨rfl, rfl, fun _ _ => rfl, fun _ => none, fun _ _ => rfl, fun _ _ _ => rfl, fun j hj h => by simp [Array.getD, hS j hj] at h, hI0, fun i hi h => by simp [Array.getD, hi] at h⟩ ?_
  intro l a w hl hc ⟨j1, j2, j3, r, j4, j5, j6, jI, j7⟩
  have hlen : l.size = ops.length := by simpa using hl
  by_cases hall : ∀ i, l.getD i true = true
  . left
    rw [rem_all hall]
    refine ⟨?_, ?_⟩
    . rw [List.eq_nil_iff_forall_not_mem]
      intro i hi
      have := (mem_ready.1 hi).1
      rw [hall i] at this; cases this
    . have e := putOps_eqS a ops 0 (fun i => valOf ops a i) a0 j1.symm j2.symm (fun k hk => (j3 k (fun i hi q => hk ops[i] (List.getElem_mem hi) (by rw [<- hq i ops[i] (List.getElem?_eq_getElem hi)]; exact q))).symm) (fun j o d ho hd => by
        obtain ⟨h1, h2⟩ := hdst j o d ho hd
        have h3 : d < a.tmps.size := by rw [j2]; exact h2
        rw [Array.getElem?_eq_getElem h3, Nat.zero_add]
        unfold valOf
        rw [h1]
        simp [Array.getD, h3])
      rw [<- e]
      exact hend _ r w jI (fun j hj => j6 j hj (hall j)) (fun i hi => j7 i hi (hall i))
  . right
    have hex : ∃ i, l.getD i true = false := by
      rcases Classical.em (∃ i, l.getD i true = false) with q | q
      . exact q
      . exact absurd (fun i => by
          cases h : l.getD i true with
          | true => rfl
          | false => exact absurd ⟨i, h⟩ q) hall
    have hmin : ∃ i, l.getD i true = false /\ ∀ j, j < i -> l.getD j true = true := by
      obtain ⟨i, hi⟩ := hex
      induction i using Nat.strongRecOn with
      | _ i ih =>
        rcases Classical.em (∃ j, j < i /\ l.getD j true = false) with ⟨j, hji, hj⟩ | q
        . exact ih j hji hj
        . refine ⟨i, hi, fun j hj => ?_⟩
          cases h : l.getD j true with
          | true => rfl
          | false => exact absurd ⟨j, hj, h⟩ q
    have hin : ∀ i, l.getD i true = false -> i < ops.length := fun i h => by
      rcases Nat.lt_or_ge i l.size with q | q
      . omega
      . simp [Array.getD, Nat.not_lt.mpr q] at h
    refine ⟨?_, ?_⟩
    . obtain ⟨i, hi, hj⟩ := hmin
      have hil := hin i hi
      refine List.ne_nil_of_mem (a := i) (mem_ready.2 ⟨hi, ops[i], by simp [hil], fun e he hb => ?_⟩)
      have hdep : e.on ∈ depsOf ops[i] := List.mem_map.2 ⟨e, List.mem_filter.2 ⟨by simpa using he, hb⟩, rfl⟩
      have h1 := earlyB_get ops 0 i ops[i] hE (List.getElem?_eq_getElem hil) e.on hdep
      have h2 := hj e.on (by omega)
      have h3 : e.on < l.size := by omega
      simp [Array.getD, h3] at h2 ⊢
      exact h2
    . intro i hi
      obtain ⟨hu, o, ho, hdeps⟩ := mem_ready.1 hi
      have ho' : ops[i]? = some o := by simpa using ho
      have hil : i < ops.length := (List.getElem?_eq_some_iff.1 ho').1
      have hin2 : ∀ j, j < ops.length -> l.getD j false = l.getD j true := fun j hj => by simp [Array.getD, hlen, hj]
      have hri : r i = none := by
        by_cases hiS : i ∈ S
        . exact j5 i hiS hu
        . exact j4 i hiS
      have hx := eachOp_get ops 0 i o hop ho' a w r (fun k hk => by
        have := j3 k hk
        rw [Array.getD_eq_getD_getElem?, Array.getD_eq_getD_getElem?, this]) jI j4 (by rw [Nat.zero_add]; exact hri) (fun j hj ha => by
          rw [Nat.zero_add] at ha
          cases hlj : l.getD j true with
          | false => exact j5 j hj hlj
          | true =>
            have hjl := hS j hj
            have h1 := anc_listed hc hlen _ i j ops[j] (List.getElem?_eq_getElem hjl) (fun k hk => by
              obtain ⟨x, hx, qe⟩ := List.mem_map.1 hk
              obtain ⟨hx1, hx2⟩ := List.mem_filter.1 hx
              have := hc j ops[j] (by simp [hjl]) hlj x (by simpa using hx1) hx2
              rw [qe] at this; exact this) ha
            rw [hin2 i hil, hu] at h1; cases h1) (fun j hj ha => by
          rw [Nat.zero_add] at ha
          refine j6 j hj ?_
          have h1 := anc_listed hc hlen _ j i o ho' (fun k hk => by
            obtain ⟨x, hx, qe⟩ := List.mem_map.1 hk
            obtain ⟨hx1, hx2⟩ := List.mem_filter.1 hx
            rw [<- qe]; exact hdeps x (by simpa using hx1) hx2) ha
          rw [hin2 j (hS j hj)] at h1; exact h1) (fun j hj => by
          obtain ⟨e, he, q⟩ := List.mem_map.1 hj
          obtain ⟨he1, he2⟩ := List.mem_filter.1 he
          subst q
          have h1 := hdeps e (by simpa using he1) he2
          have h3 : e.on < l.size := by
            rcases Nat.lt_or_ge e.on l.size with z | z
            . exact z
            . simp [Array.getD, Nat.not_lt.mpr z] at h1
          exact j7 e.on (by omega) (by simp [Array.getD, h3] at h1 ⊢; exact h1))
      rw [Nat.zero_add] at hx
      obtain ⟨hw, hx⟩ := hx
      unfold wpOp
      rw [ho]
      show if Region.wanted o (yielded ops.toArray a.tmps) = true then _ else _
      rw [if_pos hw]
      refine .inl (hx _ (fun v w' ⟨hI, hf⟩ => ?_))
      obtain ⟨r', hr'⟩ : ∃ r', r' = (if i ∈ S then r.set i v else r) := ⟨_, rfl⟩
      rw [<- hr'] at hI hf
      have hro : ∀ j, j ≠ i -> r' j = r j := fun j hj => by
        rw [hr']; split
        . exact Told.set_ne hj
        . rfl
      refine ⟨by rw [put_defers']; exact j1, by rw [put_size]; exact j2, fun k hk => ?_, r', fun j hj => ?_, fun j hj hlj => ?_, fun j hj hlj => ?_, hI, fun j hj hlj => ?_⟩
      . cases hd : o.dst with
        | none => exact j3 k hk
        | some d =>
          show (a.tmps.setIfInBounds d v)[k]? = _
          rw [Array.getElem?_setIfInBounds_ne (fun e => hk i hil (by rw [hq i o ho', hd, e]))]
          exact j3 k hk
      . by_cases hji : j = i
        . subst hji; rw [hr', if_neg hj]; exact hri
        . rw [hro j hji]; exact j4 j hj
      . by_cases hji : i = j
        . subst hji
          simp [Array.getD] at hlj
        . rw [hro j (fun e => hji e.symm)]
          rw [getD_set_ne true hji] at hlj
          exact j5 j hj hlj
      . by_cases hji : i = j
        . subst hji
          rw [hr', if_pos hj]
          exact ⟨v, Told.set_same _ _ _⟩
        . rw [hro j (fun e => hji e.symm)]
          rw [getD_set_ne true hji] at hlj
          exact j6 j hj hlj
      . by_cases hji : i = j
        . subst hji
          cases hd : o.dst with
          | none =>
            rw [hT i (hnone i o ho' hd) (by rw [hq i o ho', hd])]
            trivial
          | some d =>
            obtain ⟨h1, h2⟩ := hdst i o d ho' hd
            have : valOf ops (a.put (some d) v) i = v := by
              unfold valOf
              rw [h1]
              show (a.tmps.setIfInBounds d v).getD d undef = v
              have h3 : d < a.tmps.size := by rw [j2]; exact h2
              simp [Array.getD, h3]
            rw [this]; exact hf
        . rw [getD_set_ne true hji] at hlj
          have h5 := j7 j hj hlj
          have h6 : (tbl.getD j .any).holds r' (valOf ops a j) := by
            rw [hr']; split
            . exact Fz.last hri h5
            . exact h5
          cases hd : o.dst with
          | none => exact h6
          | some d =>
            have hoj : ops[j]? = some ops[j] := List.getElem?_eq_getElem hj
            cases hdj : (ops[j]).dst with
            | none =>
              rw [hT j (hnone j _ hoj hdj) (by rw [hq j _ hoj, hdj])]
              trivial
            | some d' =>
              obtain ⟨h1, _⟩ := hdst j _ d' hoj hdj
              have hne : d ≠ d' := fun q => hji (hapart i j d hil hj (by rw [hq i o ho']; exact hd) (by rw [hq j _ hoj, hdj, q]))
              have e : valOf ops (a.put (some d) v) j = valOf ops a j := by
                unfold valOf
                rw [h1]
                show (a.tmps.setIfInBounds d v).getD d' undef = _
                rw [Array.getD_eq_getD_getElem?, Array.getD_eq_getD_getElem?, Array.getElem?_setIfInBounds_ne hne]
              rw [e]; exact h6
theorem wp_region_z {P : Program} {id : Nat} {ops : List Oper} {Q : Exit -> Act -> World -> Prop} {a0 : Act} {w0 : World} (hm : P.follows .mixedOrders = true) (S : List Nat) (hE : earlyB 0 ops = true) (hB : factsZ ops S a0.tmps.size = true)
    (I : Told -> World -> Prop) (tbl : List Fz) (hT : ∀ i ∈ S, dstQ ops i = none -> tbl.getD i .any = .any) (hI0 : I (fun _ => none) w0.drew)
    (hop : eachOp (fun i o => ∀ a w r, (∀ k, (∀ i, i < ops.length -> dstQ ops i ≠ some k) -> a.tmps.getD k undef = a0.tmps.getD k undef) -> I r w -> (∀ j, j ∉ S -> r j = none) -> r i = none -> (∀ j ∈ S, ancB ops ops.length i j = true -> r j = none) -> (∀ j ∈ S, ancB ops ops.length j i = true -> ∃ u, r j = some u) -> (∀ j ∈ depsOf o, (tbl.getD j .any).holds r (valOf ops a j)) ->
      DoesK P ops Q o a w (fun v w' => I (if i ∈ S then r.set i v else r) w' /\ (tbl.getD i .any).holds (if i ∈ S then r.set i v else r) v)) 0 ops)
    (hend : ∀ (vs : Nat -> Value) r w, I r w -> (∀ j ∈ S, ∃ u, r j = some u) -> (∀ i, i < ops.length -> (tbl.getD i .any).holds r (vs i)) -> Q .normal (putOps ops 0 vs a0) w) : (Code.region id ops.toArray true).wp P Q a0 w0 :=
  wp_region_any hm (any_z S hE hB I tbl hT hI0 hop hend)
section
variable {P : Program} {ops : List Oper} {Q : Exit -> Act -> World -> Prop} {o : Oper} {a : Act} {w : World} {I : Told -> World -> Prop} {tbl : List Fz} {r : Told} {i : Nat} {S : List Nat}
theorem doesZ_read {v : Value} (hi : i ∉ S) (hw : Region.wanted o (yielded ops.toArray a.tmps) = true) (h : (execOp a.eval o).run P w = .ok (.value v) w) (hI : I r w) (hf : (tbl.getD i .any).holds r v) :
    DoesK P ops Q o a w (fun v w' => I (if i ∈ S then r.set i v else r) w' /\ (tbl.getD i .any).holds (if i ∈ S then r.set i v else r) v) := by
  simp only [if_neg hi]
  exact doesK_val hw h ⟨hI, hf⟩
theorem doesZ_call {fn : FuncId} {args : Array Value} (hi : i ∈ S) (hw : Region.wanted o (yielded ops.toArray a.tmps) = true) (h : (execOp a.eval o).run P w = .ok (.enter fn args) w) (hc : Calls P fn args w fun e w' => ∃ v, e = .returned v /\ I (r.set i v) w' /\ (tbl.getD i .any).holds (r.set i v) v) :
    DoesK P ops Q o a w (fun v w' => I (if i ∈ S then r.set i v else r) w' /\ (tbl.getD i .any).holds (if i ∈ S then r.set i v else r) v) := by
  simp only [if_pos hi]
  exact doesK_call hw h hc
theorem doesZ_turn (hi : i ∈ S) (hw : Region.wanted o (yielded ops.toArray a.tmps) = true) (h : ∀ K : Act -> World -> Prop, (∀ v w', I (r.set i v) w' -> (tbl.getD i .any).holds (r.set i v) v -> K (a.put o.dst v) w') -> o.wp P a w K Q) :
    DoesK P ops Q o a w (fun v w' => I (if i ∈ S then r.set i v else r) w' /\ (tbl.getD i .any).holds (if i ∈ S then r.set i v else r) v) := by
  simp only [if_pos hi]
  exact ⟨hw, fun K hK => h K fun v w' h1 h2 => hK v w' ⟨h1, h2⟩⟩
theorem run_store_one (w : World) (b k : Nat) (ty : TypeId) (u : Value) (hc : u.cells = #[u]) (ht : w.there b k 1) (hi : (P.info? ty).map (·.size) = some 1) (h1 : u.oneCell' = true) : (Instr.storeAt ty (.pointer (some ⟨b, k, none⟩)) u).run P w = .ok () (w.setCell ⟨b, k, none⟩ u) := by
  have := run_storeVar_mid (P := P) w b k ty #[u] (by simpa using ht) (by simpa using hi) (by simpa using h1)
  simp only [Instr.storeAt, Instr.sureAddr, Sem.run_bind, Sem.run_pure, Result.andThen_ok]
  unfold storeVar at this ⊢
  rw [hc]
  exact this
theorem doesZ_store (hi : i ∈ S) (hw : Region.wanted o (yielded ops.toArray a.tmps) = true) (ty : TypeId) (p x : Operand) (ho : o.op = .store ty p x) (b k : Nat) (hp : a.eval p = .pointer (some ⟨b, k, none⟩)) (u : Value) (hx : a.eval x = u) (hc : u.cells = #[u]) (h1 : u.oneCell' = true) (t : TypeId) (cs : List Value) (hb : Blk w b t cs) (hk : k < cs.length)
    (hz : (P.info? ty).map (·.size) = some 1) (hT : tbl.getD i .any = .any) (hI : ∀ v, I (r.set i v) (w.setCell ⟨b, k, none⟩ u)) :
    DoesK P ops Q o a w (fun v w' => I (if i ∈ S then r.set i v else r) w' /\ (tbl.getD i .any).holds (if i ∈ S then r.set i v else r) v) := by
  refine doesZ_turn hi hw fun K hK => ?_
  have hr := run_store_one (P := P) w b k ty u hc (there_part hb k 1 (by omega)) hz h1
  unfold Oper.wp execOp
  simp only [ho, hp, hx, Sem.run_bind, hr, Result.andThen_ok, Sem.run_pure]
  exact hK _ _ (hI _) (by rw [hT]; trivial)
end
end Go.Proofs.YtflnodkajhokhaaDoor
namespace Go.Proofs.YtflnodkajhokhaaDoor
open Go.RowKit
def Stg (S : List Nat) (A : Nat -> Told -> World -> Prop) (r : Told) (w : World) : Prop :=
  ∃ k, k <= S.length /\ (∀ j, j < k -> r (S.getD j 0) ≠ none) /\ (∀ j, k <= j -> j < S.length -> r (S.getD j 0) = none) /\ A k r w
theorem Stg.zero {S : List Nat} {A : Nat -> Told -> World -> Prop} {w : World} (h : A 0 (fun _ => none) w) : Stg S A (fun _ => none) w :=
  ⟨0, Nat.zero_le _, fun _ hj => absurd hj (Nat.not_lt_zero _), fun _ _ _ => rfl, h⟩
theorem Stg.between {S : List Nat} {A : Nat -> Told -> World -> Prop} {r : Told} {w : World} (h : Stg S A r w) (lo hi : Nat) (hl : lo = 0 \/ lo - 1 < S.length /\ ∃ u, r (S.getD (lo - 1) 0) = some u) (hh : hi = S.length \/ hi < S.length /\ r (S.getD hi 0) = none) : ∃ k, lo <= k /\ k <= hi /\ A k r w := by
  obtain ⟨k, hk, h1, h2, hA⟩ := h
  refine ⟨k, ?_, ?_, hA⟩
  . rcases hl with q | ⟨q, u, hu⟩
    . omega
    . rcases Nat.lt_or_ge k lo with z | z
      . have := h2 (lo - 1) (by omega) q
        rw [hu] at this; cases this
      . exact z
  . rcases hh with q | ⟨q, hn⟩
    . omega
    . rcases Nat.lt_or_ge hi k with z | z
      . exact absurd hn (h1 hi z)
      . exact z
theorem Stg.at_ {S : List Nat} {A : Nat -> Told -> World -> Prop} {r : Told} {w : World} (h : Stg S A r w) (k : Nat) (hl : k = 0 \/ k - 1 < S.length /\ ∃ u, r (S.getD (k - 1) 0) = some u) (hh : k = S.length \/ k < S.length /\ r (S.getD k 0) = none) : A k r w := by
  obtain ⟨j, h1, h2, hA⟩ := h.between k k hl hh
  obtain rfl : j = k := by omega
  exact hA
theorem Stg.next {S : List Nat} {A : Nat -> Told -> World -> Prop} {r : Told} {w w' : World} (h : Stg S A r w) (k i : Nat) (v : Value) (hi : S.getD k 0 = i) (hk : k < S.length) (hl : k = 0 \/ k - 1 < S.length /\ ∃ u, r (S.getD (k - 1) 0) = some u) (hr : r i = none) (hS : ∀ j, j < S.length -> k < j -> S.getD j 0 ≠ i) (hA : A (k + 1) (r.set i v) w') : Stg S A (r.set i v) w' := by
  obtain ⟨j, _, h1, h2, _⟩ := h
  have hj : k <= j := by
    rcases hl with q | ⟨q, u, hu⟩
    . omega
    . rcases Nat.lt_or_ge j k with z | z
      . have := h2 (k - 1) (by omega) q
        rw [hu] at this; cases this
      . exact z
  refine ⟨k + 1, hk, fun m hm => ?_, fun m hm hml => ?_, hA⟩
  . by_cases e : S.getD m 0 = i
    . rw [e, Told.set_same]; exact fun q => by cases q
    . rw [Told.set_ne e]
      refine h1 m ?_
      rcases Nat.lt_or_ge m k with z | z
      . omega
      . exact absurd (by rw [show m = k by omega]; exact hi) e
  . have hne := hS m hml (by omega)
    rw [Told.set_ne hne]
    refine h2 m ?_ hml
    rcases Nat.lt_or_ge k j with z | z
    . exact absurd (by rw [hi]; exact hr) (h1 k z)
    . omega
end Go.Proofs.YtflnodkajhokhaaDoor
end

section
namespace Go.Proofs.YtflnodkajhokhaaDoor
open Go.ChangeShapes Go.WideShapes Go.ChangeAt Go.RowKit
structure RdT (k : Nat) (w : World) (v : Value) (n : Nat) (cs : List Value) : Prop where
  len : cs.length = n * k
  form : (v = .slice none 0 0 /\ n = 0) \/ ∃ ad cap, v = .slice (some ad) n cap /\ n <= cap /\ ∀ j u, cs[j]? = some u -> w.cell? (ad.add j) = some u
theorem RdT.shape {k n : Nat} {w : World} {v : Value} {cs : List Value} (h : RdT k w v n cs) : ∃ ao cap, v = .slice ao n cap /\ n <= cap := by
  rcases h.form with ⟨e, q⟩ | ⟨ad, cap, e, hc, _⟩
  . subst q; exact ⟨none, 0, e, Nat.le_refl _⟩
  . exact ⟨some ad, cap, e, hc⟩
theorem owned_rd {w : World} {B k n : Nat} {e : TypeId} {v : Value} {cs : List Value} (h : w.ownsRow B e k v n cs) : RdT k w v n cs := by
  refine ⟨h.1, ?_⟩
  rcases h.2 with q | ⟨g, cap, cur, e, hB, hh, hc, _, hs, ht⟩
  . exact .inl q
  . refine .inr ⟨⟨g, 0, none⟩, cap, e, hc, fun j u hu => ?_⟩
    have e2 : (⟨g, 0, none⟩ : Addr).add j = ⟨g, j, none⟩ := by rw [Addr.add_lit, Nat.zero_add]
    rw [e2, cell_of_row w g j cur _ _ hh]
    rw [<- ht, List.getElem?_take] at hu
    split at hu
    . simpa using hu
    . cases hu
theorem owned_none (w : World) (B k : Nat) (e : TypeId) : w.ownsRow B e k (.slice none 0 0) 0 [] := ⟨by simp, .inl ⟨rfl, rfl⟩⟩
theorem owned_below {w w' : World} {B k n : Nat} {e : TypeId} {v : Value} {cs : List Value} (h : w.ownsRow B e k v n cs) (hb : Below w.heap.size w w') : w'.ownsRow B e k v n cs := World.ownsRow.kept h (grown_of_below hb none) (own_none v)
theorem run_appT {P : Program} (w : World) (st et ty : TypeId) (k bytes : Nat) (Z : List Value) (hst : P.underlying st = some (.slice et)) (hi : (P.info? et).map (fun i => (i.zero, i.size, i.bytes)) = some (some (.agg Z.toArray), k, bytes)) (hZ : Z.length = k) (hk : 0 < k) (hby : bytes <= 4096)
    (B : Nat) (v y : Value) (n m : Nat) (cs ds : List Value) (ho : w.ownsRow B et k v n cs) (hr : RdT k w y m ds) (h1 : ∀ u ∈ ds, u.oneCell' = true) (hn : n + m <= 34359738368) (hB : B <= w.heap.size) :
    ∃ v' w', (Builtin.append_ #[st, st] ty #[v, y]).run P w = .ok v' w' /\ w'.ownsRow B et k v' (n + m) (cs ++ ds) /\ w.grownBy w' v.ownBlock /\ (v'.ownBlock = v.ownBlock \/ v'.ownBlock = some w.heap.size) := by
  obtain ⟨i0, hi0, hz0, hz1, hz2⟩ := info_parts hi
  rcases hr.form with ⟨rfl, rfl⟩ | ⟨ad, cap, rfl, _, hs⟩
  . obtain rfl : ds = [] := by have := hr.len; rw [Nat.zero_mul] at this; exact List.length_eq_zero_iff.1 this
    exact ⟨v, w, run_append_owned_none (P := P) (w := w) B st ty et i0 k hst hi0 v _ _ ho, by rw [List.append_nil]; exact ho, World.grownBy.refl w _, .inl rfl⟩
  . obtain ⟨v', w', hrun, h2, h3, _, h5⟩ := run_append_own_at (P := P) w B st ty et i0 _ k bytes hst hi0 hz0 hz1 hz2 (by show Z.toArray.size = k; rw [List.size_toArray, hZ]) hk v n cs ho ad m cap ds hr.len hs h1 (by unfold maxLen; omega) (by have : (n + m) * bytes <= 34359738368 * 4096 := Nat.mul_le_mul hn hby; omega) hB
    exact ⟨v', w', hrun, h2, h3, h5⟩
section
variable {P : Program} {B : Nat} {ops : List Oper} {Q : Exit -> Act -> World -> Prop} {T : List (Pred B)} {U : Nat -> Nat} {i : Nat} {o : Oper} {a : Act} {w : World}
theorem run_oneT (w : World) (st et : TypeId) (k bytes : Nat) (Z L : List Value) (hst : P.underlying st = some (.slice et)) (hi : (P.info? et).map (fun i => (i.zero, i.size, i.bytes)) = some (some (.agg Z.toArray), k, bytes)) (hk0 : 0 < k) (hk1 : k <= 4096) (hL : L.length = k) :
    (Instr.buildSlice st 1 #[(0, .agg L.toArray)]).run P w = .ok (.slice (some ⟨w.heap.size, 0, none⟩) 1 1) (w.alloc (.cells L.toArray et)) := by
  obtain ⟨i0, hi0, hz0, hz1, _⟩ := info_parts hi
  refine run_buildSlice w st et 1 _ _ i0 _ hst hi0 hz0 (by rw [hz1]; omega) (by rw [hz1]; omega) ?_
  rw [hz1]
  obtain ⟨Y, hY⟩ : ∃ Y, Y = (Array.range (1 * k)).map ((Value.agg Z.toArray).cells[· % (Value.agg Z.toArray).cells.size]!) := ⟨_, rfl⟩
  rw [<- hY, show Y = Y.toList.toArray from (Array.toArray_toList).symm]
  exact fill_one _ k (by simp) Y.toList (by rw [hY]; simp) L hL
end
end Go.Proofs.YtflnodkajhokhaaDoor
namespace Go.Proofs.YtflnodkajhokhaaDoor
open Go.ChangeShapes Go.WideShapes Go.ChangeAt Go.RowKit
section
variable {ops : List Oper} {Q : Exit -> Act -> World -> Prop} {o : Oper} {a : Act} {w : World} {I : Told -> World -> Prop} {tbl : List Fz} {r : Told} {i : Nat} {S : List Nat}
theorem doesZ_one (hi : i ∈ S) (hw : Region.wanted o (yielded ops.toArray a.tmps) = true) (x : Operand) (st et : TypeId) (k bytes : Nat) (Z L : List Value) (ho : o.op = .buildSlice st 1 #[(0, x)]) (hst : Tryd.prog.underlying st = some (.slice et)) (hn : (Tryd.prog.info? et).map (fun i => (i.zero, i.size, i.bytes)) = some (some (.agg Z.toArray), k, bytes)) (hk0 : 0 < k) (hk1 : k <= 4096) (hL : L.length = k) (hx : a.eval x = .agg L.toArray)
    (h : I (r.set i (.slice (some ⟨w.heap.size, 0, none⟩) 1 1)) (w.alloc (.cells L.toArray et)) /\ (tbl.getD i .any).holds (r.set i (.slice (some ⟨w.heap.size, 0, none⟩) 1 1)) (.slice (some ⟨w.heap.size, 0, none⟩) 1 1)) :
    DoesK Tryd.prog ops Q o a w (fun v w' => I (if i ∈ S then r.set i v else r) w' /\ (tbl.getD i .any).holds (if i ∈ S then r.set i v else r) v) := by
  refine doesZ_turn hi hw fun K hK => ?_
  unfold Oper.wp execOp
  rw [ho]
  simp only [List.map_toArray, List.map_cons, List.map_nil, hx, Sem.run_bind, run_oneT w st et k bytes Z L hst hn hk0 hk1 hL, Result.andThen_ok, Sem.run_pure, Oper.upon_value]
  exact hK _ _ h.1 h.2
theorem doesZ_appT (hi : i ∈ S) (hw : Region.wanted o (yielded ops.toArray a.tmps) = true) (s x : Operand) (st et : TypeId) (k bytes : Nat) (Z : List Value) (ho : o.op = .call { callee := .builtin .append, args := #[s, x], argTypes := #[st, st] }) (hst : Tryd.prog.underlying st = some (.slice et)) (hinf : (Tryd.prog.info? et).map (fun i => (i.zero, i.size, i.bytes)) = some (some (.agg Z.toArray), k, bytes)) (hZ : Z.length = k) (hk0 : 0 < k) (hby : bytes <= 4096)
    (B : Nat) (v y : Value) (n m : Nat) (cs ds : List Value) (hs : a.eval s = v) (hx : a.eval x = y) (hv : w.ownsRow B et k v n cs) (hy : RdT k w y m ds) (h1 : ∀ u ∈ ds, u.oneCell' = true) (hl : n + m <= 34359738368) (hB : B <= w.heap.size)
    (h : ∀ v' w', w'.ownsRow B et k v' (n + m) (cs ++ ds) -> w.grownBy w' v.ownBlock -> (v'.ownBlock = v.ownBlock \/ v'.ownBlock = some w.heap.size) -> I (r.set i v') w' /\ (tbl.getD i .any).holds (r.set i v') v') :
    DoesK Tryd.prog ops Q o a w (fun v w' => I (if i ∈ S then r.set i v else r) w' /\ (tbl.getD i .any).holds (if i ∈ S then r.set i v else r) v) := by
  refine doesZ_turn hi hw fun K hK => ?_
  obtain ⟨v', w', hrun, ho', hg, hk⟩ := run_appT w st et o.type k bytes Z hst hinf hZ hk0 hby B v y n m cs ds hv hy h1 hl hB
  unfold Oper.wp
  simp only [execOp, ho, resolve, invoke, builtin, Sem.run_bind, Sem.run_pure, Result.andThen_ok, List.map_toArray, List.map_cons, List.map_nil, hs, hx, hrun]
  exact hK _ _ (h v' w' ho' hg hk).1 (h v' w' ho' hg hk).2
end
end Go.Proofs.YtflnodkajhokhaaDoor
end

section
namespace Go.Proofs.YtflnodkajhokhaaDoor
open Go.ChangeShapes Go.WideShapes Go.ChangeAt Go.RowKit
theorem part_cell {P : Program} (w : World) (e : TypeId) (k : IntKind) (hu : P.underlying e = some .bool \/ P.underlying e = some (.int k)) (cs : List Value) (o : Nat) (v : Value) (h : cs[o]? = some v) :
    (part e cs.toArray o).run P w = .ok v w := by
  rcases hu with hu | hu
  . simp [part, isAgg, run_underlying hu, h]
  . simp [part, isAgg, run_underlying hu, h]
theorem eqFields_step {P : Program} (w : World) (d : Nat) (xs ys : Array Value) (f : Field) (fs : List Field) (t o : Nat) (hf : f.name ≠ "_" /\ f.type = t /\ f.offset = o) (a b : Value) (r : Bool) (ha : (part t xs o).run P w = .ok a w) (hb : (part t ys o).run P w = .ok b w) (hr : (Op.equalIn d t a b).run P w = .ok r w) :
    (Op.eqFields d xs ys (f :: fs)).run P w = if r then (Op.eqFields d xs ys fs).run P w else .ok false w := by
  obtain ⟨hn, rfl, rfl⟩ := hf
  simp only [Op.eqFields, if_pos hn, Sem.run_bind, ha, hb, hr, Result.andThen_ok]
  cases r <;> simp
end Go.Proofs.YtflnodkajhokhaaDoor
namespace Go.Proofs.YtflnodkajhokhaaDoor
open Go.RowKit
theorem wpList_wanted {P : Program} {ops : Array Oper} {rest : List Oper} {op : Oper} {a : Act} {w : World} {Q : Exit -> Act -> World -> Prop} (hw : Region.wanted op (yielded ops a.tmps) = true) (v : Value) (h : (execOp a.eval op).run P w = .ok (.value v) w) (hr : wpList P ops Q rest (a.put op.dst v) w) : wpList P ops Q (op :: rest) a w :=
  wpList_step fun K hK => by
    rw [if_pos hw]
    unfold Oper.wp
    rw [h]
    exact hK _ _ hr
theorem ex_build {o : Oper} {a : Act} {w : World} {t : TypeId} {parts : Array (Nat × Operand)} {cells : Array Value} (ho : o.op = .build t parts) (h : Tryd.prog.built t (parts.map fun (i, x) => (i, a.eval x)).toList = some cells) : (execOp a.eval o).run Tryd.prog w = .ok (.value (.agg cells)) w := by
  unfold execOp
  rw [ho]
  simp only [Sem.run_bind, run_build w t _ _ h, Result.andThen_ok, Sem.run_pure]
end Go.Proofs.YtflnodkajhokhaaDoor
namespace Go.Proofs.YtflnodkajhokhaaDoor
open Go.ChangeShapes Go.WideShapes Go.ChangeAt Go.RowKit
theorem wpList_load_wanted {P : Program} {ops : Array Oper} {rest : List Oper} {op : Oper} {a : Act} {w : World} {Q : Exit -> Act -> World -> Prop} (hw : Region.wanted op (yielded ops a.tmps) = true) (ty : TypeId) (x : Operand) (ho : op.op = .load ty x)
    (b o : Nat) (hx : a.eval x = .pointer (some ⟨b, o, none⟩)) (cs : List Value) (d : TypeDesc) (hc : w.rangeAt b o cs)
    (hu : P.underlying ty = some d) (hd : d.isRow = true) (hi : (P.info? ty).map (·.size) = some cs.length)
    (h : wpList P ops Q rest (a.put op.dst (.agg cs.toArray)) w) : wpList P ops Q (op :: rest) a w :=
  wpList_step fun K hK => by rw [if_pos hw]; exact wp_load_mid ty x ho b o hx cs d hc hu hd hi (hK _ _ h)
end Go.Proofs.YtflnodkajhokhaaDoor
namespace Go.Proofs.YtflnodkajhokhaaDoor
open Go.RowKit
theorem results_mid2 {P : Program} {fn : Func} {p t : Tmp} {ty : TypeId} (h : fn.results = #[.cell p ty, .tmp t]) (tmps : Array Value) (w : World) (b : Nat) (cs : List Value) (d : TypeDesc)
    (hp : tmps.getD p undef = .pointer (some ⟨b, 0, none⟩)) (hr : w.rangeAt b 0 cs) (hu : P.underlying ty = some d) (hd : d.isRow = true) (hi : (P.info? ty).map (·.size) = some cs.length) :
    (results fn tmps).run P w = .ok (.tuple #[.agg cs.toArray, tmps.getD t undef]) w := by
  have hp' : tmps[p]?.getD undef = .pointer (some ⟨b, 0, none⟩) := by simpa using hp
  simp [results, h, hp', asAddr, run_loadVar_mid w b 0 ty cs d hr hu hd hi]
end Go.Proofs.YtflnodkajhokhaaDoor
namespace Go.Proofs.YtflnodkajhokhaaDoor
open Go.RowKit
theorem own_at {w : World} {base n cap : Nat} {ao : Option Addr} {l : List Nat} (h : Own w base (.slice ao n cap) l) (hl : 0 < l.length) : ∃ b, ao = some ⟨b, 0, none⟩ := by
  rcases h.1.2 with ⟨_, q⟩ | ⟨g, cap', cur, q, _⟩
  . omega
  . injection q with q1 _ _
    exact ⟨g, q1⟩
theorem grownBy_cell (w : World) (b j : Nat) (v : Value) : w.grownBy (w.setCell ⟨b, j, none⟩ v) (some b) := only_set (World.grownBy.refl w (some b)) (p := ⟨b, j, none⟩) (.inl rfl) v
end Go.Proofs.YtflnodkajhokhaaDoor
namespace Go.Proofs.YtflnodkajhokhaaDoor
open Go.RowKit
theorem blk_rd_at {w : World} {g : Nat} {t : TypeId} {l : List Nat} (h : Blk w g t (row8 l)) (hb : ∀ k, gb l k < 256) (o n cap : Nat) (hn : o + n <= l.length) (hc : n <= cap) (hf : l.length <= 140737488355328) : Rd w (.slice (some ⟨g, o, none⟩) n cap) ((l.drop o).take n) := by
  have e1 : ((l.drop o).take n).length = n := by rw [List.length_take, List.length_drop]; omega
  refine ⟨gb_take_byte _ n (fun k => by rw [gb_drop]; exact hb _), by rw [e1]; omega, .inr ⟨_, cap, by rw [e1], by rw [e1]; exact hc, fun j hj => ?_⟩⟩
  rw [gb_take _ n j (by omega), gb_drop, Addr.add_mid]
  exact h.cell (o + j) _ (row8_val l (o + j) (by omega))
end Go.Proofs.YtflnodkajhokhaaDoor
namespace Go.Proofs.YtflnodkajhokhaaDoor
open Go.RowKit
theorem rd_const (w : World) (l : List Nat) (hl : ∀ k, gb l k < 256) (hf : l.length <= 140737488355328) (n : Nat) (hn : n = l.length) (b : Nat) (hb : b = w.heap.size) (mk : Nat × Nat) : Rd (w.alloc (.cells (row8 l).toArray 5 mk)) (.slice (some ⟨b, 0, none⟩) n n) l := by
  subst hb; subst hn
  refine ⟨hl, hf, .inr ⟨_, _, rfl, Nat.le_refl _, fun j hj => ?_⟩⟩
  rw [Addr.add_mid, World.cell?_alloc_mark, Nat.zero_add]
  exact row8_get l j hj
theorem small_bytes {l : List Nat} (h : l.all (· < 256) = true) (k : Nat) : gb l k < 256 := by
  unfold gb
  rw [List.getD_eq_getElem?_getD]
  cases q : l[k]? with
  | none => show 0 < 256; omega
  | some x =>
    rw [List.all_eq_true] at h
    simpa using h x (List.mem_of_getElem? q)
end Go.Proofs.YtflnodkajhokhaaDoor
namespace Go.Proofs.YtflnodkajhokhaaDoor
open Go.ChangeShapes Go.WideShapes Go.ChangeAt Go.RowKit
theorem run_index_part {P : Program} (t e : TypeId) (n m : Nat) (cs ds : Array Value) (k : Nat) (h : P.underlying t = some (.array n e)) (hn : k < n) (h1 : (P.info? e).map (·.size) = some m) (ha : ∀ w, (isAgg e).run P w = .ok true w) (hv : cs.extract (k * m) (k * m + m) = ds) (w : World) :
    (Instr.index t (.agg cs) (.int .i64 k)).run P w = .ok (.agg ds) w := by
  have hk : (0 : Int) <= k /\ (k : Int) < n := by omega
  cases hq : P.info? e with
  | none => simp [hq] at h1
  | some i =>
    simp [hq] at h1
    have hs : ∀ w, (sizeOf e).run P w = .ok m w := fun w => by simp [sizeOf, typeInfo, hq, h1]
    simp [Instr.index, part, run_underlying h, asIntOf, hk, hn, hs, ha, hv, go_sem]
end Go.Proofs.YtflnodkajhokhaaDoor
end

section
namespace Go.Proofs.YtflnodkajhokhaaDoor
namespace DM
structure LW where
  at_ : Nat
  bytes : List Nat
  size : Nat
structure DS where
  most : Nat
  seen : List Nat
  safe : List Nat
  loose : List LW
  steps : Nat
  down : Bool
  told : Bool
  after : Nat
  done : Bool
def laid (s : List Nat) (a : Nat) (b : List Nat) : List Nat := if b = [] then s else (s ++ List.replicate (a - s.length) 0).take a ++ b ++ s.drop (a + b.length)
def new (m : Int) : DS := ⟨(max 0 (min m 16777216)).toNat, [], [], [], 0, false, false, 0, false⟩
def step (d x : DS) : DS × Int :=
  if d.told = false then ({ x with steps := x.steps + 1 }, 0)
  else if 0 < d.after then ({ x with steps := x.steps + 1, after := x.after - 1 }, 0)
  else ({ (if d.done then x else d) with steps := d.steps + 1, down := true, told := false }, 20)
def sector (x : List Nat) (a j : Nat) : LW := ⟨(a / 512 + j) * 512, (x.take (min ((a / 512 + j) * 512 + 512) x.length)).drop ((a / 512 + j) * 512), min ((a / 512 + j) * 512 + 512) x.length⟩
def many (a n : Nat) : Nat := if n = 0 then 0 else (a + n - 1) / 512 - a / 512 + 1
def wrote (d : DS) (a : Nat) (b : List Nat) : DS := { d with seen := laid d.seen a b, loose := d.loose ++ (List.range (many a b.length)).map (sector (laid d.seen a b) a) }
def write (d : DS) (a : Int) (b : List Nat) : DS × Int :=
  if d.down then (d, 20)
  else if a < 0 \/ (d.seen.length : Int) < a then (d, 43)
  else if (d.most : Int) - a < (b.length : Int) then (d, 21)
  else step d (wrote d a.toNat b)
def read (d : DS) (a n : Int) : List Nat × Int :=
  if d.down then ([], 20)
  else if a < 0 \/ n < 0 \/ (d.seen.length : Int) < a \/ (d.seen.length : Int) - a < n then ([], 43)
  else ((d.seen.drop a.toNat).take n.toNat, 0)
def load (d : DS) (b : List Nat) : DS := if d.most < b.length then d else { d with seen := b, safe := b, loose := [] }
structure Ok (d : DS) : Prop where
  most : d.most <= 16777216
  seen : d.seen.length <= d.most
  safe : d.safe.length <= d.most
  bseen : ∀ k, gb d.seen k < 256
  bsafe : ∀ k, gb d.safe k < 256
  loose : ∀ x ∈ d.loose, (∀ k, gb x.bytes k < 256) /\ x.bytes.length <= 512 /\ x.at_ + x.bytes.length <= d.most
theorem laid_len (s : List Nat) (a : Nat) (b : List Nat) (hb : b ≠ []) : (laid s a b).length = max s.length (a + b.length) := by
  unfold laid
  rw [if_neg hb]
  simp only [List.length_append, List.length_take, List.length_drop, List.length_replicate]
  omega
theorem laid_nil (s : List Nat) (a : Nat) : laid s a [] = s := by unfold laid; rw [if_pos rfl]
theorem laid_le (s : List Nat) (a : Nat) (b : List Nat) (m : Nat) (h1 : s.length <= m) (h2 : a + b.length <= m) : (laid s a b).length <= m := by
  by_cases hb : b = []
  . subst hb; rw [laid_nil]; exact h1
  . rw [laid_len s a b hb]; omega
theorem laid_ge (s : List Nat) (a : Nat) (b : List Nat) : s.length <= (laid s a b).length := by
  by_cases hb : b = []
  . subst hb; rw [laid_nil]; exact Nat.le_refl _
  . rw [laid_len s a b hb]; omega
theorem laid_get (s : List Nat) (a : Nat) (b : List Nat) (k : Nat) : gb (laid s a b) k = if b ≠ [] /\ a <= k /\ k < a + b.length then gb b (k - a) else gb s k := by
  by_cases hb : b = []
  . subst hb; rw [laid_nil]; simp
  . unfold laid
    rw [if_neg hb]
    unfold gb
    simp only [List.getD_eq_getElem?_getD]
    have h1 : ((s ++ List.replicate (a - s.length) 0).take a).length = a := by simp only [List.length_take, List.length_append, List.length_replicate]; omega
    by_cases c1 : k < a
    . rw [List.append_assoc, List.getElem?_append_left (by omega), List.getElem?_take, if_pos c1, if_neg (by omega)]
      by_cases c2 : k < s.length
      . rw [List.getElem?_append_left c2]
      . rw [List.getElem?_append_right (by omega), List.getElem?_replicate, List.getElem?_eq_none (l := s) (by omega)]
        split <;> rfl
    . by_cases c2 : k < a + b.length
      . rw [List.append_assoc, List.getElem?_append_right (by omega), List.getElem?_append_left (by omega), if_pos ⟨hb, by omega, c2⟩, h1]
      . rw [List.getElem?_append_right (by rw [List.length_append]; omega), List.getElem?_drop, if_neg (by omega), List.length_append, h1]
        congr 2
        omega
theorem laid_byte (s : List Nat) (a : Nat) (b : List Nat) (hs : ∀ k, gb s k < 256) (hb : ∀ k, gb b k < 256) (k : Nat) : gb (laid s a b) k < 256 := by
  rw [laid_get]; split
  . exact hb _
  . exact hs _
end DM
end Go.Proofs.YtflnodkajhokhaaDoor
namespace Go.Proofs.YtflnodkajhokhaaDoor
open Go.ChangeShapes Go.WideShapes Go.ChangeAt Go.RowKit
theorem wpList_make_bytes {ops : Array Oper} {rest : List Oper} {o : Oper} {a : Act} {w : World} {Q : Exit -> Act -> World -> Prop} (hgd : o.guard = none) (x y : Operand) (ho : o.op = .makeSlice 25 x y) (B n : Nat) (hn : n <= 140737488355328) (hx : a.eval x = .int .i64 (n : Int)) (hy : a.eval y = .int .i64 (n : Int)) (hB : B <= w.heap.size)
    (h : ∀ w', Own w' B (.slice (some ⟨w.heap.size, 0, none⟩) n n) (List.replicate n 0) -> Below w.heap.size w w' -> wpList Tryd.prog ops Q rest (a.put o.dst (.slice (some ⟨w.heap.size, 0, none⟩) n n)) w') : wpList Tryd.prog ops Q (o :: rest) a w := by
  refine wpList_plain hgd fun K hK => ?_
  obtain ⟨w', hr, hown, hb⟩ := run_make_bytes w B hB n hn
  unfold Oper.wp
  simp only [execOp, ho, hx, hy, Sem.run_bind, hr, Result.andThen_ok, Sem.run_pure, Oper.upon_value]
  exact hK _ _ (h w' hown hb)
end Go.Proofs.YtflnodkajhokhaaDoor
end

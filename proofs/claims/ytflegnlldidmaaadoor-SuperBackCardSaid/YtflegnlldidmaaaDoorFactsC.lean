/- A region that draws its order and makes only (callees, rows, conversions of constants): of each operation's value any condition that lasts while cells keep what they hold; the last operations come in order. As FactsL, but a constant's row may be marked. Own work. -/
import Derived.Test.YtflegnlldidmaaaDoorReg
import Derived.Test.YtflegnlldidmaaaDoorMem
namespace Go.Proofs.YtflegnlldidmaaaDoor
open Go.RowKit
/-- Nothing below B is another, and each cell that was there holds what it held (a constant's row may have been marked). -/
structure Keep (B : Nat) (w w' : World) : Prop where
  below : Below B w w'
  cell : ∀ a v, w.cell? a = some v → w'.cell? a = some v
theorem keep_below {B : Nat} {w w' : World} (h : Below w.heap.size w w') (hB : B ≤ w.heap.size) : Keep B w w' := ⟨h.mono hB, fun a v hc => by
  rw [World.cell?_of_block (w := w) (h.block _ (World.block_lt_of_cell? w _ hc))]; exact hc⟩
theorem Keep.refl (B : Nat) (w : World) : Keep B w w := ⟨Below.refl _ _, fun _ _ h => h⟩
/-- A condition that lasts so. -/
structure LastC (B : Nat) where
  holds : Value → World → Prop
  later : ∀ {v w w'}, holds v w → Keep B w w' → holds v w'
def LastC.val {B : Nat} (x : Value) : LastC B := ⟨fun v _ => v = x, fun h _ => h⟩
def DoesC (B : Nat) (P : Program) (ops : List Oper) (Q : Exit → Act → World → Prop) (o : Oper) (a : Act) (w : World) (f : LastC B) : Prop :=
  Region.wanted o (yielded ops.toArray a.tmps) = true ∧ ∀ K : Act → World → Prop, (∀ v w', Keep B w w' → f.holds v w' → K (a.put o.dst v) w') → o.wp P a w K Q
theorem wp_region_c {P : Program} {id : Nat} {ops : List Oper} {Q : Exit → Act → World → Prop} {a0 : Act} {w0 : World} (hm : P.follows .mixedOrders = true) (n : Nat) (hn : n < ops.length)
    (hB : factsB (ops.take n) a0.tmps.size = true) (hL : tailB ops n = true) (hE : earlyB 0 ops = true) (B : Nat) (_hB0 : B = w0.heap.size) (tbl : List (LastC B))
    (hop : eachOp (fun i o => ∀ a w, (∀ k, (∀ i, i < n → dstOf ops i ≠ k) → a.tmps.getD k undef = a0.tmps.getD k undef) → Keep B w0 w → (∀ j ∈ depsOf o, (tbl.getD j (LastC.val undef)).holds (valOf ops a j) w) → DoesC B P ops Q o a w (tbl.getD i (LastC.val undef))) 0 (ops.take n))
    (hend : ∀ (vs : Nat → Value) w, Keep B w0 w → (∀ i, i < n → (tbl.getD i (LastC.val undef)).holds (vs i) w) → wpList P ops.toArray Q (ops.drop n) (putOps (ops.take n) 0 vs a0) w) : (Code.region id ops.toArray true).wp P Q a0 w0 := by
  simp only [factsB, Bool.and_eq_true, List.all_eq_true, decide_eq_true_eq] at hB
  obtain ⟨⟨⟨_, hsome⟩, hnd⟩, hrange⟩ := hB
  have htl : (ops.take n).length = n := by rw [List.length_take]; omega
  rw [htl] at hrange
  have hget : ∀ i, i < n → (ops.take n)[i]? = ops[i]? := fun i hi => by rw [List.getElem?_take, if_pos hi]
  have hdstE : ∀ i, i < n → dstOf (ops.take n) i = dstOf ops i := fun i hi => by unfold dstOf; rw [hget i hi]
  have hdst : ∀ (i : Nat) o, i < n → ops[i]? = some o → o.dst = some (dstOf ops i) := fun i o hi ho => by
    have hs := hsome o (List.mem_of_getElem? (by rw [hget i hi]; exact ho))
    obtain ⟨d, hd⟩ := Option.isSome_iff_exists.1 hs
    unfold dstOf; rw [ho]; simp [hd]
  have hlt : ∀ i, i < n → dstOf ops i < a0.tmps.size := fun i hi => by
    rw [← hdstE i hi]; simpa using hrange i (by simpa using hi)
  have hat : ∀ i, i < n → ∃ o, ops[i]? = some o := fun i hi => ⟨ops[i], List.getElem?_eq_getElem (by omega)⟩
  have hapart : ∀ i j, i < n → j < n → dstOf ops i = dstOf ops j → i = j := fun i j hi hj e => by
    obtain ⟨oi, ei⟩ := hat i hi
    obtain ⟨oj, ej⟩ := hat j hj
    have e1 := hdst i oi hi ei
    have e2 := hdst j oj hj ej
    have hp := List.pairwise_iff_getElem.1 hnd
    have hi' : i < ((ops.take n).map (·.dst)).length := by simp; omega
    have hj' : j < ((ops.take n).map (·.dst)).length := by simp; omega
    have q1 : ops[i]'(by omega) = oi := (List.getElem?_eq_some_iff.1 ei).2
    have q2 : ops[j]'(by omega) = oj := (List.getElem?_eq_some_iff.1 ej).2
    rcases Nat.lt_trichotomy i j with q | q | q
    · exact absurd (by simp [q1, q2, e1, e2, e]) (hp i j hi' hj' q)
    · exact q
    · exact absurd (by simp [q1, q2, e1, e2, e]) (hp j i hj' hi' q)
  have hanc : ∀ i, n ≤ i → i < ops.length → ∀ j, j < i → ancB ops ops.length j i = true := fun i h1 h2 j h3 => by
    unfold tailB at hL
    rw [List.all_eq_true] at hL
    have h := hL i (by simpa using h2)
    simp only [Bool.or_eq_true, decide_eq_true_eq, List.all_eq_true] at h
    rcases h with q | q
    · omega
    · exact q j (by simpa using h3)
  refine wp_region_inv hm (fun l a w => (l.getD n true = false ∧ a.defers = a0.defers ∧ a.tmps.size = a0.tmps.size ∧ (∀ k, (∀ i, i < n → dstOf ops i ≠ k) → a.tmps[k]? = a0.tmps[k]?) ∧ Keep B w0 w ∧ ∀ i, i < n → l.getD i true = true → (tbl.getD i (LastC.val undef)).holds (valOf ops a i) w) ∨
      ∃ t, n < t ∧ t ≤ ops.length ∧ (∀ i, i < t → l.getD i true = true) ∧ (∀ i, t ≤ i → i < ops.length → l.getD i true = false) ∧ wpList P ops.toArray Q (ops.drop t) a w)
    (.inl ⟨by simp [Array.getD, hn], rfl, rfl, fun _ _ => rfl, ⟨(Below.refl _ _).drew, fun _ _ h => h⟩, fun i hi h => by simp [Array.getD, Nat.lt_trans hi hn] at h⟩) ?_
  intro l a w hl hc hj
  have hlen : l.size = ops.length := by simpa using hl
  have hto : ∀ i, i < ops.length → l.getD i false = true → l.getD i true = true := fun i hi h => by
    simp [Array.getD, hlen, hi] at h ⊢; exact h
  have hfr : ∀ i, i < ops.length → l.getD i true = false → l.getD i false = false := fun i hi h => by
    simp [Array.getD, hlen, hi] at h ⊢; exact h
  have hin : ∀ i, l.getD i true = false → i < ops.length := fun i h => by
    rcases Nat.lt_or_ge i l.size with q | q
    · omega
    · simp [Array.getD, Nat.not_lt.mpr q] at h
  have hne : (∃ i, l.getD i true = false) → Region.ready .any ops.toArray l ≠ [] := fun hex => by
    have hmin : ∃ i, l.getD i true = false ∧ ∀ j, j < i → l.getD j true = true := by
      obtain ⟨i, hi⟩ := hex
      induction i using Nat.strongRecOn with
      | _ i ih =>
        rcases Classical.em (∃ j, j < i ∧ l.getD j true = false) with ⟨j, hji, hj⟩ | q
        · exact ih j hji hj
        · refine ⟨i, hi, fun j hj => ?_⟩
          cases h : l.getD j true with
          | true => rfl
          | false => exact absurd ⟨j, hj, h⟩ q
    obtain ⟨i, hi, hj⟩ := hmin
    have hil := hin i hi
    refine List.ne_nil_of_mem (a := i) (mem_ready.2 ⟨hi, ops[i], by simp [hil], fun e he hb => ?_⟩)
    have hdep : e.on ∈ depsOf ops[i] := List.mem_map.2 ⟨e, List.mem_filter.2 ⟨by simpa using he, hb⟩, rfl⟩
    have h1 := earlyB_get ops 0 i ops[i] hE (List.getElem?_eq_getElem hil) e.on hdep
    have h2 := hj e.on (by omega)
    have h3 : e.on < l.size := by omega
    simp [Array.getD, h3] at h2 ⊢
    exact h2
  have hready : ∀ i ∈ Region.ready .any ops.toArray l, ∃ o, ops[i]? = some o ∧ l.getD i true = false ∧ ∀ j ∈ depsOf o, l.getD j false = true := fun i hi => by
    obtain ⟨hu, o, ho, hdeps⟩ := mem_ready.1 hi
    refine ⟨o, by simpa using ho, hu, fun j hj => ?_⟩
    obtain ⟨e, he, q⟩ := List.mem_map.1 hj
    obtain ⟨he1, he2⟩ := List.mem_filter.1 he
    subst q
    exact hdeps e (by simpa using he1) he2
  have hset : ∀ i, l.getD i true = false → ∀ j, (l.setIfInBounds i true).getD j true = if i = j then true else l.getD j true := fun i hi j => by
    by_cases h : i = j
    · subst h; rw [if_pos rfl]; simp [Array.getD, hlen, hin i hi]
    · rw [if_neg h, getD_set_ne true h]
  rcases hj with ⟨hln, j1, j2, j3, j4, j5⟩ | ⟨t, ht1, ht2, ht3, ht4, hwp⟩
  · right
    refine ⟨hne ⟨n, hln⟩, ?_⟩
    intro i hi
    obtain ⟨o, ho', hu, hdeps'⟩ := hready i hi
    have hil := hin i hu
    rcases Nat.lt_trichotomy i n with hi' | hi' | hi'
    · have hx := eachOp_get (ops.take n) 0 i o hop (by rw [hget i hi']; exact ho') a w (fun k hk => by
        have := j3 k hk
        rw [Array.getD_eq_getD_getElem?, Array.getD_eq_getD_getElem?, this]) j4 (fun j hj => by
          have hjn : j < n := by
            have := earlyB_get ops 0 i o hE ho' j hj
            omega
          exact j5 j hjn (hto j (by omega) (hdeps' j hj)))
      rw [Nat.zero_add] at hx
      obtain ⟨hw, hx⟩ := hx
      unfold wpOp
      rw [show ops.toArray[i]? = some o by simpa using ho']
      show if Region.wanted o (yielded ops.toArray a.tmps) = true then _ else _
      rw [if_pos hw]
      refine .inl (hx _ (fun v w' hb hf => .inl ?_))
      have hd := hdst i o hi' ho'
      have hdl' := hlt i hi'
      rw [getD_set_ne true (show i ≠ n by omega)]
      refine ⟨hln, by rw [put_defers']; exact j1, by rw [put_size]; exact j2, fun k hk => ?_, ⟨j4.below.trans hb.below, fun a v h => hb.cell a v (j4.cell a v h)⟩, fun j hj hlj => ?_⟩
      · rw [hd]
        show (a.tmps.setIfInBounds _ v)[k]? = _
        rw [Array.getElem?_setIfInBounds_ne (hk i hi')]
        exact j3 k hk
      · by_cases hji : i = j
        · subst hji
          have : valOf ops (a.put o.dst v) i = v := by
            unfold valOf
            rw [hd]
            show (a.tmps.setIfInBounds (dstOf ops i) v).getD (dstOf ops i) undef = v
            have h1 : dstOf ops i < a.tmps.size := by rw [j2]; exact hdl'
            simp [Array.getD, h1]
          rw [this]; exact hf
        · have e : valOf ops (a.put o.dst v) j = valOf ops a j := by
            unfold valOf
            rw [hd]
            show (a.tmps.setIfInBounds (dstOf ops i) v).getD (dstOf ops j) undef = _
            have hne : dstOf ops i ≠ dstOf ops j := fun q => hji (hapart i j hi' hj q)
            rw [Array.getD_eq_getD_getElem?, Array.getD_eq_getD_getElem?, Array.getElem?_setIfInBounds_ne hne]
          rw [e]
          rw [getD_set_ne true hji] at hlj
          exact LastC.later _ (j5 j hj hlj) hb
    · subst hi'
      have hall : ∀ j, j < i → l.getD j true = true := fun j hj => hto j (by omega) (anc_listed hc hlen _ j i o ho' hdeps' (hanc i (Nat.le_refl _) hil j hj))
      have e := putOps_eq a (ops.take i) 0 (fun i => valOf ops a i) a0 j1.symm j2.symm (fun k hk => (j3 k (fun m hm q => by
        obtain ⟨om, em⟩ := hat m hm
        exact hk om (List.mem_of_getElem? (by rw [hget m hm]; exact em)) (by rw [hdst m om hm em, q]))).symm) (fun j o ho => by
        have hj : j < i := by
          have := (List.getElem?_eq_some_iff.1 ho).1
          omega
        rw [hget j hj] at ho
        refine ⟨_, hdst j o hj ho, ?_⟩
        have h1 : dstOf ops j < a.tmps.size := by rw [j2]; exact hlt j hj
        rw [Array.getElem?_eq_getElem h1, Nat.zero_add]
        unfold valOf
        simp [Array.getD, h1])
      have hx := hend (fun i => valOf ops a i) w j4 (fun j hj => j5 j hj (hall j hj))
      rw [e] at hx
      have hu' : ∀ m, i < m → m < ops.length → l.getD m true = false := fun m h1 h2 => by
        cases hm : l.getD m true with
        | false => rfl
        | true =>
          exfalso
          have hmo : ops[m]? = some ops[m] := List.getElem?_eq_getElem h2
          have := anc_listed hc hlen _ i m ops[m] hmo (fun k hk => by
            obtain ⟨x, hx, qe⟩ := List.mem_map.1 hk
            obtain ⟨hx1, hx2⟩ := List.mem_filter.1 hx
            have := hc m ops[m] (by simp [h2]) hm x (by simpa using hx1) hx2
            rw [qe] at this; exact this) (hanc m (by omega) h2 i h1)
          rw [hfr i hil hu] at this; cases this
      rw [List.drop_eq_getElem_cons hil] at hx
      have hoe : ops[i] = o := (List.getElem?_eq_some_iff.1 ho').2
      rw [hoe] at hx
      have key : wpOp P ops.toArray Q i (wpList P ops.toArray Q (ops.drop (i + 1))) a w := by
        unfold wpOp
        rw [show ops.toArray[i]? = some o by simpa using ho']
        exact hx
      refine wpOp_mono (fun a' w' hq => .inr ⟨i + 1, by omega, by omega, fun j hj => ?_, fun j h1 h2 => ?_, hq⟩) key
      · rw [hset i hu]
        split
        · rfl
        · exact hall j (by omega)
      · rw [hset i hu, if_neg (by omega)]
        exact hu' j (by omega) h2
    · exfalso
      have := anc_listed hc hlen _ n i o ho' hdeps' (hanc i (by omega) hil n hi')
      rw [hfr n hn hln] at this; cases this
  · by_cases hte : t = ops.length
    · left
      have hall : ∀ i, l.getD i true = true := fun i => by
        rcases Nat.lt_or_ge i ops.length with q | q
        · exact ht3 i (by omega)
        · simp [Array.getD, hlen, Nat.not_lt.mpr q]
      rw [rem_all hall]
      refine ⟨?_, ?_⟩
      · rw [List.eq_nil_iff_forall_not_mem]
        intro i hi
        have := (mem_ready.1 hi).1
        rw [hall i] at this; cases this
      · rw [hte, List.drop_length] at hwp
        exact hwp
    · right
      have htl' : t < ops.length := by omega
      refine ⟨hne ⟨t, ht4 t (Nat.le_refl _) htl'⟩, ?_⟩
      intro i hi
      obtain ⟨o, ho', hu, hdeps'⟩ := hready i hi
      have hil := hin i hu
      have hit : i = t := by
        rcases Nat.lt_trichotomy i t with q | q | q
        · rw [ht3 i q] at hu; cases hu
        · exact q
        · exfalso
          have := anc_listed hc hlen _ t i o ho' hdeps' (hanc i (by omega) hil t q)
          rw [hfr t htl' (ht4 t (Nat.le_refl _) htl')] at this; cases this
      subst hit
      rw [List.drop_eq_getElem_cons hil] at hwp
      have hoe : ops[i] = o := (List.getElem?_eq_some_iff.1 ho').2
      rw [hoe] at hwp
      have key : wpOp P ops.toArray Q i (wpList P ops.toArray Q (ops.drop (i + 1))) a w := by
        unfold wpOp
        rw [show ops.toArray[i]? = some o by simpa using ho']
        exact hwp
      refine wpOp_mono (fun a' w' hq => .inr ⟨i + 1, by omega, by omega, fun j hj => ?_, fun j h1 h2 => ?_, hq⟩) key
      · rw [hset i hu]
        split
        · rfl
        · exact ht3 j (by omega)
      · rw [hset i hu, if_neg (by omega)]
        exact ht4 j (by omega) h2
section
variable {B : Nat} {P : Program} {ops : List Oper} {Q : Exit → Act → World → Prop} {o : Oper} {a : Act} {w : World} {f : LastC B}
theorem doesC_val {v : Value} (hw : Region.wanted o (yielded ops.toArray a.tmps) = true) (h : (execOp a.eval o).run P w = .ok (.value v) w) (hf : f.holds v w) : DoesC B P ops Q o a w f := by
  refine ⟨hw, fun K hK => ?_⟩
  unfold Oper.wp
  rw [h, Oper.upon_value]
  exact hK v w (Keep.refl _ _) hf
theorem doesC_wp (hB : B ≤ w.heap.size) (hw : Region.wanted o (yielded ops.toArray a.tmps) = true) (h : ∀ K : Act → World → Prop, (∀ v w', f.holds v w' → Below w.heap.size w w' → K (a.put o.dst v) w') → o.wp P a w K Q) : DoesC B P ops Q o a w f :=
  ⟨hw, fun K hK => h K fun v w' hf hb => hK v w' (keep_below hb hB) hf⟩
theorem doesC_call (hB : B ≤ w.heap.size) {g : FuncId} {args : Array Value} (hw : Region.wanted o (yielded ops.toArray a.tmps) = true) (h : (execOp a.eval o).run P w = .ok (.enter g args) w) (hc : Calls P g args w fun e w' => ∃ v, e = .returned v ∧ f.holds v w' ∧ Below w.heap.size w w') : DoesC B P ops Q o a w f :=
  doesC_wp hB hw fun K hK => by
    unfold Oper.wp
    rw [h, Oper.upon_enter]
    refine hc.mono fun e w' hh => ?_
    obtain ⟨v, rfl, hf, hb⟩ := hh
    exact hK v w' hf hb
end
theorem Keep.rd {B : Nat} {w w' : World} {v : Value} {l : List Nat} (k : Keep B w w') (h : Rd w v l) : Rd w' v l := by
  refine ⟨h.byte, h.fits, ?_⟩
  rcases h.form with q | ⟨ad, cap, e, hc, hs⟩
  · exact .inl q
  · exact .inr ⟨ad, cap, e, hc, fun j hj => k.cell _ _ (hs j hj)⟩
theorem Keep.rds {B : Nat} {w w' : World} {v : Value} {ls : List (List Nat)} (k : Keep B w w') (h : Rds w v ls) : Rds w' v ls := by
  refine ⟨h.fits, ?_⟩
  rcases h.form with q | ⟨ad, cap, e, hc, hs⟩
  · exact .inl q
  · refine .inr ⟨ad, cap, e, hc, fun j l hj => ?_⟩
    obtain ⟨x, h1, h2⟩ := hs j l hj
    exact ⟨x, k.cell _ _ h1, k.rd h2⟩
def LastC.rd {B : Nat} (l : List Nat) : LastC B := ⟨fun v w => Rd w v l, fun h k => k.rd h⟩
def LastC.rds {B : Nat} (ls : List (List Nat)) : LastC B := ⟨fun v w => Rds w v ls, fun h k => k.rds h⟩
/-- A row of bytes of the region's own, which may be marked. -/
def Lit (B : Nat) (v : Value) (l : List Nat) (w : World) : Prop := ∃ b, v = .slice (some ⟨b, 0, none⟩) l.length l.length ∧ B ≤ b ∧ Rd w v l ∧ b < w.heap.size
def LastC.lit {B : Nat} (l : List Nat) : LastC B := ⟨fun v w => Lit B v l w, fun ⟨b, e, hb, h, hl⟩ k => ⟨b, e, hb, k.rd h, Nat.lt_of_lt_of_le hl k.below.size⟩⟩
theorem keep_freeze {B : Nat} (w : World) (b k : Nat) (hb : B ≤ b) : Keep B w (w.freeze ⟨b, k, none⟩ 1) := by
  have hs : (w.freeze ⟨b, k, none⟩ 1).heap.size = w.heap.size := by unfold World.freeze; rw [if_neg (by decide)]; simp
  have hg : ∀ j, (w.freeze ⟨b, k, none⟩ 1).heap[j]? = if b = j then (w.heap[j]?).map (fun | .cells c e (lo, hi) => .cells c e (if lo == hi then (k, k + 1) else (min lo k, max hi (k + 1))) | o => o) else w.heap[j]? := fun j => by
    unfold World.freeze
    rw [if_neg (by decide)]
    show (w.heap.modify b _)[j]? = _
    rw [Array.getElem?_modify]
    split
    · rfl
    · rfl
  refine ⟨⟨by unfold World.freeze; rw [if_neg (by decide)], by unfold World.freeze; rw [if_neg (by decide)], by unfold World.freeze; rw [if_neg (by decide)], Nat.le_of_eq hs.symm, fun j hj => by rw [hg j, if_neg (by omega)]⟩, fun a v hc => ?_⟩
  unfold World.cell? at hc ⊢
  rw [hg a.block]
  by_cases e : b = a.block
  · rw [if_pos e]
    cases q : w.heap[a.block]? with
    | none => rw [q] at hc; cases hc
    | some o =>
      rw [q] at hc
      cases o with
      | cells c t m => obtain ⟨lo, hi⟩ := m; simpa using hc
      | _ => cases hc
  · rw [if_neg e]; exact hc
/-- A constant's row is marked. -/
theorem doesC_mark {B : Nat} {ops : List Oper} {Q : Exit → Act → World → Prop} {o : Oper} {a : Act} {w : World} (hw : Region.wanted o (yielded ops.toArray a.tmps) = true) (x : Operand) (ho : o.op = .convert 24 24 x) (l : List Nat) (hx : Lit B (a.eval x) l w) : DoesC B Tryd.prog ops Q o a w (.rd l) := by
  obtain ⟨b, e, hb, hr, hlt⟩ := hx
  rw [e] at hr
  refine ⟨hw, fun K hK => ?_⟩
  have key : ∃ w', (convert 24 24 (.slice (some ⟨b, 0, none⟩) l.length l.length)).run Tryd.prog w = .ok (.slice (some ⟨b, 0, none⟩) l.length l.length) w' ∧ Keep B w w' := by
    cases hs : w.shape? b with
    | none => exact ⟨w, by simp [convert, run_underlying Tryd.underlying24, run_underlying Tryd.underlying5, markStringish, hs], Keep.refl _ _⟩
    | some p =>
      obtain ⟨t, n⟩ := p
      exact ⟨w.freeze ⟨b, n, none⟩ 1, by simp [convert, run_underlying Tryd.underlying24, run_underlying Tryd.underlying5, markStringish, hs], keep_freeze w b n hb⟩
  obtain ⟨w', hrun, hk⟩ := key
  unfold Oper.wp execOp
  simp only [ho, e, Sem.run_bind, hrun, Result.andThen_ok, Sem.run_pure, Oper.upon_value]
  exact hK _ _ hk (hk.rd hr)
end Go.Proofs.YtflegnlldidmaaaDoor

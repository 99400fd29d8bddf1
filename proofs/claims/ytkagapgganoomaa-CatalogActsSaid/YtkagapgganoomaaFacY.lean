/- Texts of one subject in one file: FactsY, KindB. Own work. -/
import Derived.Test.YtkagapgganoomaaFactX
import Derived.Test.YtkagapgganoomaaMem
/- A region that draws its order, the general law with stores among its operations, where it is known of what kind the blocks are that its operations turn (R): so what hangs on blocks of another kind lasts, also where no slot shows it (a tuple that holds a slice). Own work. -/
namespace Go.Proofs.Ytkagapgganoomaa
open Go.RowKit
/-- What is known of an operation's value: a condition that lasts while the world grows, and while other blocks from B on that R allows turn. -/
structure PredY (B : Nat) (R : World → Nat → Prop) where
  holds : Value → World → Prop
  firm : Bool
  last : ∀ {v w w'}, holds v w → Below w.heap.size w w' → holds v w'
  turn : ∀ {v w w' g}, holds v w → R w g → w.grownBy w' (some g) → B ≤ g → (firm = true ∨ held v ≠ some g) → holds v w'
def PredY.val {B : Nat} {R : World → Nat → Prop} (x : Value) : PredY B R := ⟨fun v _ => v = x, true, fun h _ => h, fun h _ _ _ _ => h⟩
section
variable {B : Nat} {R : World → Nat → Prop}
def DoesY (P : Program) (S : Nat → Nat) (ops : List Oper) (Q : Exit → Act → World → Prop) (T : List (PredY B R)) (U : Nat → Nat) (i : Nat) (o : Oper) (a : Act) (w : World) : Prop :=
  (Region.wanted o (yielded ops.toArray a.tmps) = true ∧ ∀ K : Act → World → Prop, (∀ v w', (T.getD i (PredY.val undef)).holds v w' →
    (Below w.heap.size w w' ∨ ∃ d g, d ∈ depsOf o ∧ U d = i ∧ (T.getD d (PredY.val undef)).firm = false ∧ held (valS S a d) = some g ∧ B ≤ g ∧ R w g ∧ w.grownBy w' (some g)) →
    ((T.getD i (PredY.val undef)).firm = false → ∀ g, held v = some g → g < w'.heap.size ∧ (w.heap.size ≤ g ∨ ∃ d, d ∈ depsOf o ∧ U d = i ∧ (T.getD d (PredY.val undef)).firm = false ∧ held (valS S a d) = some g)) →
    (o.dst = none → v = valS S a i) → K (a.put o.dst v) w') → o.wp P a w K Q) ∨
  (Region.wanted o (yielded ops.toArray a.tmps) = false ∧ (T.getD i (PredY.val undef)).holds undef w ∧ (T.getD i (PredY.val undef)).firm = true ∧ o.dst ≠ none)
end
def ApartY {B : Nat} {R : World → Nat → Prop} (T : List (PredY B R)) (n : Nat) (alive : Nat → Prop) (vs : Nat → Value) : Prop :=
  ∀ i j, i < n → j < n → i ≠ j → alive i → alive j → (T.getD i (PredY.val undef)).firm = false → (T.getD j (PredY.val undef)).firm = false → ∀ g, held (vs i) = some g → held (vs j) ≠ some g
theorem any_y {P : Program} {R : World → Nat → Prop} {ops : List Oper} {Q : Exit → Act → World → Prop} {a0 : Act} {w0 : World} (n : Nat) (hn : n ≤ ops.length)
    (S : Nat → Nat) (hB : factsS S ops n a0.tmps.size = true) (hL : tailB ops n = true) (hE : earlyB 0 ops = true) (B : Nat) (hB0 : w0.heap.size ≤ B) (tbl : List (PredY B R)) (U : Nat → Nat)
    (hop : eachOp (fun i o => ∀ a w, (∀ k, (∀ i, i < n → dstQ ops i ≠ some k) → a.tmps.getD k undef = a0.tmps.getD k undef) → Below w0.heap.size w0 w → (∀ j ∈ depsOf o, U j = i ∨ n ≤ U j → (tbl.getD j (PredY.val undef)).holds (valS S a j) w) → DoesY P S ops Q tbl U i o a w) 0 (ops.take n))
    (hend : ∀ (vs : Nat → Value) w, Below w0.heap.size w0 w → (∀ i j, S i = S j → vs i = vs j) → (∀ i, i < n → n ≤ U i → (tbl.getD i (PredY.val undef)).holds (vs i) w) → ApartY tbl n (fun i => n ≤ U i) vs → wpList P ops.toArray Q (ops.drop n) (putOps (ops.take n) 0 vs a0) w) : RegAny P ops.toArray Q a0 w0 := by
  have htl : (ops.take n).length = n := by rw [List.length_take]; omega
  have hget : ∀ i, i < n → (ops.take n)[i]? = ops[i]? := fun i hi => by rw [List.getElem?_take, if_pos hi]
  simp only [factsS, Bool.and_eq_true, List.all_eq_true, List.mem_range] at hB
  obtain ⟨hB1, hB2⟩ := hB
  have hdst : ∀ (i : Nat) o d, i < n → ops[i]? = some o → o.dst = some d → S i = d ∧ d < a0.tmps.size ∧ dstQ ops i = some d := fun i o d hi ho hd => by
    have h := hB1 i hi
    rw [ho] at h
    simp only [hd, Bool.and_eq_true, decide_eq_true_eq] at h
    exact ⟨h.1, h.2, by unfold dstQ; rw [ho]; exact hd⟩
  have hnone : ∀ (i : Nat) o, i < n → ops[i]? = some o → o.dst = none → ∃ d ∈ depsOf o, d < n ∧ dstQ ops d = some (S i) := fun i o hi ho hd => by
    have h := hB1 i hi
    rw [ho] at h
    simp only [hd, List.any_eq_true, Bool.and_eq_true, decide_eq_true_eq] at h
    obtain ⟨d, h1, h2, h3⟩ := h
    exact ⟨d, h1, h2, h3⟩
  have hat : ∀ i, i < n → ∃ o, ops[i]? = some o := fun i hi => ⟨ops[i], List.getElem?_eq_getElem (by omega)⟩
  have hapart : ∀ i j d, i < n → j < n → dstQ ops i = some d → dstQ ops j = some d → i = j := fun i j d hi hj e1 e2 => by
    have h := hB2 i hi j hj
    simp only [Bool.or_eq_true, decide_eq_true_eq] at h
    rcases h with (h | h) | h
    · exact h
    · rw [e1] at h; cases h
    · exact absurd (e1.trans e2.symm) h
  have hanc : ∀ i, n ≤ i → i < ops.length → ∀ j, j < i → ancB ops ops.length j i = true := fun i h1 h2 j h3 => by
    unfold tailB at hL
    rw [List.all_eq_true] at hL
    have h := hL i (by simpa using h2)
    simp only [Bool.or_eq_true, decide_eq_true_eq, List.all_eq_true] at h
    rcases h with q | q
    · omega
    · exact q j (by simpa using h3)
  refine any_inv (fun l a w => ((∀ i, n ≤ i → i < ops.length → l.getD i true = false) ∧ a.defers = a0.defers ∧ a.tmps.size = a0.tmps.size ∧ (∀ k, (∀ i, i < n → ∀ o, ops[i]? = some o → o.dst ≠ some k) → a.tmps[k]? = a0.tmps[k]?) ∧ Below w0.heap.size w0 w ∧ (∀ i, i < n → l.getD i true = true → l.getD (U i) false = false → (tbl.getD i (PredY.val undef)).holds (valS S a i) w) ∧ (∀ i, i < n → l.getD i true = true → l.getD (U i) false = false → (tbl.getD i (PredY.val undef)).firm = false → ∀ g, held (valS S a i) = some g → g < w.heap.size) ∧ ApartY tbl n (fun i => l.getD i true = true ∧ l.getD (U i) false = false) (fun i => valS S a i)) ∨
      ∃ t, n < t ∧ t ≤ ops.length ∧ (∀ i, i < t → l.getD i true = true) ∧ (∀ i, t ≤ i → i < ops.length → l.getD i true = false) ∧ wpList P ops.toArray Q (ops.drop t) a w)
    (.inl ⟨fun i _ hi => by simp [Array.getD, hi], rfl, rfl, fun _ _ => rfl, (Below.refl _ _).drew, fun i hi h => by simp [Array.getD, Nat.lt_of_lt_of_le hi hn] at h, fun i hi h => by simp [Array.getD, Nat.lt_of_lt_of_le hi hn] at h, fun i j hi _ _ h => by simp [Array.getD, Nat.lt_of_lt_of_le hi hn] at h⟩) ?_
  intro l a w hl hc hj
  have hlen : l.size = ops.length := by simpa using hl
  have hto : ∀ i, i < ops.length → l.getD i false = true → l.getD i true = true := fun i hi h => by
    simp [Array.getD, hlen, hi] at h ⊢; exact h
  have hfr : ∀ i, i < ops.length → l.getD i true = false → l.getD i false = false := fun i hi h => by
    simp [Array.getD, hlen, hi] at h ⊢; exact h
  have hin : ∀ i, l.getD i true = false → i < ops.length := fun i h => by
    rcases Nat.lt_or_ge i l.size with q | q
    · omega
    · simp [Array.getD, Nat.not_lt.mpr q] at h
  have hne : (∃ i, l.getD i true = false) → Region.ready .any ops.toArray l ≠ [] := fun hex => by
    have hmin : ∃ i, l.getD i true = false ∧ ∀ j, j < i → l.getD j true = true := by
      obtain ⟨i, hi⟩ := hex
      induction i using Nat.strongRecOn with
      | _ i ih =>
        rcases Classical.em (∃ j, j < i ∧ l.getD j true = false) with ⟨j, hji, hj⟩ | q
        · exact ih j hji hj
        · refine ⟨i, hi, fun j hj => ?_⟩
          cases h : l.getD j true with
          | true => rfl
          | false => exact absurd ⟨j, hj, h⟩ q
    obtain ⟨i, hi, hj⟩ := hmin
    have hil := hin i hi
    refine List.ne_nil_of_mem (a := i) (mem_ready.2 ⟨hi, ops[i], by simp [hil], fun e he hb => ?_⟩)
    have hdep : e.on ∈ depsOf ops[i] := List.mem_map.2 ⟨e, List.mem_filter.2 ⟨by simpa using he, hb⟩, rfl⟩
    have h1 := earlyB_get ops 0 i ops[i] hE (List.getElem?_eq_getElem hil) e.on hdep
    have h2 := hj e.on (by omega)
    have h3 : e.on < l.size := by omega
    simp [Array.getD, h3] at h2 ⊢
    exact h2
  have hready : ∀ i ∈ Region.ready .any ops.toArray l, ∃ o, ops[i]? = some o ∧ l.getD i true = false ∧ ∀ j ∈ depsOf o, l.getD j false = true := fun i hi => by
    obtain ⟨hu, o, ho, hdeps⟩ := mem_ready.1 hi
    refine ⟨o, by simpa using ho, hu, fun j hj => ?_⟩
    obtain ⟨e, he, q⟩ := List.mem_map.1 hj
    obtain ⟨he1, he2⟩ := List.mem_filter.1 he
    subst q
    exact hdeps e (by simpa using he1) he2
  have hset : ∀ i, l.getD i true = false → ∀ j, (l.setIfInBounds i true).getD j true = if i = j then true else l.getD j true := fun i hi j => by
    by_cases h : i = j
    · subst h; rw [if_pos rfl]; simp [Array.getD, hlen, hin i hi]
    · rw [if_neg h, getD_set_ne true h]
  have hxf : ∀ j, l.getD j true = false → l.getD j false = false := fun j h => hfr j (hin j h) h
  have hunc : ∀ j, n ≤ U j → (∀ i, n ≤ i → i < ops.length → l.getD i true = false) → l.getD (U j) false = false := fun j h hln => by
    rcases Nat.lt_or_ge (U j) ops.length with q | q
    · exact hfr _ q (hln _ h q)
    · simp [Array.getD, hlen, Nat.not_lt.mpr q]
  rcases hj with ⟨hln, j1, j2, j3, j4, j5, j6, j7⟩ | ⟨t, ht1, ht2, ht3, ht4, hwp⟩
  · by_cases hdone : ∀ i, l.getD i true = true
    · left
      rw [rem_all hdone]
      refine ⟨?_, ?_⟩
      · rw [List.eq_nil_iff_forall_not_mem]
        intro i hi
        have := (mem_ready.1 hi).1
        rw [hdone i] at this; cases this
      · have hnl : n = ops.length := by
          rcases Nat.lt_or_ge n ops.length with q | q
          · have := hln n (Nat.le_refl _) q
            rw [hdone n] at this; cases this
          · omega
        have e := putOps_eqS a (ops.take n) 0 (fun i => valS S a i) a0 j1.symm j2.symm (fun k hk => (j3 k (fun m hm om em q => hk om (List.mem_of_getElem? (by rw [hget m hm]; exact em)) q)).symm) (fun j o d ho hd => by
          have hj : j < n := by
            have := (List.getElem?_eq_some_iff.1 ho).1
            omega
          rw [hget j hj] at ho
          obtain ⟨h1, h2, _⟩ := hdst j o d hj ho hd
          have h3 : d < a.tmps.size := by rw [j2]; exact h2
          rw [Array.getElem?_eq_getElem h3, Nat.zero_add]
          unfold valS
          rw [h1]
          simp [Array.getD, h3])
        have hx := hend (fun i => valS S a i) w j4 (fun i j e => by show valS S a i = valS S a j; unfold valS; rw [e]) (fun j hj hu => j5 j hj (hdone j) (hunc j hu hln)) (fun i j hi hj hne hui huj => j7 i j hi hj hne ⟨hdone i, hunc i hui hln⟩ ⟨hdone j, hunc j huj hln⟩)
        rw [e, hnl, List.drop_length] at hx
        exact hx
    · right
      have hex : ∃ i, l.getD i true = false := by
        rcases Classical.em (∃ i, l.getD i true = false) with q | q
        · exact q
        · exact absurd (fun i => by
            cases h : l.getD i true with
            | true => rfl
            | false => exact absurd ⟨i, h⟩ q) hdone
      refine ⟨hne hex, ?_⟩
      intro i hi
      obtain ⟨o, ho', hu, hdeps'⟩ := hready i hi
      have hil := hin i hu
      rcases Nat.lt_trichotomy i n with hi' | hi' | hi'
      · have hx := eachOp_get (ops.take n) 0 i o hop (by rw [hget i hi']; exact ho') a w (fun k hk => by
          have := j3 k (fun m hm om em q => hk m hm (hdst m om k hm em q).2.2)
          rw [Array.getD_eq_getD_getElem?, Array.getD_eq_getD_getElem?, this]) j4 (fun j hj hu2 => by
            have hjn : j < n := by
              have := earlyB_get ops 0 i o hE ho' j hj
              omega
            refine j5 j hjn (hto j (by omega) (hdeps' j hj)) ?_
            rcases hu2 with q | q
            · rw [q, Nat.zero_add]; exact hxf i hu
            · exact hunc j q hln)
        rw [Nat.zero_add] at hx
        unfold wpOp
        rw [show ops.toArray[i]? = some o by simpa using ho']
        show if Region.wanted o (yielded ops.toArray a.tmps) = true then _ else _
        suffices key : ∀ v w', (tbl.getD i (PredY.val undef)).holds v w' →
            (Below w.heap.size w w' ∨ ∃ d g, d ∈ depsOf o ∧ U d = i ∧ (tbl.getD d (PredY.val undef)).firm = false ∧ held (valS S a d) = some g ∧ B ≤ g ∧ R w g ∧ w.grownBy w' (some g)) →
            ((tbl.getD i (PredY.val undef)).firm = false → ∀ g, held v = some g → g < w'.heap.size ∧ (w.heap.size ≤ g ∨ ∃ d, d ∈ depsOf o ∧ U d = i ∧ (tbl.getD d (PredY.val undef)).firm = false ∧ held (valS S a d) = some g)) → (o.dst = none → v = valS S a i) →
            ((∀ j, n ≤ j → j < ops.length → (l.setIfInBounds i true).getD j true = false) ∧ (a.put o.dst v).defers = a0.defers ∧ (a.put o.dst v).tmps.size = a0.tmps.size ∧ (∀ k, (∀ j, j < n → ∀ o, ops[j]? = some o → o.dst ≠ some k) → (a.put o.dst v).tmps[k]? = a0.tmps[k]?) ∧ Below w0.heap.size w0 w' ∧ (∀ j, j < n → (l.setIfInBounds i true).getD j true = true → (l.setIfInBounds i true).getD (U j) false = false → (tbl.getD j (PredY.val undef)).holds (valS S (a.put o.dst v) j) w') ∧ (∀ j, j < n → (l.setIfInBounds i true).getD j true = true → (l.setIfInBounds i true).getD (U j) false = false → (tbl.getD j (PredY.val undef)).firm = false → ∀ g, held (valS S (a.put o.dst v) j) = some g → g < w'.heap.size) ∧ ApartY tbl n (fun j => (l.setIfInBounds i true).getD j true = true ∧ (l.setIfInBounds i true).getD (U j) false = false) (fun j => valS S (a.put o.dst v) j)) by
          rcases hx with ⟨hw, hx⟩ | ⟨hw, h1, h2, h3⟩
          · rw [if_pos hw]
            exact .inl (hx _ (fun v w' p1 p2 p3 p4 => .inl (key v w' p1 p2 p3 p4)))
          · rw [if_neg (by rw [hw]; simp)]
            exact .inl (key undef w h1 (.inl (Below.refl _ _)) (fun e => by rw [h2] at e; cases e) (fun e => absurd e h3))
        intro v w' hf hg hfresh hsame
        have hnew : valS S (a.put o.dst v) i = v := by
          unfold valS
          cases hd : o.dst with
          | none =>
            rw [hsame hd]; rfl
          | some d =>
            obtain ⟨h1, h2, _⟩ := hdst i o d hi' ho' hd
            show (a.tmps.setIfInBounds d v).getD (S i) undef = v
            have h3 : d < a.tmps.size := by rw [j2]; exact h2
            rw [h1]
            simp [Array.getD, h3]
        have hold : ∀ j, j < n → i ≠ j → l.getD j true = true → valS S (a.put o.dst v) j = valS S a j := fun j hj hji hlj => by
          unfold valS
          cases hd : o.dst with
          | none => rfl
          | some d =>
            show (a.tmps.setIfInBounds d v).getD (S j) undef = _
            have hqi : dstQ ops i = some d := by unfold dstQ; rw [ho']; simp [hd]
            have hne : d ≠ S j := fun q => by
              obtain ⟨oj, ej⟩ := hat j hj
              cases hdj : oj.dst with
              | some d' =>
                have := (hdst j oj d' hj ej hdj).1
                exact hji (hapart i j d hi' hj hqi (by unfold dstQ; rw [ej]; exact hdj.trans (congrArg some (this.symm.trans q.symm))))
              | none =>
                obtain ⟨k, hk1, hk2, hk3⟩ := hnone j oj hj ej hdj
                have hki : i = k := hapart i k d hi' hk2 hqi (by rw [hk3, q])
                obtain ⟨x, hx1, hx2⟩ := List.mem_map.1 hk1
                obtain ⟨hx3, hx4⟩ := List.mem_filter.1 hx1
                have := hc j oj (by simpa using ej) hlj x (by simpa using hx3) hx4
                rw [hx2, ← hki] at this
                rw [hxf i hu] at this; cases this
            rw [Array.getD_eq_getD_getElem?, Array.getD_eq_getD_getElem?, Array.getElem?_setIfInBounds_ne hne]
        have hset' : ∀ j, (l.setIfInBounds i true).getD j false = if i = j then true else l.getD j false := fun j => by
          by_cases h : i = j
          · subst h; rw [if_pos rfl]; simp [Array.getD, hlen, hil]
          · rw [if_neg h, getD_set_ne false h]
        have huse : ∀ j, (l.setIfInBounds i true).getD (U j) false = false → U j ≠ i ∧ l.getD (U j) false = false := fun j h => by
          rw [hset'] at h
          by_cases q : i = U j
          · rw [if_pos q] at h; cases h
          · rw [if_neg q] at h; exact ⟨fun e => q e.symm, h⟩
        have hlist : ∀ j, i ≠ j → (l.setIfInBounds i true).getD j true = true → l.getD j true = true := fun j hne h => by
          rw [hset i hu, if_neg hne] at h; exact h
        have hdep : ∀ d, d ∈ depsOf o → d < n ∧ l.getD d true = true := fun d hd => by
          have := earlyB_get ops 0 i o hE ho' d hd
          exact ⟨by omega, hto d (by omega) (hdeps' d hd)⟩
        have hsize : w.heap.size ≤ w'.heap.size := by
          rcases hg with q | ⟨_, _, _, _, _, _, _, _, q⟩
          · exact q.size
          · exact q.size
        have hbw : Below w0.heap.size w0 w' := by
          rcases hg with q | ⟨_, g, _, _, _, _, hBg, _, q⟩
          · exact j4.trans (q.mono j4.size)
          · exact j4.grown q j4.size (fun k hk => by have : g = k := Option.some.inj hk; omega)
        have hfar : ∀ j, j < n → i ≠ j → l.getD j true = true → U j ≠ i → l.getD (U j) false = false → (tbl.getD i (PredY.val undef)).firm = false → (tbl.getD j (PredY.val undef)).firm = false → ∀ g, held v = some g → held (valS S a j) ≠ some g := fun j hj hji hlj hUi hUj hfi hfj g hgv hgj => by
          rcases (hfresh hfi g hgv).2 with q | ⟨d, hd1, hd2, hd3, hd4⟩
          · have := j6 j hj hlj hUj hfj g hgj
            omega
          · have hdn := hdep d hd1
            exact j7 d j hdn.1 hj (fun e => hUi (by rw [← e]; exact hd2)) ⟨hdn.2, by rw [hd2]; exact hxf i hu⟩ ⟨hlj, hUj⟩ hd3 hfj g hd4 hgj
        refine ⟨fun j h1 h2 => by rw [hset i hu, if_neg (by omega)]; exact hln j h1 h2, by rw [put_defers']; exact j1, by rw [put_size]; exact j2, fun k hk => ?_, hbw, fun j hj hlj hUj => ?_, fun j hj hlj hUj hfj g hgj => ?_, fun j k hj hk hjk hlj hlk hfj hfk g hgj => ?_⟩
        · cases hd : o.dst with
          | none => exact j3 k hk
          | some d =>
            show (a.tmps.setIfInBounds d v)[k]? = _
            rw [Array.getElem?_setIfInBounds_ne (fun e => hk i hi' o ho' (by rw [hd, e]))]
            exact j3 k hk
        · obtain ⟨u1, u2⟩ := huse j hUj
          by_cases hji : i = j
          · subst hji
            rw [hnew]; exact hf
          · have hlj' := hlist j hji hlj
            rw [hold j hj hji hlj']
            have hx := j5 j hj hlj' u2
            rcases hg with q | ⟨d, g, hd1, hd2, hd3, hd4, hd5, hd6, q⟩
            · exact (tbl.getD j (PredY.val undef)).last hx q
            · refine (tbl.getD j (PredY.val undef)).turn hx hd6 q hd5 ?_
              cases hfj : (tbl.getD j (PredY.val undef)).firm with
              | true => exact .inl rfl
              | false =>
                have hdn := hdep d hd1
                exact .inr (j7 d j hdn.1 hj (fun e => u1 (by rw [← e]; exact hd2)) ⟨hdn.2, by rw [hd2]; exact hxf i hu⟩ ⟨hlj', u2⟩ hd3 hfj g hd4)
        · obtain ⟨u1, u2⟩ := huse j hUj
          by_cases hji : i = j
          · subst hji
            rw [hnew] at hgj
            exact (hfresh hfj g hgj).1
          · rw [hold j hj hji (hlist j hji hlj)] at hgj
            have := j6 j hj (hlist j hji hlj) u2 hfj g hgj
            omega
        · obtain ⟨hlj, hUj⟩ := hlj
          obtain ⟨hlk, hUk⟩ := hlk
          obtain ⟨u1, u2⟩ := huse j hUj
          obtain ⟨u3, u4⟩ := huse k hUk
          by_cases hji : i = j
          · subst hji
            have hki : i ≠ k := hjk
            show held (valS S (a.put o.dst v) k) ≠ some g
            rw [hold k hk hki (hlist k hki hlk)]
            simp only [hnew] at hgj
            exact hfar k hk hki (hlist k hki hlk) u3 u4 hfj hfk g hgj
          · simp only [hold j hj hji (hlist j hji hlj)] at hgj
            by_cases hki : i = k
            · subst hki
              show held (valS S (a.put o.dst v) i) ≠ some g
              rw [hnew]
              intro hv
              exact hfar j hj hji (hlist j hji hlj) u1 u2 hfk hfj g hv hgj
            · show held (valS S (a.put o.dst v) k) ≠ some g
              rw [hold k hk hki (hlist k hki hlk)]
              exact j7 j k hj hk hjk ⟨hlist j hji hlj, u2⟩ ⟨hlist k hki hlk, u4⟩ hfj hfk g hgj
      · subst hi'
        have hall : ∀ j, j < i → l.getD j true = true := fun j hj => hto j (by omega) (anc_listed hc hlen _ j i o ho' hdeps' (hanc i (Nat.le_refl _) hil j hj))
        have e := putOps_eqS a (ops.take i) 0 (fun i => valS S a i) a0 j1.symm j2.symm (fun k hk => (j3 k (fun m hm om em q => hk om (List.mem_of_getElem? (by rw [hget m hm]; exact em)) q)).symm) (fun j o d ho hd => by
          have hj : j < i := by
            have := (List.getElem?_eq_some_iff.1 ho).1
            omega
          rw [hget j hj] at ho
          obtain ⟨h1, h2, _⟩ := hdst j o d hj ho hd
          have h3 : d < a.tmps.size := by rw [j2]; exact h2
          rw [Array.getElem?_eq_getElem h3, Nat.zero_add]
          unfold valS
          rw [h1]
          simp [Array.getD, h3])
        have hx := hend (fun i => valS S a i) w j4 (fun i j e => by show valS S a i = valS S a j; unfold valS; rw [e]) (fun j hj hu3 => j5 j hj (hall j hj) (hunc j hu3 hln)) (fun k j hk hj hne huk huj => j7 k j hk hj hne ⟨hall k hk, hunc k huk hln⟩ ⟨hall j hj, hunc j huj hln⟩)
        rw [e] at hx
        have hu' : ∀ m, i < m → m < ops.length → l.getD m true = false := fun m h1 h2 => by
          cases hm : l.getD m true with
          | false => rfl
          | true =>
            exfalso
            have hmo : ops[m]? = some ops[m] := List.getElem?_eq_getElem h2
            have := anc_listed hc hlen _ i m ops[m] hmo (fun k hk => by
              obtain ⟨x, hx, qe⟩ := List.mem_map.1 hk
              obtain ⟨hx1, hx2⟩ := List.mem_filter.1 hx
              have := hc m ops[m] (by simp [h2]) hm x (by simpa using hx1) hx2
              rw [qe] at this; exact this) (hanc m (by omega) h2 i h1)
            rw [hfr i hil hu] at this; cases this
        rw [List.drop_eq_getElem_cons hil] at hx
        have hoe : ops[i] = o := (List.getElem?_eq_some_iff.1 ho').2
        rw [hoe] at hx
        have key : wpOp P ops.toArray Q i (wpList P ops.toArray Q (ops.drop (i + 1))) a w := by
          unfold wpOp
          rw [show ops.toArray[i]? = some o by simpa using ho']
          exact hx
        refine wpOp_mono (fun a' w' hq => .inr ⟨i + 1, by omega, by omega, fun j hj => ?_, fun j h1 h2 => ?_, hq⟩) key
        · rw [hset i hu]
          split
          · rfl
          · exact hall j (by omega)
        · rw [hset i hu, if_neg (by omega)]
          exact hu' j (by omega) h2
      · exfalso
        have := anc_listed hc hlen _ n i o ho' hdeps' (hanc i (by omega) hil n hi')
        rw [hfr n (by omega) (hln n (Nat.le_refl _) (by omega))] at this; cases this
  · by_cases hte : t = ops.length
    · left
      have hall : ∀ i, l.getD i true = true := fun i => by
        rcases Nat.lt_or_ge i ops.length with q | q
        · exact ht3 i (by omega)
        · simp [Array.getD, hlen, Nat.not_lt.mpr q]
      rw [rem_all hall]
      refine ⟨?_, ?_⟩
      · rw [List.eq_nil_iff_forall_not_mem]
        intro i hi
        have := (mem_ready.1 hi).1
        rw [hall i] at this; cases this
      · rw [hte, List.drop_length] at hwp
        exact hwp
    · right
      have htl' : t < ops.length := by omega
      refine ⟨hne ⟨t, ht4 t (Nat.le_refl _) htl'⟩, ?_⟩
      intro i hi
      obtain ⟨o, ho', hu, hdeps'⟩ := hready i hi
      have hil := hin i hu
      have hit : i = t := by
        rcases Nat.lt_trichotomy i t with q | q | q
        · rw [ht3 i q] at hu; cases hu
        · exact q
        · exfalso
          have := anc_listed hc hlen _ t i o ho' hdeps' (hanc i (by omega) hil t q)
          rw [hfr t htl' (ht4 t (Nat.le_refl _) htl')] at this; cases this
      subst hit
      rw [List.drop_eq_getElem_cons hil] at hwp
      have hoe : ops[i] = o := (List.getElem?_eq_some_iff.1 ho').2
      rw [hoe] at hwp
      have key : wpOp P ops.toArray Q i (wpList P ops.toArray Q (ops.drop (i + 1))) a w := by
        unfold wpOp
        rw [show ops.toArray[i]? = some o by simpa using ho']
        exact hwp
      refine wpOp_mono (fun a' w' hq => .inr ⟨i + 1, by omega, by omega, fun j hj => ?_, fun j h1 h2 => ?_, hq⟩) key
      · rw [hset i hu]
        split
        · rfl
        · exact ht3 j (by omega)
      · rw [hset i hu, if_neg (by omega)]
        exact ht4 j (by omega) h2
theorem wp_region_y {P : Program} {id : Nat} {R : World → Nat → Prop} {ops : List Oper} {Q : Exit → Act → World → Prop} {a0 : Act} {w0 : World} (hm : P.follows .mixedOrders = true) (n : Nat) (hn : n ≤ ops.length)
    (S : Nat → Nat) (hB : factsS S ops n a0.tmps.size = true) (hL : tailB ops n = true) (hE : earlyB 0 ops = true) (B : Nat) (hB0 : w0.heap.size ≤ B) (tbl : List (PredY B R)) (U : Nat → Nat)
    (hop : eachOp (fun i o => ∀ a w, (∀ k, (∀ i, i < n → dstQ ops i ≠ some k) → a.tmps.getD k undef = a0.tmps.getD k undef) → Below w0.heap.size w0 w → (∀ j ∈ depsOf o, U j = i ∨ n ≤ U j → (tbl.getD j (PredY.val undef)).holds (valS S a j) w) → DoesY P S ops Q tbl U i o a w) 0 (ops.take n))
    (hend : ∀ (vs : Nat → Value) w, Below w0.heap.size w0 w → (∀ i j, S i = S j → vs i = vs j) → (∀ i, i < n → n ≤ U i → (tbl.getD i (PredY.val undef)).holds (vs i) w) → ApartY tbl n (fun i => n ≤ U i) vs → wpList P ops.toArray Q (ops.drop n) (putOps (ops.take n) 0 vs a0) w) : (Code.region id ops.toArray true).wp P Q a0 w0 :=
  wp_region_any hm (any_y n hn S hB hL hE B hB0 tbl U hop hend)
section
variable {B : Nat} {R : World → Nat → Prop} {P : Program} {S : Nat → Nat} {ops : List Oper} {Q : Exit → Act → World → Prop} {T : List (PredY B R)} {U : Nat → Nat} {i : Nat} {o : Oper} {a : Act} {w : World}
/-- An operation with a slot that tells some value and makes memory at the most. -/
theorem doesY_wp (hw : Region.wanted o (yielded ops.toArray a.tmps) = true) (ho : o.dst ≠ none) (h : ∀ K : Act → World → Prop, (∀ v w', (T.getD i (PredY.val undef)).holds v w' → Below w.heap.size w w' → ((T.getD i (PredY.val undef)).firm = false → ∀ g, held v = some g → g < w'.heap.size ∧ w.heap.size ≤ g) → K (a.put o.dst v) w') → o.wp P a w K Q) : DoesY P S ops Q T U i o a w :=
  .inl ⟨hw, fun K hK => h K fun v w' h1 h2 h3 => hK v w' h1 (.inl h2) (fun e g hg => ⟨(h3 e g hg).1, .inl (h3 e g hg).2⟩) (fun e => absurd e ho)⟩
theorem doesY_val {v : Value} (hw : Region.wanted o (yielded ops.toArray a.tmps) = true) (ho : o.dst ≠ none) (h : (execOp a.eval o).run P w = .ok (.value v) w) (hf : (T.getD i (PredY.val undef)).holds v w) (hfirm : (T.getD i (PredY.val undef)).firm = true) : DoesY P S ops Q T U i o a w :=
  doesY_wp hw ho fun K hK => by
    unfold Oper.wp; rw [h]
    exact hK v w hf (Below.refl _ _) (fun e => by rw [hfirm] at e; cases e)
theorem doesY_call {g : FuncId} {args : Array Value} (hw : Region.wanted o (yielded ops.toArray a.tmps) = true) (ho : o.dst ≠ none) (h : (execOp a.eval o).run P w = .ok (.enter g args) w) (hfirm : (T.getD i (PredY.val undef)).firm = true)
    (hc : Calls P g args w fun e w' => ∃ v, e = .returned v ∧ (T.getD i (PredY.val undef)).holds v w' ∧ Below w.heap.size w w') : DoesY P S ops Q T U i o a w :=
  doesY_wp hw ho fun K hK => by
    unfold Oper.wp; rw [h]
    refine hc.mono ?_
    rintro e w' ⟨v, rfl, h1, h2⟩
    exact hK v w' h1 h2 (fun e => by rw [hfirm] at e; cases e)
end
end Go.Proofs.Ytkagapgganoomaa
/- Stores into blocks of one kind among the operations of a region that draws (FactsY): single operations. Own work. -/
namespace Go.Proofs.Ytkagapgganoomaa
open Go.RowKit
/-- Blocks of type t. -/
abbrev KindB (t : TypeId) : World → Nat → Prop := fun w g => ∃ cs, Blk w g t cs
theorem kind_apart {w : World} {g b : Nat} {t t' : TypeId} {cur : Array Value} {m : Nat × Nat} (h : KindB t w g) (hb : w.heap[b]? = some (.cells cur t' m)) (ht : t ≠ t') : b ≠ g := fun e => by
  subst e
  obtain ⟨cs, hc⟩ := h
  rw [show w.heap[b]? = _ from hc] at hb
  injection hb with hb
  injection hb with _ h2 _
  exact ht h2
theorem own_apart {w : World} {g base : Nat} {t : TypeId} {v : Value} {l : List Nat} (h : KindB t w g) (ho : Own w base v l) (ht : t ≠ 5) : v.ownBlock ≠ some g := fun e => by
  rcases ho.1.2 with ⟨q, _⟩ | ⟨b, cap, cur, q, _, hh, _⟩
  · rw [q] at e; cases e
  · rw [q] at e
    exact kind_apart h hh ht (Option.some.inj e)
/-- A value in which a slice of the region's own lies. -/
def PredY.ownIn {B : Nat} {t : TypeId} (ht : t ≠ 5) (f : Value → Value) (l : List Nat) : PredY B (KindB t) :=
  ⟨fun v w => ∃ y, v = f y ∧ Own w B y l, true, fun ⟨y, e, ho⟩ hb => ⟨y, e, ho.below hb⟩, fun ⟨y, e, ho⟩ hr hg _ _ => ⟨y, e, ho.keep hg (.inr (own_apart hr ho ht))⟩⟩
def PredY.blk {B : Nat} {R : World → Nat → Prop} (t : TypeId) (vs : List Value) : PredY B R := ⟨fun v w => ∃ c, v = .pointer (some ⟨c, 0, none⟩) ∧ B ≤ c ∧ Blk w c t vs, false,
  fun h hb => by obtain ⟨c, e, hB, hc⟩ := h; exact ⟨c, e, hB, hc.below hb hc.lt⟩,
  fun h _ hg _ hne => by
    obtain ⟨c, e, hB, hc⟩ := h
    refine ⟨c, e, hB, hc.grown hg fun q => ?_⟩
    rcases hne with q2 | q2
    · cases q2
    · apply q2; rw [e]; exact q⟩
section
variable {B : Nat} {t : TypeId} {S : Nat → Nat} {ops : List Oper} {Q : Exit → Act → World → Prop} {T : List (PredY B (KindB t))} {U : Nat → Nat} {i : Nat} {o : Oper} {a : Act} {w : World}
theorem doesY_alloc (hw : Region.wanted o (yielded ops.toArray a.tmps) = true) (hd : o.dst ≠ none) (ty : TypeId) (D : List Value) (ho : o.op = .alloc ty) (hz : ∀ w, (zeroValue ty).run Try.prog w = .ok (.agg D.toArray) w) (hB : B ≤ w.heap.size) (hT : T.getD i (PredY.val undef) = .blk ty D) : DoesY Try.prog S ops Q T U i o a w := by
  refine doesY_wp hw hd fun K hK => ?_
  have hf : (T.getD i (PredY.val undef)).holds (.pointer (some ⟨w.heap.size, 0, none⟩)) (w.alloc (.cells D.toArray ty)) := by
    rw [hT]; exact ⟨_, rfl, hB, Blk.new w ty D _ rfl⟩
  unfold Oper.wp execOp
  rw [ho]
  go_simp
  refine hK _ _ hf ((Below.refl _ _).alloc (Nat.le_refl _) _) (fun _ g hg => ?_)
  have : w.heap.size = g := Option.some.inj hg
  simp; omega
theorem doesY_store (hw : Region.wanted o (yielded ops.toArray a.tmps) = true) (p : Nat) (x : Operand) (ho : o.op = .store t (.tmp p) x) (hdst : o.dst = none)
    (d : Nat) (hd : d ∈ depsOf o) (hU : U d = i) (D cs : List Value) (hT : T.getD d (PredY.val undef) = .blk t D) (hS : S d = p) (hSi : S i = p) (hp : (PredY.blk t D : PredY B (KindB t)).holds (a.eval (.tmp p)) w) (hx : a.eval x = .agg cs.toArray) (hlen : cs.length = D.length)
    (hi : (Try.prog.info? t).map (·.size) = some cs.length) (h1 : cs.toArray.all (·.oneCell') = true) (hTi : T.getD i (PredY.val undef) = .blk t cs) : DoesY Try.prog S ops Q T U i o a w := by
  obtain ⟨c, ec, hB, hc⟩ := hp
  have ev : valS S a d = a.eval (.tmp p) := by unfold valS; rw [hS]; rfl
  have evi : valS S a i = a.eval (.tmp p) := by unfold valS; rw [hSi]; rfl
  refine .inl ⟨hw, fun K hK => wp_store_mid t (.tmp p) x ho c 0 cs.toArray ec hx (hc.there _ (by rw [List.size_toArray, hlen])) (by simpa using hi) h1 ?_⟩
  have hg : w.grownBy (w.setCells c 0 cs) (some c) := only_setCells c cs 0 w (World.grownBy.refl w _)
  have hn : Blk (w.setCells c 0 cs) c t cs := hc.whole cs hlen
  have hk := hK (.pointer (some ⟨c, 0, none⟩)) (w.setCells c 0 cs) (by rw [hTi]; exact ⟨c, rfl, hB, hn⟩) (.inr ⟨d, c, hd, hU, by rw [hT]; rfl, by rw [ev, ec]; rfl, hB, ⟨D, hc⟩, hg⟩)
    (fun _ g q => by
      have e : c = g := Option.some.inj q
      subst e
      exact ⟨hn.lt, .inr ⟨d, hd, hU, by rw [hT]; rfl, by rw [ev, ec]; rfl⟩⟩)
    (fun _ => by rw [evi, ec])
  rw [hdst] at hk ⊢
  exact hk
end
end Go.Proofs.Ytkagapgganoomaa

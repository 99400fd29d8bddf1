/- Texts of one subject in one file: RoundIn, RangeFn, RangeFnO, Lasts. Own work. -/
import Derived.Test.YtipdcocliefppaaReg
import Derived.OrdersIn
import Derived.RangeFuncNested
import Derived.Test.YtipdcocliefppaaMem
/- A region that draws its order within a round of a range over a function: whatever walks it outside walks it there too. Own work. -/
namespace Go.Proofs.Ytipdcocliefppaa
open Go.RowKit
variable {P : Program} {r n : Nat} {Q : Exit → Act → World → Prop}
/-- The fence that lets all in, in a round of loop r. -/
abbrev roundF (r : Nat) : Fence := Fence.wide.inRound r
theorem rowsIn_round {row : String} {args : Array Value} {w : World} {R : Value → World → Prop} (h : Rows P row args w R) : RowsIn (roundF r) n P row args w R := fun c cs _ => by
  obtain ⟨v, w', hr, hs⟩ := h c cs
  exact ⟨v, w', hr, stepsIn_wide.2 hs⟩
theorem callsIn_round {f : FuncId} {args : Array Value} {w : World} {R : Ending → World → Prop} (h : Calls P f args w R) : CallsIn (roundF r) n P f args w R := CallsIn.inRound r (callsIn_wide.2 h)
theorem opIn_round {o : Oper} {a : Act} {w : World} {K : Act → World → Prop} (hd : ∀ c, o.op ≠ .defer c) (h : o.wp P a w K Q) : o.wpIn (roundF r) n P a w K Q := by
  refine ⟨fun _ _ => trivial, ?_⟩
  rw [Oper.semAt_eq _ _ _ hd]
  unfold Oper.wp at h
  generalize (execOp a.eval o).run P w = x at h ⊢
  cases x with
  | ok y w' =>
    cases y with
    | value v => exact h
    | skip => exact h
    | defer d => exact h
    | enter f args => exact ⟨fun e => absurd e (by simp [Fence.wide]), callsIn_round h⟩
    | row row args => exact ⟨fun e => absurd e (by simp [Fence.wide]), rowsIn_round h⟩
    | _ => exact h.elim
  | halt y w' => cases y <;> exact h
def noDeferB (ops : Array Oper) : Bool := ops.all fun o => match o.op with | .defer _ => false | _ => true
theorem noDefer {ops : Array Oper} (h : noDeferB ops = true) {i : Nat} {o : Oper} (ho : ops[i]? = some o) : ∀ c, o.op ≠ .defer c := by
  intro c e
  unfold noDeferB at h
  rw [Array.all_eq_true] at h
  obtain ⟨hi, e2⟩ := Array.getElem?_eq_some_iff.1 ho
  have := h i hi
  rw [e2, e] at this
  cases this
theorem anyIn_round {ops : Array Oper} (hd : noDeferB ops = true) (hq : ¬ LetsOut Q) : ∀ (k : Nat) (l : Array Bool) (a : Act) (w : World), wpAny P .any ops Q k l a w → wpAnyIn (roundF r) n P .any ops Q k l a w := by
  intro k
  induction k with
  | zero => intro l a w h; exact h
  | succ k ih =>
    intro l a w h
    refine ⟨h.1, fun i hi => ?_⟩
    have hx := h.2 i hi
    unfold wpOp at hx
    unfold wpOpIn
    cases ho : ops[i]? with
    | none => rw [ho] at hx; exact ih _ _ _ hx
    | some o =>
      rw [ho] at hx
      simp only at hx ⊢
      split
      · rename_i hw
        rw [if_pos hw] at hx
        rcases hx with q | ⟨_, q⟩
        · exact opIn_round (noDefer hd ho) (Oper.wp_mono (fun a w => ih _ a w) q)
        · exact absurd q hq
      · rename_i hw
        rw [if_neg hw] at hx
        exact ⟨fun _ _ => trivial, ih _ _ _ hx⟩
theorem wpIn_region_round {id : Nat} {ops : Array Oper} {a : Act} {w : World} (hm : P.follows .mixedOrders = true) (hd : noDeferB ops = true) (hq : ¬ LetsOut Q) (h : RegAny P ops Q a w) : (Code.region id ops true).wpIn (roundF r) n P Q a w :=
  wpIn_region_draw fun t => by
    simp only [Region.schedule, hm, Bool.true_or, if_true]
    exact wpAnyIn_sound ops.size t _ a _ (anyIn_round hd hq _ _ _ _ h)
theorem opsIn_round {ops : Array Oper} (hd : noDeferB ops = true) (hq : ¬ LetsOut Q) : ∀ (l : List Nat) (a : Act) (w : World), wpOps P ops Q l a w → wpOpsIn (roundF r) n P ops Q l a w
  | [], _, _, h => h
  | i :: l, a, w, h => by
    rw [wpOps_cons] at h
    rw [wpOpsIn_cons]
    unfold wpOp at h
    unfold wpOpIn
    cases ho : ops[i]? with
    | none => rw [ho] at h; exact opsIn_round hd hq l _ _ h
    | some o =>
      rw [ho] at h
      simp only at h ⊢
      split
      · rename_i hw
        rw [if_pos hw] at h
        rcases h with q | ⟨_, q⟩
        · exact opIn_round (noDefer hd ho) (Oper.wp_mono (fun a w => opsIn_round hd hq l a w) q)
        · exact absurd q hq
      · rename_i hw
        rw [if_neg hw] at h
        exact ⟨fun _ _ => trivial, opsIn_round hd hq l _ _ h⟩
/-- A region in order, within a round. -/
theorem wpIn_list_round {id : Nat} {ops : Array Oper} {a : Act} {w : World} (hd : noDeferB ops = true) (hq : ¬ LetsOut Q) (h : wpList P ops Q ops.toList a w) : (Code.region id ops false).wpIn (roundF r) n P Q a w :=
  wpIn_region (opsIn_round hd hq _ _ _ (by rw [List.range_eq_range', ← Array.length_toList, wpOps_eq_wpList ops.toList 0 (by simp)]; exact h))
end Go.Proofs.Ytipdcocliefppaa
/- A range over a function of one's own, which is ended by its rounds alone or runs out: the iterator is told what its caller's invariant says (so it may go on without end where the invariant bounds the rounds). Own work over the library's two steps (the statement's, a round's). -/
namespace Go.Proofs.Ytipdcocliefppaa
open Go.RowKit
variable {P : Program}
/-- What of a world a lasting condition may not mind: new blocks, and turns of blocks from B on that hold no cells. -/
def Lasts (B : Nat) (I : World → Prop) : Prop := ∀ A A', I A → (∃ row, A.grownBy A' row ∧ ∀ r, row = some r → B ≤ r ∧ ∃ o : Obj, A.heap[r]? = some o ∧ o.isCells = false) → I A'
theorem Lasts.put {B : Nat} {I : World → Prop} (h : Lasts B I) {A : World} {l : Nat} {o : Obj} (o' : Obj) (hi : I A) (hB : B ≤ l) (hl : A.heap[l]? = some o) (ho : o.isCells = false) : I (A.putObj l o') :=
  h A _ hi ⟨some l, grownBy_putObj' A l o', fun r e => by cases e; exact ⟨hB, o, hl, ho⟩⟩
theorem Lasts.grow {B : Nat} {I : World → Prop} (h : Lasts B I) {A A' : World} (hi : I A) (hb : Below A.heap.size A A') : I A' :=
  h A _ hi ⟨none, ⟨hb.os, hb.tape, hb.output, hb.size, fun k hk _ => hb.block k hk⟩, fun r e => by cases e⟩
theorem Lasts.and {B : Nat} {I K : World → Prop} (h : Lasts B I) (k : Lasts B K) : Lasts B (fun w => I w ∧ K w) := fun A A' hi hs => ⟨h A A' hi.1 hs, k A A' hi.2 hs⟩
theorem Lasts.ex {B : Nat} {α : Sort _} {I : α → World → Prop} (h : ∀ x, Lasts B (I x)) : Lasts B (fun w => ∃ x, I x w) := fun A A' ⟨x, hi⟩ hs => ⟨x, h x A A' hi hs⟩
theorem Lasts.pure {B : Nat} (p : Prop) : Lasts B (fun _ => p) := fun _ _ hi _ => hi
theorem Lasts.or {B : Nat} {I K : World → Prop} (h : Lasts B I) (k : Lasts B K) : Lasts B (fun w => I w ∨ K w) := fun A A' hi hs => hi.imp (fun x => h A A' x hs) (fun x => k A A' x hs)
/-- A block of cells lasts. -/
theorem lasts_cells {B g : Nat} {cur : Array Value} {t : TypeId} {k : Nat × Nat} : Lasts B (fun w => w.heap[g]? = some (.cells cur t k)) := by
  rintro A A' hi ⟨row, hg, hr⟩
  refine (hg.block g (Array.getElem?_eq_some_iff.1 hi).1 (fun e => ?_)).trans hi
  obtain ⟨_, o, ho, hc⟩ := hr g e.symm
  rw [hi] at ho; cases ho; cases hc
theorem lasts_below {B : Nat} {w : World} (hB : w.heap.size ≤ B) : Lasts B (fun w' => Below w.heap.size w w') := by
  rintro A A' hi ⟨row, hg, hr⟩
  exact hi.grown hg hi.size (fun k e => by have := (hr k e).1; omega)
/-- The two blocks that the statement itself lays. -/
def RecAt (fn : FuncId) (a : Act) (ps : Array Tmp) (assign body : Code) (D : Nat) (st : LoopState) (pe : Option Code) (A : World) : Prop :=
  A.heap[D + 1]? = some (.loop { state := st, pending := pe, fn, tmps := a.tmps, params := ps, assign, body, defers := D }) ∧ A.heap[D]? = some (.deferred (some []))
theorem RecAt.grow {fn : FuncId} {a : Act} {ps : Array Tmp} {assign body : Code} {D : Nat} {st : LoopState} {pe : Option Code} {A A' : World} (h : RecAt fn a ps assign body D st pe A) (hb : Below A.heap.size A A') : RecAt fn a ps assign body D st pe A' :=
  ⟨(hb.block _ (Array.getElem?_eq_some_iff.1 h.1).1).trans h.1, (hb.block _ (Array.getElem?_eq_some_iff.1 h.2).1).trans h.2⟩
theorem RecAt.keep {fn : FuncId} {a : Act} {ps : Array Tmp} {assign body : Code} {D : Nat} {st : LoopState} {pe : Option Code} {A A' : World} (h : RecAt fn a ps assign body D st pe A) (hb : KeepsFrom D A A') : RecAt fn a ps assign body D st pe A' :=
  ⟨hb.same _ _ (by omega) h.1 rfl, hb.same _ _ (Nat.le_refl _) h.2 rfl⟩
theorem RecAt.put {fn : FuncId} {a : Act} {ps : Array Tmp} {assign body : Code} {D : Nat} {st st' : LoopState} {pe pe' : Option Code} {A : World} (h : RecAt fn a ps assign body D st pe A) :
    RecAt fn a ps assign body D st' pe' (A.putObj (D + 1) (.loop { state := st', pending := pe', fn, tmps := a.tmps, params := ps, assign, body, defers := D })) :=
  ⟨World.putObj_heap_same (Array.getElem?_eq_some_iff.1 h.1).1, (World.putObj_heap_other (by omega)).trans h.2⟩
/-- How a round's body may be left. -/
def endPost {α : Type} (D : Nat) (I : List α → World → Prop) (Ix : Code → List α → World → Prop) (xs : List α) (W : World) : Exit → Act → World → Prop
  | .normal, _, W' => KeepsFrom D W W' ∧ I xs W'
  | .ret, _, W' => KeepsFrom D W W' ∧ Ix .ret xs W'
  | .exit id, _, W' => KeepsFrom D W W' ∧ Ix (.exit id) xs W'
  | .goto t, _, W' => KeepsFrom D W W' ∧ Ix (.goto t) xs W'
  | .panic _, _, _ => False
  | .outgrown, _, _ => False
theorem wp_range_fn {α : Type} {g : Operand} {ps : Array Tmp} {assign body : Code} {Q : Exit → Act → World → Prop} {a : Act} {w : World} {gf : Nat} {lb : Array Value}
    (hg : a.eval g = .func (.func gf) #[] lb) (eg : ∀ args w, (callFunc gf args).run P w = .ok (.enter gf args) w) (encs : α → Array Value) (hps : ∀ x, (encs x).size = ps.size)
    (I : List α → World → Prop) (Ix : Code → List α → World → Prop) (Ax : Act → α → Act → World → Prop) (S Sp : List α → Prop)
    (hI : ∀ pre, Lasts w.heap.size (I pre)) (hIx : ∀ c pre, Lasts w.heap.size (Ix c pre)) (hAx : ∀ x b, Lasts w.heap.size (Ax a x b)) (h0 : I [] w)
    (hseq : ∀ (l : Nat) (J Jx : List α → World → Prop) (W : World), Below w.heap.size w W → (∀ pre A, J pre A → I pre A) →
      (∀ pre A A', J pre A → Below A.heap.size A A' → J pre A') → (∀ pre A A', Jx pre A → Below A.heap.size A A' → Jx pre A') →
      (∀ pre x A, J pre A → YieldAt Fence.wide 0 P l (encs x) A fun e A' => (e = .returned (.bool true) ∧ J (pre ++ [x]) A') ∨ (e = .returned (.bool false) ∧ Jx (pre ++ [x]) A')) → J [] W →
      CallsIn Fence.wide 0 P gf (#[.func (.yield l) #[] #[]] ++ lb) W fun e W' => (∃ v, e = .returned v) ∧ ((∃ xs, S xs ∧ J xs W') ∨ (∃ pre, Sp pre ∧ Jx pre W')))
    (hassign : ∀ (l : Nat) (pre : List α) (x : α) (W : World) (K : Act → World → Prop), I pre W → (∀ b W', KeepsFrom w.heap.size W W' → I pre W' → Ax a x b W' → K b W') →
      assign.wpIn (roundF l) 0 P (Exit.then K (fun _ _ _ => False)) { tmps := (ps.zip (encs x)).foldl (fun t (p, v) => t.setIfInBounds p v) a.tmps, defers := [] } W)
    (hbody : ∀ (l : Nat) (pre : List α) (x : α) (b : Act) (W : World), I pre W → Ax a x b W → body.wpIn (roundF l) 0 P (endPost w.heap.size I Ix (pre ++ [x]) W) b W)
    (hdone : ∀ (xs : List α) (W : World), S xs → I xs W → W.heap[w.heap.size]? = some (.deferred (some [])) → Q .normal { a with defers := { target := .collected w.heap.size, args := #[] } :: a.defers } W)
    (hstop : ∀ (c : Code) (pre : List α) (W : World), Sp pre → Ix c pre W → W.heap[w.heap.size]? = some (.deferred (some [])) → c.wp P Q { a with defers := { target := .collected w.heap.size, args := #[] } :: a.defers } W) :
    (Code.rangeFunc g ps assign body).wp P Q a w := by
  refine (wpIn_wide (n := 0)).1 (wpIn_rangeFunc fun fn _ => ?_)
  obtain ⟨D, hD⟩ : ∃ D, D = w.heap.size := ⟨_, rfl⟩
  obtain ⟨W1, hW1⟩ : ∃ W1, W1 = (w.alloc (.deferred (some []))).alloc (.loop { state := .ready, pending := none, fn, tmps := a.tmps, params := ps, assign, body, defers := w.heap.size }) := ⟨_, rfl⟩
  have b1 : Below w.heap.size w W1 := by rw [hW1]; exact ((Below.refl _ w).alloc (Nat.le_refl _) _).alloc (by simp) _
  have r1 : RecAt fn a ps assign body D .ready none W1 := by
    rw [hW1, hD]
    refine ⟨?_, (Below.heap_alloc _ _ _ (by simp)).trans (World.alloc_heap_new w _)⟩
    have := World.alloc_heap_new (w.alloc (.deferred (some []))) (.loop { state := .ready, pending := none, fn, tmps := a.tmps, params := ps, assign, body, defers := w.heap.size })
    rwa [World.size_alloc] at this
  rw [← hD] at hI hIx hAx hassign hbody hdone hstop
  refine ⟨w.heap.size + 1, [{ target := .collected w.heap.size, args := #[] }], W1, { target := .fn (.func gf) lb, args := #[.func (.yield (w.heap.size + 1)) #[] #[]] }, W1, gf, #[.func (.yield (w.heap.size + 1)) #[] #[]] ++ lb, W1, ?_, ?_, fun _ _ => trivial, ?_, fun e => absurd e (by simp [Fence.wide]), ?_⟩
  · rw [hW1]; exact run_enterLoop_outer _ _ _ _ _
  · simp only [resolve, hg]
    simp [go_sem]
  · simp [invoke, go_sem, eg]
  rw [← hD]
  refine (hseq (D + 1) (fun pre A => I pre A ∧ RecAt fn a ps assign body D .ready none A) (fun pre A => ∃ c, Ix c pre A ∧ RecAt fn a ps assign body D .done (some c) A) W1 b1 (fun _ _ h => h.1)
    (fun pre _ _ h hb => ⟨(hI pre).grow h.1 hb, h.2.grow hb⟩) (fun pre _ _ h hb => h.elim fun c h => ⟨c, (hIx c pre).grow h.1 hb, h.2.grow hb⟩) ?_ ⟨(hI []).grow h0 b1, r1⟩).mono ?_
  · rintro pre x A ⟨hi, hrec⟩
    refine ⟨fn, _, assign, body, run_yield hrec.1 (hps x), roundIn_of_wpIn trivial (hassign (D + 1) pre x A _ hi fun b A1 hk1 hi1 hx1 => ?_)⟩
    have q1 := hrec.keep hk1
    refine ⟨_, run_beginRound q1.1 rfl, ?_⟩
    have q2 := q1.put (st' := .busy) (pe' := none)
    have hlt := Nat.le_succ D
    refine wpIn_mono (hbody (D + 1) pre x b _ ((hI pre).put _ hi1 hlt q1.1 rfl) ((hAx x b).put _ hx1 hlt q1.1 rfl)) ?_
    rintro e c A2 hp
    cases e with
    | normal =>
      have q3 := q2.keep hp.1
      exact ⟨_, _, run_endRound none q3.1, .inl ⟨rfl, (hI _).put _ hp.2 hlt q3.1 rfl, q3.put⟩⟩
    | ret =>
      have q3 := q2.keep hp.1
      exact ⟨_, _, run_endRound (some .ret) q3.1, .inr ⟨rfl, _, (hIx _ _).put _ hp.2 hlt q3.1 rfl, q3.put⟩⟩
    | exit id =>
      have q3 := q2.keep hp.1
      exact ⟨_, _, run_endRound (some (.exit id)) q3.1, .inr ⟨rfl, _, (hIx _ _).put _ hp.2 hlt q3.1 rfl, q3.put⟩⟩
    | goto t =>
      have q3 := q2.keep hp.1
      exact ⟨_, _, run_endRound (some (.goto t)) q3.1, .inr ⟨rfl, _, (hIx _ _).put _ hp.2 hlt q3.1 rfl, q3.put⟩⟩
    | panic ch => exact hp.elim
    | outgrown => exact hp.elim
  · rintro e A ⟨⟨v, rfl⟩, hx⟩
    rcases hx with ⟨xs, hs, hi, hrec⟩ | ⟨pre, hs, c, hi, hrec⟩
    · exact ⟨none, _, run_endLoop hrec.1 (by simp), hdone xs _ hs ((hI xs).put _ hi (Nat.le_succ D) hrec.1 rfl) ((World.putObj_heap_other (by omega)).trans hrec.2)⟩
    · exact ⟨some c, _, run_endLoop hrec.1 (by simp), wpIn_wide.2 (hstop c pre _ hs ((hIx c pre).put _ hi (Nat.le_succ D) hrec.1 rfl) ((World.putObj_heap_other (by omega)).trans hrec.2))⟩
end Go.Proofs.Ytipdcocliefppaa
/- A range over a function of one's own, which tells more of what it yields: of the next thing, what stands ahead. Own work over the library's two steps (the statement's, a round's). -/
namespace Go.Proofs.Ytipdcocliefppaa
open Go.RowKit
variable {P : Program}
theorem wp_range_fn_ok {α : Type} {g : Operand} {ps : Array Tmp} {assign body : Code} {Q : Exit → Act → World → Prop} {a : Act} {w : World} {gf : Nat} {lb : Array Value}
    (hg : a.eval g = .func (.func gf) #[] lb) (eg : ∀ args w, (callFunc gf args).run P w = .ok (.enter gf args) w) (encs : α → Array Value) (hps : ∀ x, (encs x).size = ps.size)
    (I : List α → World → Prop) (Ix : Code → List α → World → Prop) (Ax : Act → α → Act → World → Prop) (S Sp : List α → Prop) (N : List α → α → Prop)
    (hI : ∀ pre, Lasts w.heap.size (I pre)) (hIx : ∀ c pre, Lasts w.heap.size (Ix c pre)) (hAx : ∀ x b, Lasts w.heap.size (Ax a x b)) (h0 : I [] w)
    (hseq : ∀ (l : Nat) (J Jx : List α → World → Prop) (W : World), Below w.heap.size w W → (∀ pre A, J pre A → I pre A) →
      (∀ pre A A', J pre A → Below A.heap.size A A' → J pre A') → (∀ pre A A', Jx pre A → Below A.heap.size A A' → Jx pre A') →
      (∀ pre x A, N pre x → J pre A → YieldAt Fence.wide 0 P l (encs x) A fun e A' => (e = .returned (.bool true) ∧ J (pre ++ [x]) A') ∨ (e = .returned (.bool false) ∧ Jx (pre ++ [x]) A')) → J [] W →
      CallsIn Fence.wide 0 P gf (#[.func (.yield l) #[] #[]] ++ lb) W fun e W' => (∃ v, e = .returned v) ∧ ((∃ xs, S xs ∧ J xs W') ∨ (∃ pre, Sp pre ∧ Jx pre W')))
    (hassign : ∀ (l : Nat) (pre : List α) (x : α) (W : World) (K : Act → World → Prop), N pre x → I pre W → (∀ b W', KeepsFrom w.heap.size W W' → I pre W' → Ax a x b W' → K b W') →
      assign.wpIn (roundF l) 0 P (Exit.then K (fun _ _ _ => False)) { tmps := (ps.zip (encs x)).foldl (fun t (p, v) => t.setIfInBounds p v) a.tmps, defers := [] } W)
    (hbody : ∀ (l : Nat) (pre : List α) (x : α) (b : Act) (W : World), N pre x → I pre W → Ax a x b W → body.wpIn (roundF l) 0 P (endPost w.heap.size I Ix (pre ++ [x]) W) b W)
    (hdone : ∀ (xs : List α) (W : World), S xs → I xs W → W.heap[w.heap.size]? = some (.deferred (some [])) → Q .normal { a with defers := { target := .collected w.heap.size, args := #[] } :: a.defers } W)
    (hstop : ∀ (c : Code) (pre : List α) (W : World), Sp pre → Ix c pre W → W.heap[w.heap.size]? = some (.deferred (some [])) → c.wp P Q { a with defers := { target := .collected w.heap.size, args := #[] } :: a.defers } W) :
    (Code.rangeFunc g ps assign body).wp P Q a w := by
  refine (wpIn_wide (n := 0)).1 (wpIn_rangeFunc fun fn _ => ?_)
  obtain ⟨D, hD⟩ : ∃ D, D = w.heap.size := ⟨_, rfl⟩
  obtain ⟨W1, hW1⟩ : ∃ W1, W1 = (w.alloc (.deferred (some []))).alloc (.loop { state := .ready, pending := none, fn, tmps := a.tmps, params := ps, assign, body, defers := w.heap.size }) := ⟨_, rfl⟩
  have b1 : Below w.heap.size w W1 := by rw [hW1]; exact ((Below.refl _ w).alloc (Nat.le_refl _) _).alloc (by simp) _
  have r1 : RecAt fn a ps assign body D .ready none W1 := by
    rw [hW1, hD]
    refine ⟨?_, (Below.heap_alloc _ _ _ (by simp)).trans (World.alloc_heap_new w _)⟩
    have := World.alloc_heap_new (w.alloc (.deferred (some []))) (.loop { state := .ready, pending := none, fn, tmps := a.tmps, params := ps, assign, body, defers := w.heap.size })
    rwa [World.size_alloc] at this
  rw [← hD] at hI hIx hAx hassign hbody hdone hstop
  refine ⟨w.heap.size + 1, [{ target := .collected w.heap.size, args := #[] }], W1, { target := .fn (.func gf) lb, args := #[.func (.yield (w.heap.size + 1)) #[] #[]] }, W1, gf, #[.func (.yield (w.heap.size + 1)) #[] #[]] ++ lb, W1, ?_, ?_, fun _ _ => trivial, ?_, fun e => absurd e (by simp [Fence.wide]), ?_⟩
  · rw [hW1]; exact run_enterLoop_outer _ _ _ _ _
  · simp only [resolve, hg]
    simp [go_sem]
  · simp [invoke, go_sem, eg]
  rw [← hD]
  refine (hseq (D + 1) (fun pre A => I pre A ∧ RecAt fn a ps assign body D .ready none A) (fun pre A => ∃ c, Ix c pre A ∧ RecAt fn a ps assign body D .done (some c) A) W1 b1 (fun _ _ h => h.1)
    (fun pre _ _ h hb => ⟨(hI pre).grow h.1 hb, h.2.grow hb⟩) (fun pre _ _ h hb => h.elim fun c h => ⟨c, (hIx c pre).grow h.1 hb, h.2.grow hb⟩) ?_ ⟨(hI []).grow h0 b1, r1⟩).mono ?_
  · rintro pre x A hN ⟨hi, hrec⟩
    refine ⟨fn, _, assign, body, run_yield hrec.1 (hps x), roundIn_of_wpIn trivial (hassign (D + 1) pre x A _ hN hi fun b A1 hk1 hi1 hx1 => ?_)⟩
    have q1 := hrec.keep hk1
    refine ⟨_, run_beginRound q1.1 rfl, ?_⟩
    have q2 := q1.put (st' := .busy) (pe' := none)
    have hlt := Nat.le_succ D
    refine wpIn_mono (hbody (D + 1) pre x b _ hN ((hI pre).put _ hi1 hlt q1.1 rfl) ((hAx x b).put _ hx1 hlt q1.1 rfl)) ?_
    rintro e c A2 hp
    cases e with
    | normal =>
      have q3 := q2.keep hp.1
      exact ⟨_, _, run_endRound none q3.1, .inl ⟨rfl, (hI _).put _ hp.2 hlt q3.1 rfl, q3.put⟩⟩
    | ret =>
      have q3 := q2.keep hp.1
      exact ⟨_, _, run_endRound (some .ret) q3.1, .inr ⟨rfl, _, (hIx _ _).put _ hp.2 hlt q3.1 rfl, q3.put⟩⟩
    | exit id =>
      have q3 := q2.keep hp.1
      exact ⟨_, _, run_endRound (some (.exit id)) q3.1, .inr ⟨rfl, _, (hIx _ _).put _ hp.2 hlt q3.1 rfl, q3.put⟩⟩
    | goto t =>
      have q3 := q2.keep hp.1
      exact ⟨_, _, run_endRound (some (.goto t)) q3.1, .inr ⟨rfl, _, (hIx _ _).put _ hp.2 hlt q3.1 rfl, q3.put⟩⟩
    | panic ch => exact hp.elim
    | outgrown => exact hp.elim
  · rintro e A ⟨⟨v, rfl⟩, hx⟩
    rcases hx with ⟨xs, hs, hi, hrec⟩ | ⟨pre, hs, c, hi, hrec⟩
    · exact ⟨none, _, run_endLoop hrec.1 (by simp), hdone xs _ hs ((hI xs).put _ hi (Nat.le_succ D) hrec.1 rfl) ((World.putObj_heap_other (by omega)).trans hrec.2)⟩
    · exact ⟨some c, _, run_endLoop hrec.1 (by simp), wpIn_wide.2 (hstop c pre _ hs ((hIx c pre).put _ hi (Nat.le_succ D) hrec.1 rfl) ((World.putObj_heap_other (by omega)).trans hrec.2))⟩
end Go.Proofs.Ytipdcocliefppaa
/- What lies in memory lasts while a range over a function does its own book-keeping. Own work. -/
namespace Go.Proofs.Ytipdcocliefppaa
open Go.RowKit
theorem blk_ne {A : World} {g B : Nat} {t : TypeId} {vs : List Value} {row : Option Nat} (h : Blk A g t vs) (hr : ∀ r, row = some r → B ≤ r ∧ ∃ o : Obj, A.heap[r]? = some o ∧ o.isCells = false) : some g ≠ row := fun e => by
  obtain ⟨_, o, ho, hc⟩ := hr g e.symm
  rw [show A.heap[g]? = _ from h] at ho; cases ho; cases hc
theorem lasts_blk {B g : Nat} {t : TypeId} {vs : List Value} : Lasts B (fun w => Blk w g t vs) := lasts_cells
theorem cell_block {w : World} {a : Addr} {v : Value} (h : w.cell? a = some v) : ∃ o : Obj, w.heap[a.block]? = some o ∧ o.isCells = true := by
  unfold World.cell? at h
  cases ho : w.heap[a.block]? with
  | none => rw [ho] at h; cases h
  | some o =>
    refine ⟨o, rfl, ?_⟩
    rw [ho] at h
    cases o <;> first | rfl | (exfalso; revert h; simp)
theorem lasts_own {B base : Nat} {v : Value} {l : List Nat} : Lasts B (fun w => Own w base v l) := by
  rintro A A' hi ⟨row, hg, hr⟩
  refine hi.keep hg ?_
  rcases hi.1.2 with ⟨e, _⟩ | ⟨g, cap, cur, e, _, hh, _⟩
  · left; rw [e]; rfl
  · right
    rw [e]
    intro q
    obtain ⟨_, o, ho, hc⟩ := hr g q.symm
    rw [hh] at ho; cases ho; cases hc
theorem lasts_size {B k : Nat} : Lasts B (fun w => k ≤ w.heap.size) := fun _ _ hi ⟨_, hg, _⟩ => Nat.le_trans hi hg.size
theorem keeps_below {B : Nat} {w w' : World} (h : Below w.heap.size w w') : KeepsFrom B w w' := ⟨h.size, fun k _ _ hk _ => (h.block k (Array.getElem?_eq_some_iff.1 hk).1).trans hk⟩
theorem keeps_own {B base : Nat} {v : Value} {l : List Nat} {w w' : World} (ho : Own w base v l) (h : w.grownBy w' v.ownBlock) : KeepsFrom B w w' :=
  ⟨h.size, fun k o _ hk hc => (h.block k (Array.getElem?_eq_some_iff.1 hk).1 (fun e => by
    rcases ho.1.2 with ⟨q, _⟩ | ⟨g, cap, cur, q, _, hh, _⟩
    · rw [q] at e; cases e
    · rw [q] at e
      obtain rfl : k = g := Option.some.inj e
      rw [hh] at hk; cases hk; cases hc)).trans hk⟩
end Go.Proofs.Ytipdcocliefppaa

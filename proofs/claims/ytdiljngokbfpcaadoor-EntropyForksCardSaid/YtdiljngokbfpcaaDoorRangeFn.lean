/- A range over a function of one's own, which is ended by its rounds alone or runs out: the iterator is told what its caller's invariant says (so it may go on without end where the invariant bounds the rounds). Own work over the library's two steps (the statement's, a round's). -/
import Derived.Test.YtdiljngokbfpcaaDoorRoundIn
namespace Go.Proofs.YtdiljngokbfpcaaDoor
open Go.RowKit
variable {P : Program}
/-- What of a world a lasting condition may not mind: new blocks, and turns of blocks from B on that hold no cells. -/
def Lasts (B : Nat) (I : World → Prop) : Prop := ∀ A A', I A → (∃ row, A.grownBy A' row ∧ ∀ r, row = some r → B ≤ r ∧ ∃ o : Obj, A.heap[r]? = some o ∧ o.isCells = false) → I A'
theorem Lasts.put {B : Nat} {I : World → Prop} (h : Lasts B I) {A : World} {l : Nat} {o : Obj} (o' : Obj) (hi : I A) (hB : B ≤ l) (hl : A.heap[l]? = some o) (ho : o.isCells = false) : I (A.putObj l o') :=
  h A _ hi ⟨some l, grownBy_putObj' A l o', fun r e => by cases e; exact ⟨hB, o, hl, ho⟩⟩
theorem Lasts.grow {B : Nat} {I : World → Prop} (h : Lasts B I) {A A' : World} (hi : I A) (hb : Below A.heap.size A A') : I A' :=
  h A _ hi ⟨none, ⟨hb.os, hb.tape, hb.output, hb.size, fun k hk _ => hb.block k hk⟩, fun r e => by cases e⟩
theorem Lasts.and {B : Nat} {I K : World → Prop} (h : Lasts B I) (k : Lasts B K) : Lasts B (fun w => I w ∧ K w) := fun A A' hi hs => ⟨h A A' hi.1 hs, k A A' hi.2 hs⟩
theorem Lasts.ex {B : Nat} {α : Sort _} {I : α → World → Prop} (h : ∀ x, Lasts B (I x)) : Lasts B (fun w => ∃ x, I x w) := fun A A' ⟨x, hi⟩ hs => ⟨x, h x A A' hi hs⟩
theorem Lasts.pure {B : Nat} (p : Prop) : Lasts B (fun _ => p) := fun _ _ hi _ => hi
theorem Lasts.or {B : Nat} {I K : World → Prop} (h : Lasts B I) (k : Lasts B K) : Lasts B (fun w => I w ∨ K w) := fun A A' hi hs => hi.imp (fun x => h A A' x hs) (fun x => k A A' x hs)
/-- A block of cells lasts. -/
theorem lasts_cells {B g : Nat} {cur : Array Value} {t : TypeId} {k : Nat × Nat} : Lasts B (fun w => w.heap[g]? = some (.cells cur t k)) := by
  rintro A A' hi ⟨row, hg, hr⟩
  refine (hg.block g (Array.getElem?_eq_some_iff.1 hi).1 (fun e => ?_)).trans hi
  obtain ⟨_, o, ho, hc⟩ := hr g e.symm
  rw [hi] at ho; cases ho; cases hc
theorem lasts_below {B : Nat} {w : World} (hB : w.heap.size ≤ B) : Lasts B (fun w' => Below w.heap.size w w') := by
  rintro A A' hi ⟨row, hg, hr⟩
  exact hi.grown hg hi.size (fun k e => by have := (hr k e).1; omega)
/-- The two blocks that the statement itself lays. -/
def RecAt (fn : FuncId) (a : Act) (ps : Array Tmp) (assign body : Code) (D : Nat) (st : LoopState) (pe : Option Code) (A : World) : Prop :=
  A.heap[D + 1]? = some (.loop { state := st, pending := pe, fn, tmps := a.tmps, params := ps, assign, body, defers := D }) ∧ A.heap[D]? = some (.deferred (some []))
theorem RecAt.grow {fn : FuncId} {a : Act} {ps : Array Tmp} {assign body : Code} {D : Nat} {st : LoopState} {pe : Option Code} {A A' : World} (h : RecAt fn a ps assign body D st pe A) (hb : Below A.heap.size A A') : RecAt fn a ps assign body D st pe A' :=
  ⟨(hb.block _ (Array.getElem?_eq_some_iff.1 h.1).1).trans h.1, (hb.block _ (Array.getElem?_eq_some_iff.1 h.2).1).trans h.2⟩
theorem RecAt.keep {fn : FuncId} {a : Act} {ps : Array Tmp} {assign body : Code} {D : Nat} {st : LoopState} {pe : Option Code} {A A' : World} (h : RecAt fn a ps assign body D st pe A) (hb : KeepsFrom D A A') : RecAt fn a ps assign body D st pe A' :=
  ⟨hb.same _ _ (by omega) h.1 rfl, hb.same _ _ (Nat.le_refl _) h.2 rfl⟩
theorem RecAt.put {fn : FuncId} {a : Act} {ps : Array Tmp} {assign body : Code} {D : Nat} {st st' : LoopState} {pe pe' : Option Code} {A : World} (h : RecAt fn a ps assign body D st pe A) :
    RecAt fn a ps assign body D st' pe' (A.putObj (D + 1) (.loop { state := st', pending := pe', fn, tmps := a.tmps, params := ps, assign, body, defers := D })) :=
  ⟨World.putObj_heap_same (Array.getElem?_eq_some_iff.1 h.1).1, (World.putObj_heap_other (by omega)).trans h.2⟩
/-- How a round's body may be left. -/
def endPost {α : Type} (D : Nat) (I : List α → World → Prop) (Ix : Code → List α → World → Prop) (xs : List α) (W : World) : Exit → Act → World → Prop
  | .normal, _, W' => KeepsFrom D W W' ∧ I xs W'
  | .ret, _, W' => KeepsFrom D W W' ∧ Ix .ret xs W'
  | .exit id, _, W' => KeepsFrom D W W' ∧ Ix (.exit id) xs W'
  | .goto t, _, W' => KeepsFrom D W W' ∧ Ix (.goto t) xs W'
  | .panic _, _, _ => False
  | .outgrown, _, _ => False
theorem wp_range_fn {α : Type} {g : Operand} {ps : Array Tmp} {assign body : Code} {Q : Exit → Act → World → Prop} {a : Act} {w : World} {gf : Nat} {lb : Array Value}
    (hg : a.eval g = .func (.func gf) #[] lb) (eg : ∀ args w, (callFunc gf args).run P w = .ok (.enter gf args) w) (encs : α → Array Value) (hps : ∀ x, (encs x).size = ps.size)
    (I : List α → World → Prop) (Ix : Code → List α → World → Prop) (Ax : Act → α → Act → World → Prop) (S Sp : List α → Prop)
    (hI : ∀ pre, Lasts w.heap.size (I pre)) (hIx : ∀ c pre, Lasts w.heap.size (Ix c pre)) (hAx : ∀ x b, Lasts w.heap.size (Ax a x b)) (h0 : I [] w)
    (hseq : ∀ (l : Nat) (J Jx : List α → World → Prop) (W : World), Below w.heap.size w W → (∀ pre A, J pre A → I pre A) →
      (∀ pre A A', J pre A → Below A.heap.size A A' → J pre A') → (∀ pre A A', Jx pre A → Below A.heap.size A A' → Jx pre A') →
      (∀ pre x A, J pre A → YieldAt Fence.wide 0 P l (encs x) A fun e A' => (e = .returned (.bool true) ∧ J (pre ++ [x]) A') ∨ (e = .returned (.bool false) ∧ Jx (pre ++ [x]) A')) → J [] W →
      CallsIn Fence.wide 0 P gf (#[.func (.yield l) #[] #[]] ++ lb) W fun e W' => (∃ v, e = .returned v) ∧ ((∃ xs, S xs ∧ J xs W') ∨ (∃ pre, Sp pre ∧ Jx pre W')))
    (hassign : ∀ (l : Nat) (pre : List α) (x : α) (W : World) (K : Act → World → Prop), I pre W → (∀ b W', KeepsFrom w.heap.size W W' → I pre W' → Ax a x b W' → K b W') →
      assign.wpIn (roundF l) 0 P (Exit.then K (fun _ _ _ => False)) { tmps := (ps.zip (encs x)).foldl (fun t (p, v) => t.setIfInBounds p v) a.tmps, defers := [] } W)
    (hbody : ∀ (l : Nat) (pre : List α) (x : α) (b : Act) (W : World), I pre W → Ax a x b W → body.wpIn (roundF l) 0 P (endPost w.heap.size I Ix (pre ++ [x]) W) b W)
    (hdone : ∀ (xs : List α) (W : World), S xs → I xs W → W.heap[w.heap.size]? = some (.deferred (some [])) → Q .normal { a with defers := { target := .collected w.heap.size, args := #[] } :: a.defers } W)
    (hstop : ∀ (c : Code) (pre : List α) (W : World), Sp pre → Ix c pre W → W.heap[w.heap.size]? = some (.deferred (some [])) → c.wp P Q { a with defers := { target := .collected w.heap.size, args := #[] } :: a.defers } W) :
    (Code.rangeFunc g ps assign body).wp P Q a w := by
  refine (wpIn_wide (n := 0)).1 (wpIn_rangeFunc fun fn _ => ?_)
  obtain ⟨D, hD⟩ : ∃ D, D = w.heap.size := ⟨_, rfl⟩
  obtain ⟨W1, hW1⟩ : ∃ W1, W1 = (w.alloc (.deferred (some []))).alloc (.loop { state := .ready, pending := none, fn, tmps := a.tmps, params := ps, assign, body, defers := w.heap.size }) := ⟨_, rfl⟩
  have b1 : Below w.heap.size w W1 := by rw [hW1]; exact ((Below.refl _ w).alloc (Nat.le_refl _) _).alloc (by simp) _
  have r1 : RecAt fn a ps assign body D .ready none W1 := by
    rw [hW1, hD]
    refine ⟨?_, (Below.heap_alloc _ _ _ (by simp)).trans (World.alloc_heap_new w _)⟩
    have := World.alloc_heap_new (w.alloc (.deferred (some []))) (.loop { state := .ready, pending := none, fn, tmps := a.tmps, params := ps, assign, body, defers := w.heap.size })
    rwa [World.size_alloc] at this
  rw [← hD] at hI hIx hAx hassign hbody hdone hstop
  refine ⟨w.heap.size + 1, [{ target := .collected w.heap.size, args := #[] }], W1, { target := .fn (.func gf) lb, args := #[.func (.yield (w.heap.size + 1)) #[] #[]] }, W1, gf, #[.func (.yield (w.heap.size + 1)) #[] #[]] ++ lb, W1, ?_, ?_, fun _ _ => trivial, ?_, fun e => absurd e (by simp [Fence.wide]), ?_⟩
  · rw [hW1]; exact run_enterLoop_outer _ _ _ _ _
  · simp only [resolve, hg]
    simp [go_sem]
  · simp [invoke, go_sem, eg]
  rw [← hD]
  refine (hseq (D + 1) (fun pre A => I pre A ∧ RecAt fn a ps assign body D .ready none A) (fun pre A => ∃ c, Ix c pre A ∧ RecAt fn a ps assign body D .done (some c) A) W1 b1 (fun _ _ h => h.1)
    (fun pre _ _ h hb => ⟨(hI pre).grow h.1 hb, h.2.grow hb⟩) (fun pre _ _ h hb => h.elim fun c h => ⟨c, (hIx c pre).grow h.1 hb, h.2.grow hb⟩) ?_ ⟨(hI []).grow h0 b1, r1⟩).mono ?_
  · rintro pre x A ⟨hi, hrec⟩
    refine ⟨fn, _, assign, body, run_yield hrec.1 (hps x), roundIn_of_wpIn trivial (hassign (D + 1) pre x A _ hi fun b A1 hk1 hi1 hx1 => ?_)⟩
    have q1 := hrec.keep hk1
    refine ⟨_, run_beginRound q1.1 rfl, ?_⟩
    have q2 := q1.put (st' := .busy) (pe' := none)
    have hlt := Nat.le_succ D
    refine wpIn_mono (hbody (D + 1) pre x b _ ((hI pre).put _ hi1 hlt q1.1 rfl) ((hAx x b).put _ hx1 hlt q1.1 rfl)) ?_
    rintro e c A2 hp
    cases e with
    | normal =>
      have q3 := q2.keep hp.1
      exact ⟨_, _, run_endRound none q3.1, .inl ⟨rfl, (hI _).put _ hp.2 hlt q3.1 rfl, q3.put⟩⟩
    | ret =>
      have q3 := q2.keep hp.1
      exact ⟨_, _, run_endRound (some .ret) q3.1, .inr ⟨rfl, _, (hIx _ _).put _ hp.2 hlt q3.1 rfl, q3.put⟩⟩
    | exit id =>
      have q3 := q2.keep hp.1
      exact ⟨_, _, run_endRound (some (.exit id)) q3.1, .inr ⟨rfl, _, (hIx _ _).put _ hp.2 hlt q3.1 rfl, q3.put⟩⟩
    | goto t =>
      have q3 := q2.keep hp.1
      exact ⟨_, _, run_endRound (some (.goto t)) q3.1, .inr ⟨rfl, _, (hIx _ _).put _ hp.2 hlt q3.1 rfl, q3.put⟩⟩
    | panic ch => exact hp.elim
    | outgrown => exact hp.elim
  · rintro e A ⟨⟨v, rfl⟩, hx⟩
    rcases hx with ⟨xs, hs, hi, hrec⟩ | ⟨pre, hs, c, hi, hrec⟩
    · exact ⟨none, _, run_endLoop hrec.1 (by simp), hdone xs _ hs ((hI xs).put _ hi (Nat.le_succ D) hrec.1 rfl) ((World.putObj_heap_other (by omega)).trans hrec.2)⟩
    · exact ⟨some c, _, run_endLoop hrec.1 (by simp), wpIn_wide.2 (hstop c pre _ hs ((hIx c pre).put _ hi (Nat.le_succ D) hrec.1 rfl) ((World.putObj_heap_other (by omega)).trans hrec.2))⟩
end Go.Proofs.YtdiljngokbfpcaaDoor

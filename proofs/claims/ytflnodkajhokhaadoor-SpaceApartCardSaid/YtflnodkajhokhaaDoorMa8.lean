/- Texts of 7 subjects in one file: Rng, CopyZ, DevGD, DevGE, DevDev, XtsSec, XtsDo. Own work. -/
import Derived.Test.YtflnodkajhokhaaDoorMa1
import Derived.OrdersIn
import Derived.RangeFuncNested
import Derived.Test.YtflnodkajhokhaaDoorMa0
import Derived.Test.YtflnodkajhokhaaDoorMa2
import Derived.Test.YtflnodkajhokhaaDoorMa7
import Derived.RangeFuncBound
import Derived.RangeFuncLeaves
import Derived.Shelf.Abstract
import Derived.Shelf.RegionOpen
import Derived.OwnWalkIn
import Derived.TacticsInMore
import Derived.LoopNIn
import Derived.LoopIn
import Derived.WalkSmall
import Derived.Test.YtflnodkajhokhaaDoorMa5
import Derived.Test.YtflnodkajhokhaaDoorMa3
import Derived.Deep.DeepCutAuto
section
namespace Go.Proofs.YtflnodkajhokhaaDoor
open Go.RowKit
variable {P : Program} {r n : Nat} {Q : Exit -> Act -> World -> Prop}
abbrev roundF (r : Nat) : Fence := Fence.wide.inRound r
theorem rowsIn_round {row : String} {args : Array Value} {w : World} {R : Value -> World -> Prop} (h : Rows P row args w R) : RowsIn (roundF r) n P row args w R := fun c cs _ => by
  obtain ⟨v, w', hr, hs⟩ := h c cs
  exact ⟨v, w', hr, stepsIn_wide.2 hs⟩
theorem callsIn_round {f : FuncId} {args : Array Value} {w : World} {R : Ending -> World -> Prop} (h : Calls P f args w R) : CallsIn (roundF r) n P f args w R := CallsIn.inRound r (callsIn_wide.2 h)
theorem opIn_round {o : Oper} {a : Act} {w : World} {K : Act -> World -> Prop} (hd : ∀ c, o.op ≠ .defer c) (h : o.wp P a w K Q) : o.wpIn (roundF r) n P a w K Q := by
  refine ⟨fun _ _ => trivial, ?_⟩
  rw [Oper.semAt_eq _ _ _ hd]
  unfold Oper.wp at h
  generalize (execOp a.eval o).run P w = x at h ⊢
  cases x with
  | ok y w' =>
    cases y with
    | value v => exact h
    | skip => exact h
    | defer d => exact h
    | enter f args => exact ⟨fun e => absurd e (by simp [Fence.wide]), callsIn_round h⟩
    | row row args => exact ⟨fun e => absurd e (by simp [Fence.wide]), rowsIn_round h⟩
    | _ => exact h.elim
  | halt y w' => cases y <;> exact h
def noDeferB (ops : Array Oper) : Bool := ops.all fun o => match o.op with | .defer _ => false | _ => true
theorem noDefer {ops : Array Oper} (h : noDeferB ops = true) {i : Nat} {o : Oper} (ho : ops[i]? = some o) : ∀ c, o.op ≠ .defer c := by
  intro c e
  unfold noDeferB at h
  rw [Array.all_eq_true] at h
  obtain ⟨hi, e2⟩ := Array.getElem?_eq_some_iff.1 ho
  have := h i hi
  rw [e2, e] at this
  cases this
theorem anyIn_round {ops : Array Oper} (hd : noDeferB ops = true) (hq : ¬ LetsOut Q) : ∀ (k : Nat) (l : Array Bool) (a : Act) (w : World), wpAny P .any ops Q k l a w -> wpAnyIn (roundF r) n P .any ops Q k l a w := by
  intro k
  induction k with
  | zero => intro l a w h; exact h
  | succ k ih =>
    intro l a w h
    refine ⟨h.1, fun i hi => ?_⟩
    have hx := h.2 i hi
    unfold wpOp at hx
    unfold wpOpIn
    cases ho : ops[i]? with
    | none => rw [ho] at hx; exact ih _ _ _ hx
    | some o =>
      rw [ho] at hx
      simp only at hx ⊢
      split
      . rename_i hw
        rw [if_pos hw] at hx
        rcases hx with q | ⟨_, q⟩
        . exact opIn_round (noDefer hd ho) (Oper.wp_mono (fun a w => ih _ a w) q)
        . exact absurd q hq
      . rename_i hw
        rw [if_neg hw] at hx
        exact ⟨fun _ _ => trivial, ih _ _ _ hx⟩
theorem wpIn_region_round {id : Nat} {ops : Array Oper} {a : Act} {w : World} (hm : P.follows .mixedOrders = true) (hd : noDeferB ops = true) (hq : ¬ LetsOut Q) (h : RegAny P ops Q a w) : (Code.region id ops true).wpIn (roundF r) n P Q a w :=
  wpIn_region_draw fun t => by
    simp only [Region.schedule, hm, Bool.true_or, if_true]
    exact wpAnyIn_sound ops.size t _ a _ (anyIn_round hd hq _ _ _ _ h)
theorem opsIn_round {ops : Array Oper} (hd : noDeferB ops = true) (hq : ¬ LetsOut Q) : ∀ (l : List Nat) (a : Act) (w : World), wpOps P ops Q l a w -> wpOpsIn (roundF r) n P ops Q l a w
  | [], _, _, h => h
  | i :: l, a, w, h => by
    rw [wpOps_cons] at h
    rw [wpOpsIn_cons]
    unfold wpOp at h
    unfold wpOpIn
    cases ho : ops[i]? with
    | none => rw [ho] at h; exact opsIn_round hd hq l _ _ h
    | some o =>
      rw [ho] at h
      simp only at h ⊢
      split
      . rename_i hw
        rw [if_pos hw] at h
        rcases h with q | ⟨_, q⟩
        . exact opIn_round (noDefer hd ho) (Oper.wp_mono (fun a w => opsIn_round hd hq l a w) q)
        . exact absurd q hq
      . rename_i hw
        rw [if_neg hw] at h
        exact ⟨fun _ _ => trivial, opsIn_round hd hq l _ _ h⟩
theorem wpIn_list_round {id : Nat} {ops : Array Oper} {a : Act} {w : World} (hd : noDeferB ops = true) (hq : ¬ LetsOut Q) (h : wpList P ops Q ops.toList a w) : (Code.region id ops false).wpIn (roundF r) n P Q a w :=
  wpIn_region (opsIn_round hd hq _ _ _ (by rw [List.range_eq_range', <- Array.length_toList, wpOps_eq_wpList ops.toList 0 (by simp)]; exact h))
end Go.Proofs.YtflnodkajhokhaaDoor
namespace Go.Proofs.YtflnodkajhokhaaDoor
open Go.RowKit
variable {P : Program}
def Lasts (B : Nat) (I : World -> Prop) : Prop := ∀ A A', I A -> (∃ row, A.grownBy A' row /\ ∀ r, row = some r -> B <= r /\ ∃ o : Obj, A.heap[r]? = some o /\ o.isCells = false) -> I A'
theorem Lasts.put {B : Nat} {I : World -> Prop} (h : Lasts B I) {A : World} {l : Nat} {o : Obj} (o' : Obj) (hi : I A) (hB : B <= l) (hl : A.heap[l]? = some o) (ho : o.isCells = false) : I (A.putObj l o') :=
  h A _ hi ⟨some l, grownBy_putObj' A l o', fun r e => by cases e; exact ⟨hB, o, hl, ho⟩⟩
theorem Lasts.grow {B : Nat} {I : World -> Prop} (h : Lasts B I) {A A' : World} (hi : I A) (hb : Below A.heap.size A A') : I A' :=
  h A _ hi ⟨none, ⟨hb.os, hb.tape, hb.output, hb.size, fun k hk _ => hb.block k hk⟩, fun r e => by cases e⟩
theorem Lasts.ex {B : Nat} {α : Sort _} {I : α -> World -> Prop} (h : ∀ x, Lasts B (I x)) : Lasts B (fun w => ∃ x, I x w) := fun A A' ⟨x, hi⟩ hs => ⟨x, h x A A' hi hs⟩
theorem Lasts.pure {B : Nat} (p : Prop) : Lasts B (fun _ => p) := fun _ _ hi _ => hi
theorem lasts_cells {B g : Nat} {cur : Array Value} {t : TypeId} {k : Nat × Nat} : Lasts B (fun w => w.heap[g]? = some (.cells cur t k)) := by
  rintro A A' hi ⟨row, hg, hr⟩
  refine (hg.block g (Array.getElem?_eq_some_iff.1 hi).1 (fun e => ?_)).trans hi
  obtain ⟨_, o, ho, hc⟩ := hr g e.symm
  rw [hi] at ho; cases ho; cases hc
def RecAt (fn : FuncId) (a : Act) (ps : Array Tmp) (assign body : Code) (D : Nat) (st : LoopState) (pe : Option Code) (A : World) : Prop :=
  A.heap[D + 1]? = some (.loop { state := st, pending := pe, fn, tmps := a.tmps, params := ps, assign, body, defers := D }) /\ A.heap[D]? = some (.deferred (some []))
theorem RecAt.grow {fn : FuncId} {a : Act} {ps : Array Tmp} {assign body : Code} {D : Nat} {st : LoopState} {pe : Option Code} {A A' : World} (h : RecAt fn a ps assign body D st pe A) (hb : Below A.heap.size A A') : RecAt fn a ps assign body D st pe A' :=
  ⟨(hb.block _ (Array.getElem?_eq_some_iff.1 h.1).1).trans h.1, (hb.block _ (Array.getElem?_eq_some_iff.1 h.2).1).trans h.2⟩
theorem RecAt.keep {fn : FuncId} {a : Act} {ps : Array Tmp} {assign body : Code} {D : Nat} {st : LoopState} {pe : Option Code} {A A' : World} (h : RecAt fn a ps assign body D st pe A) (hb : KeepsFrom D A A') : RecAt fn a ps assign body D st pe A' :=
  ⟨hb.same _ _ (by omega) h.1 rfl, hb.same _ _ (Nat.le_refl _) h.2 rfl⟩
theorem RecAt.put {fn : FuncId} {a : Act} {ps : Array Tmp} {assign body : Code} {D : Nat} {st st' : LoopState} {pe pe' : Option Code} {A : World} (h : RecAt fn a ps assign body D st pe A) :
    RecAt fn a ps assign body D st' pe' (A.putObj (D + 1) (.loop { state := st', pending := pe', fn, tmps := a.tmps, params := ps, assign, body, defers := D })) :=
  ⟨World.putObj_heap_same (Array.getElem?_eq_some_iff.1 h.1).1, (World.putObj_heap_other (by omega)).trans h.2⟩
def endPost {α : Type} (D : Nat) (I : List α -> World -> Prop) (Ix : Code -> List α -> World -> Prop) (xs : List α) (W : World) : Exit -> Act -> World -> Prop
  | .normal, _, W' => KeepsFrom D W W' /\ I xs W'
  | .ret, _, W' => KeepsFrom D W W' /\ Ix .ret xs W'
  | .exit id, _, W' => KeepsFrom D W W' /\ Ix (.exit id) xs W'
  | .goto t, _, W' => KeepsFrom D W W' /\ Ix (.goto t) xs W'
  | .panic _, _, _ => False
  | .outgrown, _, _ => False
end Go.Proofs.YtflnodkajhokhaaDoor
namespace Go.Proofs.YtflnodkajhokhaaDoor
open Go.RowKit
variable {P : Program}
theorem wp_range_fn_ok {α : Type} {g : Operand} {ps : Array Tmp} {assign body : Code} {Q : Exit -> Act -> World -> Prop} {a : Act} {w : World} {gf : Nat} {lb : Array Value}
    (hg : a.eval g = .func (.func gf) #[] lb) (eg : ∀ args w, (callFunc gf args).run P w = .ok (.enter gf args) w) (encs : α -> Array Value) (hps : ∀ x, (encs x).size = ps.size)
    (I : List α -> World -> Prop) (Ix : Code -> List α -> World -> Prop) (Ax : Act -> α -> Act -> World -> Prop) (S Sp : List α -> Prop) (N : List α -> α -> Prop)
    (hI : ∀ pre, Lasts w.heap.size (I pre)) (hIx : ∀ c pre, Lasts w.heap.size (Ix c pre)) (hAx : ∀ x b, Lasts w.heap.size (Ax a x b)) (h0 : I [] w)
    (hseq : ∀ (l : Nat) (J Jx : List α -> World -> Prop) (W : World), Below w.heap.size w W -> (∀ pre A, J pre A -> I pre A) ->
      (∀ pre A A', J pre A -> Below A.heap.size A A' -> J pre A') -> (∀ pre A A', Jx pre A -> Below A.heap.size A A' -> Jx pre A') ->
      (∀ pre x A, N pre x -> J pre A -> YieldAt Fence.wide 0 P l (encs x) A fun e A' => (e = .returned (.bool true) /\ J (pre ++ [x]) A') \/ (e = .returned (.bool false) /\ Jx (pre ++ [x]) A')) -> J [] W ->
      CallsIn Fence.wide 0 P gf (#[.func (.yield l) #[] #[]] ++ lb) W fun e W' => (∃ v, e = .returned v) /\ ((∃ xs, S xs /\ J xs W') \/ (∃ pre, Sp pre /\ Jx pre W')))
    (hassign : ∀ (l : Nat) (pre : List α) (x : α) (W : World) (K : Act -> World -> Prop), N pre x -> I pre W -> (∀ b W', KeepsFrom w.heap.size W W' -> I pre W' -> Ax a x b W' -> K b W') ->
      assign.wpIn (roundF l) 0 P (Exit.then K (fun _ _ _ => False)) { tmps := (ps.zip (encs x)).foldl (fun t (p, v) => t.setIfInBounds p v) a.tmps, defers := [] } W)
    (hbody : ∀ (l : Nat) (pre : List α) (x : α) (b : Act) (W : World), N pre x -> I pre W -> Ax a x b W -> body.wpIn (roundF l) 0 P (endPost w.heap.size I Ix (pre ++ [x]) W) b W)
    (hdone : ∀ (xs : List α) (W : World), S xs -> I xs W -> W.heap[w.heap.size]? = some (.deferred (some [])) -> Q .normal { a with defers := { target := .collected w.heap.size, args := #[] } :: a.defers } W)
    (hstop : ∀ (c : Code) (pre : List α) (W : World), Sp pre -> Ix c pre W -> W.heap[w.heap.size]? = some (.deferred (some [])) -> c.wp P Q { a with defers := { target := .collected w.heap.size, args := #[] } :: a.defers } W) :
    (Code.rangeFunc g ps assign body).wp P Q a w := by
  refine (wpIn_wide (n := 0)).1 (wpIn_rangeFunc fun fn _ => ?_)
  obtain ⟨D, hD⟩ : ∃ D, D = w.heap.size := ⟨_, rfl⟩
  obtain ⟨W1, hW1⟩ : ∃ W1, W1 = (w.alloc (.deferred (some []))).alloc (.loop { state := .ready, pending := none, fn, tmps := a.tmps, params := ps, assign, body, defers := w.heap.size }) := ⟨_, rfl⟩
  have b1 : Below w.heap.size w W1 := by rw [hW1]; exact ((Below.refl _ w).alloc (Nat.le_refl _) _).alloc (by simp) _
  have r1 : RecAt fn a ps assign body D .ready none W1 := by
    rw [hW1, hD]
    refine ⟨?_, (Below.heap_alloc _ _ _ (by simp)).trans (World.alloc_heap_new w _)⟩
    have := World.alloc_heap_new (w.alloc (.deferred (some []))) (.loop { state := .ready, pending := none, fn, tmps := a.tmps, params := ps, assign, body, defers := w.heap.size })
    rwa [World.size_alloc] at this
  rw [<- hD] at hI hIx hAx hassign hbody hdone hstop
  refine ⟨w.heap.size + 1, [{ target := .collected w.heap.size, args := #[] }], W1, { target := .fn (.func gf) lb, args := #[.func (.yield (w.heap.size + 1)) #[] #[]] }, W1, gf, #[.func (.yield (w.heap.size + 1)) #[] #[]] ++ lb, W1, ?_, ?_, fun _ _ => trivial, ?_, fun e => absurd e (by simp [Fence.wide]), ?_⟩
  . rw [hW1]; exact run_enterLoop_outer _ _ _ _ _
  . simp only [resolve, hg]
    simp [go_sem]
  . simp [invoke, go_sem, eg]
  rw [<- hD]
  refine (hseq (D + 1) (fun pre A => I pre A /\ RecAt fn a ps assign body D .ready none A) (fun pre A => ∃ c, Ix c pre A /\ RecAt fn a ps assign body D .done (some c) A) W1 b1 (fun _ _ h => h.1)
    (fun pre _ _ h hb => ⟨(hI pre).grow h.1 hb, h.2.grow hb⟩) (fun pre _ _ h hb => h.elim fun c h => ⟨c, (hIx c pre).grow h.1 hb, h.2.grow hb⟩) ?_ ⟨(hI []).grow h0 b1, r1⟩).mono ?_
  . rintro pre x A hN ⟨hi, hrec⟩
    refine ⟨fn, _, assign, body, run_yield hrec.1 (hps x), roundIn_of_wpIn trivial (hassign (D + 1) pre x A _ hN hi fun b A1 hk1 hi1 hx1 => ?_)⟩
    have q1 := hrec.keep hk1
    refine ⟨_, run_beginRound q1.1 rfl, ?_⟩
    have q2 := q1.put (st' := .busy) (pe' := none)
    have hlt := Nat.le_succ D
    refine wpIn_mono (hbody (D + 1) pre x b _ hN ((hI pre).put _ hi1 hlt q1.1 rfl) ((hAx x b).put _ hx1 hlt q1.1 rfl)) ?_
    rintro e c A2 hp
    cases e with
    | normal =>
      have q3 := q2.keep hp.1
      exact ⟨_, _, run_endRound none q3.1, .inl ⟨rfl, (hI _).put _ hp.2 hlt q3.1 rfl, q3.put⟩⟩
    | ret =>
      have q3 := q2.keep hp.1
      exact ⟨_, _, run_endRound (some .ret) q3.1, .inr ⟨rfl, _, (hIx _ _).put _ hp.2 hlt q3.1 rfl, q3.put⟩⟩
    | exit id =>
      have q3 := q2.keep hp.1
      exact ⟨_, _, run_endRound (some (.exit id)) q3.1, .inr ⟨rfl, _, (hIx _ _).put _ hp.2 hlt q3.1 rfl, q3.put⟩⟩
    | goto t =>
      have q3 := q2.keep hp.1
      exact ⟨_, _, run_endRound (some (.goto t)) q3.1, .inr ⟨rfl, _, (hIx _ _).put _ hp.2 hlt q3.1 rfl, q3.put⟩⟩
    | panic ch => exact hp.elim
    | outgrown => exact hp.elim
  . rintro e A ⟨⟨v, rfl⟩, hx⟩
    rcases hx with ⟨xs, hs, hi, hrec⟩ | ⟨pre, hs, c, hi, hrec⟩
    . exact ⟨none, _, run_endLoop hrec.1 (by simp), hdone xs _ hs ((hI xs).put _ hi (Nat.le_succ D) hrec.1 rfl) ((World.putObj_heap_other (by omega)).trans hrec.2)⟩
    . exact ⟨some c, _, run_endLoop hrec.1 (by simp), wpIn_wide.2 (hstop c pre _ hs ((hIx c pre).put _ hi (Nat.le_succ D) hrec.1 rfl) ((World.putObj_heap_other (by omega)).trans hrec.2))⟩
end Go.Proofs.YtflnodkajhokhaaDoor
namespace Go.Proofs.YtflnodkajhokhaaDoor
open Go.RowKit
theorem lasts_blk {B g : Nat} {t : TypeId} {vs : List Value} : Lasts B (fun w => Blk w g t vs) := lasts_cells
theorem lasts_size {B k : Nat} : Lasts B (fun w => k <= w.heap.size) := fun _ _ hi ⟨_, hg, _⟩ => Nat.le_trans hi hg.size
theorem keeps_below {B : Nat} {w w' : World} (h : Below w.heap.size w w') : KeepsFrom B w w' := ⟨h.size, fun k _ _ hk _ => (h.block k (Array.getElem?_eq_some_iff.1 hk).1).trans hk⟩
end Go.Proofs.YtflnodkajhokhaaDoor
end

section
namespace Go.Proofs.YtflnodkajhokhaaDoor
open Go.ChangeShapes Go.WideShapes Go.ChangeAt Go.RowKit
section
variable {ops : List Oper} {Q : Exit -> Act -> World -> Prop} {o : Oper} {a : Act} {w : World} {I : Told -> World -> Prop} {tbl : List Fz} {r : Told} {i : Nat} {S : List Nat}
theorem doesZ_copyB (hi : i ∈ S) (hw : Region.wanted o (yielded ops.toArray a.tmps) = true) (d s : Operand) (dT sT : TypeId) (ho : o.op = .call { callee := .builtin .copy, args := #[d, s], argTypes := #[dT, sT] }) (hu : Tryd.prog.underlying dT = some (.slice 5)) (g off dLen dCap : Nat) (t : TypeId) (cur : List Value) (hg : Blk w g t cur) (dp : Option Addr) (hd : a.eval d = .slice dp dLen dCap) (y : Value) (hs : a.eval s = y) (m : List Nat) (hy : Rd w y m) (k : Nat) (hk : k = min m.length dLen) (hdp : 0 < k -> dp = some ⟨g, off, none⟩) (hfit : off + k <= cur.length)
    (h : ∀ w', Blk w' g t (splice cur off (row8 (m.take k))) -> w.grownBy w' (some g) -> I (r.set i (.int .i64 (k : Int))) w' /\ (tbl.getD i .any).holds (r.set i (.int .i64 (k : Int))) (.int .i64 (k : Int))) :
    DoesK Tryd.prog ops Q o a w (fun v w' => I (if i ∈ S then r.set i v else r) w' /\ (tbl.getD i .any).holds (if i ∈ S then r.set i v else r) v) := by
  refine doesZ_turn hi hw fun K hK => ?_
  obtain ⟨w', hrun, h2, h3⟩ := run_copy_blk dT sT o.type hu g off dLen dCap t cur hg dp y m hy k hk hdp hfit
  unfold Oper.wp
  simp only [execOp, ho, resolve, invoke, builtin, Sem.run_bind, Sem.run_pure, Result.andThen_ok, List.map_toArray, List.map_cons, List.map_nil, hd, hs, hrun]
  exact hK _ _ (h w' h2 h3).1 (h w' h2 h3).2
end
end Go.Proofs.YtflnodkajhokhaaDoor
end

section
namespace Go.Proofs.YtflnodkajhokhaaDoor
open Go.ChangeShapes Go.WideShapes Go.ChangeAt Go.RowKit
open DM
attribute [local go_sem] Oper.semAt_some
abbrev Sec (L : Nat) := { q : Nat // q * 512 < L }
abbrev encS {L : Nat} (x : Sec L) : Array Value := #[.int .i64 (x.1 : Int)]
def nx (a j : Nat) : Nat := if j = 0 then a else (a / 512 + j) * 512
theorem nx_div (a j : Nat) : nx a j / 512 = a / 512 + j := by unfold nx; split <;> omega
theorem nx_lt (a n j : Nat) (hj : j <= many a n) : nx a j < a + n ↔ j < many a n := by
  unfold nx many at *
  split <;> split at hj <;> split <;> omega
theorem ptouched_any (a n : Nat) (w : World) : Calls Tryd.prog 76 #[.int .i64 (a : Int), .int .i64 (n : Int)] w fun e w' =>
    ∃ ba bn, ba = w.heap.size /\ bn = w.heap.size + 1 /\ e = .returned (.func (.func 90) #[] #[.pointer (some ⟨ba, 0, none⟩), .pointer (some ⟨bn, 0, none⟩)]) /\ Blk w' ba 3 [.int .i64 (a : Int)] /\ Blk w' bn 3 [.int .i64 (n : Int)] /\ Below w.heap.size w w' /\ w'.heap.size = w.heap.size + 2 := by
  go_enter Tryd.func76, Tryd.ntmps76
  go_wp2_with fail
  go_ret
  exact ⟨_, _, rfl, rfl, by simp, (Blk.new w _ [.int .i64 (a : Int)] _ rfl).alloc _, Blk.new _ _ [.int .i64 (n : Int)] _ (by simp), ((Below.refl _ w).alloc (Nat.le_refl _) _).alloc (by simp) _, by simp⟩
set_option maxRecDepth 100000 in
set_option maxHeartbeats 2000000 in
theorem ptouch_iter (L ba bn a n : Nat) (ha : a <= 16777216) (hn : n <= 16777216) (hL : a + n <= L) (l : Nat) (J Jx : List (Sec L) -> World -> Prop) (W : World)
    (hJI : ∀ pre A, J pre A -> Blk A ba 3 [.int .i64 (a : Int)] /\ Blk A bn 3 [.int .i64 (n : Int)])
    (hY : ∀ pre x A, x.1 = a / 512 + pre.length /\ pre.length < many a n -> J pre A -> YieldAt Fence.wide 0 Tryd.prog l (encS x) A fun e A' => (e = .returned (.bool true) /\ J (pre ++ [x]) A') \/ (e = .returned (.bool false) /\ Jx (pre ++ [x]) A')) (h0 : J [] W) :
    CallsIn Fence.wide 0 Tryd.prog 90 #[.func (.yield l) #[] #[], .pointer (some ⟨ba, 0, none⟩), .pointer (some ⟨bn, 0, none⟩)] W fun e W' => (∃ v, e = .returned v) /\ ((∃ xs : List (Sec L), xs.map (·.1) = (List.range (many a n)).map (a / 512 + ·) /\ J xs W') \/ ∃ pre, Jx pre W') := by
  have HJI := Lib.hid hJI
  have HY := Lib.hid hY
  have H0 := Lib.hid h0
  clear hJI hY h0
  have c1 := (HJI.out _ _ H0.out).1.cell 0 _ rfl
  have hfw : ∀ f, Fence.wide.fn f = True := fun _ => rfl
  have hdw : Fence.wide.depth = none := rfl
  refine callsIn_of_wp Tryd.func90 rfl trivial ?_ rfl
  simp only [Tryd.ntmps90, List.size_toArray, List.length_cons, List.length_nil, Nat.reduceAdd, Nat.reduceSub, Array.replicate_succ, Array.replicate_zero, List.push_toArray, List.append_toArray, List.nil_append, List.cons_append]
  gi_wp2
  gi_loopw [4] (fun p wr => ∃ pre : List (Sec L), p = .int .i64 ((nx a pre.length : Nat) : Int) /\ pre.map (·.1) = (List.range pre.length).map (a / 512 + ·) /\ pre.length <= many a n /\ J pre wr) (fun p _ => a + n - (intOf p).toNat)
  case atStart => exact ⟨[], rfl, rfl, Nat.zero_le _, H0.out⟩
  case round =>
    obtain ⟨pre, rfl, hp, hle, hj⟩ := hrel
    obtain ⟨hba, hbn⟩ := HJI.out _ _ hj
    have ca := hba.cell 0 _ rfl
    have cn := hbn.cell 0 _ rfl
    have HLT := Lib.hid (nx_lt a n pre.length hle)
    have HDV := Lib.hid (nx_div a pre.length)
    have HP := Lib.hid hp
    have HJ := Lib.hid hj
    have HLE := Lib.hid hle
    have hw1 : IntKind.i64.wrap ((a : Int) + (n : Int)) = (a : Int) + (n : Int) := by rw [IntKind.wrap_i64]; omega
    clear hp hj hle hba hbn
    obtain ⟨p, hpd⟩ : ∃ p, p = nx a pre.length := ⟨_, rfl⟩
    have HPD := Lib.hid hpd
    rw [<- hpd] at HLT HDV ⊢
    clear hpd
    by_cases hlt : pre.length < many a n
    . have hc := HLT.out.2 hlt
      have hcz : (p : Int) < (a : Int) + (n : Int) := by omega
      have hsec := (many_pos hlt).2
      obtain ⟨q, hq⟩ : ∃ q, q = a / 512 + pre.length := ⟨_, rfl⟩
      rw [<- hq] at HDV hsec
      have hq2 : (p : Int) / 512 = (q : Int) := by have := HDV.out; omega
      have hqb : q <= 65536 := by omega
      obtain ⟨y, hyq⟩ : ∃ y : Sec L, y.1 = q := ⟨⟨q, by omega⟩, rfl⟩
      obtain ⟨fn, tmps, assign, body, hy, hR⟩ := HY.out pre y wr ⟨by rw [hyq]; exact hq, hlt⟩ HJ.out
      dsimp only [encS] at hy
      rw [hyq] at hy
      have HYQ := Lib.hid hyq
      clear hyq
      have HQ := Lib.hid hq
      have HLT2 := Lib.hid hlt
      have HSEC := Lib.hid hsec
      clear hlt hq hsec
      gi_wp2
      refine hR.mono ?_
      rintro e w6 (⟨rfl, hj⟩ | ⟨rfl, hj⟩)
      . have HJ6 := Lib.hid hj
        clear hj hy hR
        gi_wp2
        go_roundw
        case rel =>
          refine ⟨pre ++ [y], ?_, ?_, by rw [List.length_append]; exact HLT2.out, HJ6.out⟩
          . rw [List.length_append, List.length_singleton, show nx a (pre.length + 1) = (q + 1) * 512 by unfold nx; rw [if_neg (by omega)]; have := HQ.out; omega]
            go_num
          . rw [List.map_append, List.length_append, HP.out, List.length_singleton, List.range_succ, List.map_append]
            show _ ++ [y.1] = _ ++ [a / 512 + pre.length]
            rw [HYQ.out, HQ.out]
        case measure =>
          have := HDV.out
          simp [intOf]
          omega
      . have HJ6 := Lib.hid hj
        clear hj hy hR
        gi_wp2
        exact bodyPost_ret (results_none rfl _ _ _) rfl ⟨⟨_, rfl⟩, .inr ⟨_, HJ6.out⟩⟩
    . have hc : ¬ p < a + n := fun q => hlt (HLT.out.1 q)
      have hcz : ¬ ((p : Int) < (a : Int) + (n : Int)) := by omega
      have HE := Lib.hid (show pre.length = many a n by have := HLE.out; omega)
      clear hlt
      gi_wp2
      exact bodyPost_end (results_none rfl _ _ _) rfl ⟨⟨_, rfl⟩, .inl ⟨pre, HP.out.trans (by rw [HE.out]), HJ.out⟩⟩
end Go.Proofs.YtflnodkajhokhaaDoor
namespace Go.Proofs.YtflnodkajhokhaaDoor
open Go.ChangeShapes Go.WideShapes Go.ChangeAt Go.RowKit
open DM
theorem built_write (q : Int) : Tryd.prog.built 135 [(0, .int .i64 q)] = some (.int .i64 q :: .int .i64 0 :: row8 (List.replicate 512 0)).toArray := by kernel_rfl
theorem zeroDW (w : World) : (zeroValue 135).run Tryd.prog w = .ok (.agg zlw.toArray) w := by kernel_rfl
def secW (X : List Nat) (q : Nat) : LW := ⟨q * 512, (X.take (min (q * 512 + 512) X.length)).drop (q * 512), min (q * 512 + 512) X.length⟩
theorem secW_bytes (X : List Nat) (q : Nat) (hq : q * 512 < X.length) : (secW X q).bytes = (X.drop (q * 512)).take (min (X.length - q * 512) 512) /\ (secW X q).bytes.length = min (X.length - q * 512) 512 := by
  have e : (secW X q).bytes = (X.drop (q * 512)).take (min (X.length - q * 512) 512) := by
    show (X.take (min (q * 512 + 512) X.length)).drop (q * 512) = _
    rw [List.drop_take]
    congr 1
    omega
  refine ⟨e, ?_⟩
  rw [e, List.length_take, List.length_drop]; omega
theorem secW_wr (X : List Nat) (q : Nat) (hq : q * 512 < X.length) : Wr (secW X q) /\ (secW X q).size <= X.length := by
  have h := (secW_bytes X q hq).2
  refine ⟨⟨?_, by omega, by omega, ?_⟩, Nat.min_le_right _ _⟩
  . show q * 512 % 512 = 0; omega
  . show min (q * 512 + 512) X.length = q * 512 + _; omega
theorem secW_cells (X : List Nat) (q k : Nat) (hq : q * 512 < X.length) (hk : k = min (X.length - q * 512) 512) :
    (splice (.int .i64 (q : Int) :: .int .i64 0 :: row8 (List.replicate 512 0)) 2 (row8 ((X.drop (q * 512)).take k))).set 1 (.int .i64 (k : Int)) = lwc (secW X q) := by
  obtain ⟨h1, h2⟩ := secW_bytes X q hq
  have e0 : (row8 ((X.drop (q * 512)).take k)).length = k := by rw [row8_len, List.length_take, List.length_drop]; omega
  unfold splice lwc padTo
  rw [e0, h2, h1, <- hk, show (secW X q).at_ / 512 = q from by show q * 512 / 512 = q; omega]
  show ([_, _] ++ (_ ++ List.drop (2 + k) _)).set 1 _ = _
  rw [Nat.add_comm 2 k, List.drop_succ_cons, List.drop_succ_cons, row8_app]
  have e1 : (row8 (List.replicate 512 0)).drop k = row8 (List.replicate (512 - k) 0) := by unfold row8; rw [<- List.map_drop, List.drop_replicate]
  rw [e1]
  rfl
theorem own_cells {w : World} {b : Nat} {v : Value} {l : List Nat} (h : Own w b v l) (g : Nat) (e : v.ownBlock = some g) : ∃ cur t k, w.heap[g]? = some (.cells cur t k) := by
  rcases h.1.2 with ⟨q, _⟩ | ⟨g', cap, cur, q, _, hh, _⟩
  . rw [q] at e; cases e
  . rw [q] at e
    obtain rfl : g' = g := Option.some.inj e
    exact ⟨_, _, _, hh⟩
theorem row_cells {w : World} {B k n : Nat} {t : TypeId} {v : Value} {cs : List Value} (h : w.ownsRow B t k v n cs) (g : Nat) (e : v.ownBlock = some g) : ∃ cur t k, w.heap[g]? = some (.cells cur t k) := by
  rcases h.2 with ⟨q, _⟩ | ⟨g', cap, cur, q, _, hh, _⟩
  . rw [q] at e; cases e
  . rw [q] at e
    obtain rfl : g' = g := Option.some.inj e
    exact ⟨_, _, _, hh⟩
theorem Mem.cells {w : World} {d : Nat} {S : DS} {sv fv lv : Value} {t : Bool} (h : Mem w d S sv fv lv t) (k : Nat) (hk : Blks d sv fv lv k) : ∃ cur t k', w.heap[k]? = some (.cells cur t k') := by
  rcases hk with rfl | q | q | q
  . exact ⟨_, _, _, h.blk⟩
  . exact own_cells h.seen k q
  . exact own_cells h.safe k q
  . exact row_cells h.loose k q
theorem lasts_mem {B d : Nat} {S : DS} {sv fv lv : Value} {t : Bool} : Lasts B (fun w => Mem w d S sv fv lv t) := by
  rintro A A' hi ⟨row, hg, hr⟩
  refine hi.keep ⟨0, Blks d sv fv lv, ⟨hg.os, hg.tape, hg.output, hg.size, fun k hk q => hg.block k hk (fun e => ?_)⟩, fun k hk => .inr hk⟩
  obtain ⟨cur, t', k', hc⟩ := hi.cells k (q.resolve_left (by omega))
  obtain ⟨_, o, ho, hn⟩ := hr k e.symm
  rw [hc] at ho; cases ho; cases hn
theorem lasts_turn {B : Nat} {w : World} {F : Nat -> Prop} (hB : w.heap.size <= B) : Lasts B (fun w' => Turn F w w') := by
  rintro A A' hi ⟨row, hg, hr⟩
  exact ⟨hg.os.trans hi.os, hg.tape.trans hi.tape, hg.output.trans hi.output, Nat.le_trans hi.size hg.size, fun k hk hn => (hg.block k (Nat.lt_of_lt_of_le hk hi.size) (fun e => by have := (hr k e.symm).1; omega)).trans (hi.block k hk hn)⟩
theorem lasts_move {B : Nat} {w : World} {F G : Nat -> Prop} (hB : w.heap.size <= B) : Lasts B (fun w' => Move w F w' G) := fun A A' hi hs => ⟨lasts_turn hB A A' hi.turn hs, hi.into⟩
theorem keeps_row {B b k n : Nat} {t : TypeId} {v : Value} {cs : List Value} {w w' : World} (ho : w.ownsRow b t k v n cs) (h : w.grownBy w' v.ownBlock) : KeepsFrom B w w' :=
  (KeepsOthers.of_grownBy h fun j o e hj => by
    obtain ⟨cur, t', k', hc⟩ := row_cells ho j e
    rw [hc] at hj; cases hj; rfl).from B
theorem Mem.looseTo {w W : World} {d : Nat} {S : DS} {sv fv lv v : Value} {t : Bool} {L : List LW} (h : Mem w d S sv fv lv t) (o : W.ownsRow 0 135 514 v L.length (lwcs L)) (g : w.grownBy W lv.ownBlock) (k : Newer v lv w.heap.size) : Mem (W.setCell ⟨d, 3, none⟩ v) d { S with loose := L } sv fv v t /\ Move w (Blks d sv fv lv) (W.setCell ⟨d, 3, none⟩ v) (Blks d sv fv v) := by
  have hl := h.lt
  have hg2 := grownBy_cell W d 3 v
  have nv : v.ownBlock ≠ some d := fun q => by
    rcases k d q with z | z
    . exact h.nl z
    . have := hl d (.inl rfl); omega
  have ns : sv.ownBlock = none \/ sv.ownBlock ≠ lv.ownBlock := by
    cases e : sv.ownBlock with
    | none => exact .inl rfl
    | some g => exact .inr (fun q => h.sl g e q.symm)
  have nf : fv.ownBlock = none \/ fv.ownBlock ≠ lv.ownBlock := by
    cases e : fv.ownBlock with
    | none => exact .inl rfl
    | some g => exact .inr (fun q => h.fl g e q.symm)
  refine gone_of h ((Turn.of_row g (fun j e => .inr (.inr (.inr e)))).trans (Turn.of_grown (F := Blks d sv fv lv) hg2 (.inl rfl)) (fun _ q => .inl q)) ((h.blk.grown g (fun e => h.nl e.symm)).set 3 v) ((h.seen.keep g ns).keep hg2 (.inr h.ns)) ((h.safe.keep g nf).keep hg2 (.inr h.nf)) (World.ownsRow.kept o hg2 (.inr nv)) h.tl
    (fun j e => .inl e) (fun j e => .inl e) (fun j e => k j e) (fun j hj e => ?_) (fun j hj e => ?_) (fun j hj e => ?_)
  . have := hl j (.inr (.inl e)); omega
  . have := hl j (.inr (.inl e)); omega
  . have := hl j (.inr (.inr (.inl e))); omega
section
variable {ops : List Oper} {Q : Exit -> Act -> World -> Prop} {o : Oper} {a : Act} {w : World} {I : Told -> World -> Prop} {tbl : List Fz} {r : Told} {i : Nat} {S : List Nat}
theorem doesZ_row (hi : i ∉ S) (hw : Region.wanted o (yielded ops.toArray a.tmps) = true) (ty : TypeId) (x : Operand) (ho : o.op = .load ty x) (c f : Nat) (hx : a.eval x = .pointer (some ⟨c, f, none⟩)) (cs : List Value) (hr : w.rangeAt c f cs) (d : TypeDesc) (hu : Tryd.prog.underlying ty = some d) (hd : d.isRow = true) (hn : (Tryd.prog.info? ty).map (·.size) = some cs.length) (hI : I r w) (hf : (tbl.getD i .any).holds r (.agg cs.toArray)) :
    DoesK Tryd.prog ops Q o a w (fun v w' => I (if i ∈ S then r.set i v else r) w' /\ (tbl.getD i .any).holds (if i ∈ S then r.set i v else r) v) := by
  simp only [if_neg hi]
  exact doesK_load hw ty x ho c f hx cs hr d hu hd hn ⟨hI, hf⟩
end
end Go.Proofs.YtflnodkajhokhaaDoor
namespace Go.Proofs.YtflnodkajhokhaaDoor
open DM
theorem Inv.new (m : Int) : Inv (DM.new m) := ⟨Nat.le_refl _, fun x hx => (by cases (show x ∈ ([] : List LW) from hx)), fun _ _ _ => rfl, fun _ => rfl⟩
theorem many_of (a n k : Nat) (h1 : a <= k) (h2 : k < a + n) : k / 512 - a / 512 < many a n := by
  unfold many
  rw [if_neg (by omega)]
  omega
theorem Inv.wrote {S : DS} (h : Inv S) (p : Nat) (l : List Nat) (hp : p <= S.seen.length) : Inv (wrote S p l) := by
  have hge := laid_ge S.seen p l
  refine ⟨Nat.le_trans h.short hge, fun x hx => ?_, fun k hk hx => ?_, h.told⟩
  . rcases List.mem_append.1 hx with q | q
    . exact ⟨(h.wr x q).1, Nat.le_trans (h.wr x q).2 hge⟩
    . obtain ⟨j, hj, rfl⟩ := List.mem_map.1 q
      have hm := many_pos (List.mem_range.1 hj)
      have hlt : (p / 512 + j) * 512 < (laid S.seen p l).length := Nat.lt_of_lt_of_le hm.2 (laid_to _ _ _ (by omega))
      exact secW_wr (laid S.seen p l) (p / 512 + j) hlt
  . show gb S.safe k = gb (laid S.seen p l) k
    rw [laid_get]
    have hk2 : k < (laid S.seen p l).length := hk
    split
    . rename_i hc
      exfalso
      refine hx (sector (laid S.seen p l) p (k / 512 - p / 512)) (List.mem_append.2 (.inr (List.mem_map.2 ⟨_, List.mem_range.2 (many_of p l.length k hc.2.1 hc.2.2), rfl⟩))) ?_
      show (p / 512 + (k / 512 - p / 512)) * 512 / 512 = k / 512
      have := hc.2.1
      omega
    . rename_i hc
      refine h.same k ?_ (fun x hxm => hx x (List.mem_append.2 (.inl hxm)))
      by_cases hl : l = []
      . rw [hl, laid_nil] at hk2; exact hk2
      . rw [laid_len _ _ _ hl] at hk2
        have : ¬ (p <= k /\ k < p + l.length) := fun q => hc ⟨hl, q.1, q.2⟩
        omega
theorem Inv.step {S x : DS} (h : Inv S) (k : Inv x) (ht : x.told = S.told) (ha : x.after = S.after) : Inv (DM.step S x).1 := by
  unfold DM.step
  cases q : S.told with
  | false => exact ⟨k.short, k.wr, k.same, k.told⟩
  | true =>
    rw [if_neg (by decide)]
    by_cases hz : 0 < S.after
    . rw [if_pos hz]
      exact ⟨k.short, k.wr, k.same, fun e => by rw [show x.told = true from ht.trans q] at e; cases e⟩
    . rw [if_neg hz]
      cases S.done with
      | true => exact ⟨k.short, k.wr, k.same, fun _ => by show x.after = 0; omega⟩
      | false => exact ⟨h.short, h.wr, h.same, fun _ => by show S.after = 0; omega⟩
theorem Inv.write {S : DS} (h : Inv S) (z : Int) (l : List Nat) : Inv (DM.write S z l).1 := by
  unfold DM.write
  split
  . exact h
  . split
    . exact h
    . split
      . exact h
      . rename_i h1 _
        exact h.step (h.wrote _ _ (by omega)) rfl rfl
theorem Inv.load {S : DS} (h : Inv S) (b : List Nat) : Inv (DM.load S b) := by
  unfold DM.load
  split
  . exact h
  . exact ⟨Nat.le_refl _, fun x hx => (by cases (show x ∈ ([] : List LW) from hx)), fun _ _ _ => rfl, h.told⟩
end Go.Proofs.YtflnodkajhokhaaDoor
end

section
namespace Go.Proofs.YtflnodkajhokhaaDoor
open Go.ChangeShapes Go.WideShapes Go.ChangeAt Go.RowKit
open DM
attribute [local go_sem] Oper.semAt_some
def L3 (w0 : World) (L : List Value) (P2 : Value -> World -> Prop) (d : Nat) : Nat -> Told -> World -> Prop
  | 0, _, w => w = w0
  | 1, r, w => r 6 = some (.slice (some ⟨w0.heap.size, 0, none⟩) 1 1) /\ w = w0.alloc (.cells L.toArray 135)
  | 2, r, w => ∃ v, r 7 = some v /\ P2 v w
  | _, _, w => ∃ v W, P2 v W /\ w = W.setCell ⟨d, 3, none⟩ v
def CB (w0 : World) (g : Nat) (t : TypeId) (cs : List Value) (u : Value) : Nat -> Told -> World -> Prop
  | 0, _, w => w = w0
  | 1, r, w => r 9 = some u /\ Blk w g t cs /\ w0.grownBy w (some g)
  | _, _, w => Blk w g t (cs.set 1 u) /\ w0.grownBy w (some g)
structure Rnd (wA : World) (d : Nat) (S : DS) (X : List Nat) (sv fv lv : Value) (t : Bool) (bx ba bn a n B0 : Nat) (pre : List (Sec X.length)) (W : World) (lv' : Value) : Prop where
  mem : Mem W d { S with seen := X, loose := S.loose ++ pre.map fun q => secW X q.1 } sv fv lv' t
  move : Move wA (Blks d sv fv lv) W (Blks d sv fv lv')
  box : Blk W bx 26 [.pointer (some ⟨d, 0, none⟩)]
  ba : Blk W ba 3 [.int .i64 (a : Int)]
  bn : Blk W bn 3 [.int .i64 (n : Int)]
  big : B0 <= W.heap.size
  old : ∀ g, lv'.ownBlock = some g -> lv.ownBlock = some g \/ B0 <= g
theorem lasts_rnd {B : Nat} {wA : World} {d : Nat} {S : DS} {X : List Nat} {sv fv lv : Value} {t : Bool} {bx ba bn a n B0 : Nat} {pre : List (Sec X.length)} {lv' : Value} (hB : wA.heap.size <= B) : Lasts B (fun W => Rnd wA d S X sv fv lv t bx ba bn a n B0 pre W lv') := fun A A' h hs =>
  ⟨lasts_mem A A' h.mem hs, lasts_move hB A A' h.move hs, lasts_blk A A' h.box hs, lasts_blk A A' h.ba hs, lasts_blk A A' h.bn hs, lasts_size A A' h.big hs, h.old⟩
theorem Newer.size {v fv : Value} {n m : Nat} (h : Newer v fv n) (hm : m <= n) : Newer v fv m := fun g e => (h g e).imp id (fun q => Nat.le_trans hm q)
set_option maxRecDepth 100000 in
set_option maxHeartbeats 4000000 in
theorem ploosen_any (w : World) (d : Nat) (S : DS) (sv fv lv : Value) (t : Bool) (h : Mem w d S sv fv lv t) (hok : Ok S) (hll : S.loose.length <= 1000000) (p : Nat) (v : Value) (l : List Nat) (hv : Rd w v l) (hp : p <= S.seen.length) (hpl : p + l.length <= S.most) (hne : 0 < l.length -> ∀ g, v.ownBlock = some g -> ¬ Blks d sv fv lv g) :
    Calls Tryd.prog 57 #[.pointer (some ⟨d, 0, none⟩), .int .i64 (p : Int), v] w fun e w' => e = .returned (.tuple #[]) /\ Gone w d sv fv lv (wrote S p l) w' := by
  obtain ⟨bo, bc, rfl, hbc⟩ := hv.shape
  obtain ⟨so, sc, rfl, hsc⟩ := h.seen.rd.shape
  obtain ⟨sl, hsl⟩ : ∃ n, n = S.seen.length := ⟨_, rfl⟩
  obtain ⟨bl, hbl⟩ : ∃ n, n = l.length := ⟨_, rfl⟩
  obtain ⟨X, hX⟩ : ∃ X, X = laid S.seen p l := ⟨_, rfl⟩
  have hmost := hok.most
  have hseen := hok.seen
  have HXE := Lib.hid (show lay S.seen p l = X by rw [hX]; exact lay_eq _ _ _ hp)
  have HXL := Lib.hid (show X.length <= 16777216 by rw [hX]; exact Nat.le_trans (laid_le _ _ _ S.most hseen hpl) hmost)
  have HXP := Lib.hid (show p + l.length <= X.length by
    by_cases e : l.length = 0
    . have e2 := List.eq_nil_of_length_eq_zero e
      rw [hX, e2, laid_nil]; exact hp
    . rw [hX]; exact laid_to _ _ _ e)
  have HWR := Lib.hid (show wrote S p l = { S with seen := X, loose := S.loose ++ (List.range (many p bl)).map fun j => secW X (p / 512 + j) } by unfold wrote; rw [<- hX, <- hbl]; rfl)
  rw [HWR.out]
  have HBL2 := Lib.hid hbl
  have HSL := Lib.hid hsl
  have hpb : p <= 16777216 := by omega
  have hbb : bl <= 16777216 := by omega
  have hslb : sl <= 16777216 := by omega
  rw [<- hsl] at h hne ⊢
  rw [<- hbl] at hv hne hbc ⊢
  have H := Lib.hid h
  have HV := Lib.hid hv
  have HNE := Lib.hid hne
  have HLL := Lib.hid hll
  clear h hv hne hX hsl hbl hok hp hpl hmost hseen hbc hsc
  refine callsIn_wide.1 (callsIn_of_wp_marks (n := 0) Tryd.func57 rfl trivial ?_)
  refine wpIn_wide.2 ?_
  simp only [Tryd.ntmps57, List.size_toArray, List.length_cons, List.length_nil, Nat.reduceAdd, Nat.reduceSub, Array.replicate_succ, Array.replicate_zero, List.push_toArray, List.append_toArray, List.nil_append, List.cons_append]
  go_upto_region 1 with fail
  obtain ⟨W0, hW0⟩ : ∃ W0, W0 = w.alloc (.cells #[.pointer (some ⟨d, 0, none⟩)] 26) := ⟨_, rfl⟩
  rw [<- hW0]
  obtain ⟨bx, hbx⟩ : ∃ b, b = w.heap.size := ⟨_, rfl⟩
  rw [<- hbx]
  have hk0 : Blk W0 bx 26 [.pointer (some ⟨d, 0, none⟩)] := by rw [hW0]; exact Blk.new w _ [.pointer (some ⟨d, 0, none⟩)] _ hbx
  have b0 : Below w.heap.size w W0 := by rw [hW0]; exact (Below.refl _ w).alloc (Nat.le_refl _) _
  have hz0 : W0.heap.size = w.heap.size + 1 := by rw [hW0]; simp
  obtain ⟨w1, hw1⟩ : ∃ w1, w1 = W0.drew := ⟨_, rfl⟩
  have HW1 := Lib.hid hw1
  have BW := Lib.hid (show Below w.heap.size w w1 by rw [hw1]; exact b0.on (Below.refl _ _).drew)
  have HBX := Lib.hid (show Blk w1 bx 26 [.pointer (some ⟨d, 0, none⟩)] by rw [hw1]; exact hk0.below (Below.refl _ _).drew hk0.lt)
  have HM := Lib.hid (show Mem w1 d S (.slice so sl sc) fv lv t from H.out.below BW.out)
  have HZ1 := Lib.hid (show w1.heap.size = bx + 1 by rw [hw1, hbx]; exact hz0)
  have HBXE := Lib.hid hbx
  have HBN := Lib.hid (show some bx ≠ (Value.slice so sl sc).ownBlock from fun e => by have := H.out.lt bx (.inr (.inl e.symm)); omega)
  have HV1 := Lib.hid (HV.out.below BW.out)
  have HL1 := Lib.hid (play_any 0 (.slice so sl sc) S.seen p (.slice bo bl bc) l w1 HM.out.seen HV1.out (fun hp g e q => HNE.out (by rw [HBL2.out]; exact hp) g e (.inr (.inl q))) (Nat.zero_le _) hpb (by rw [<- HBL2.out]; exact hbb) (by rw [<- HSL.out]; omega))
  clear hw1 hk0 b0 hz0 hW0 hbx
  refine wp_region_z (by kernel_rfl) [7, 10] (by kernel_rfl) (by kernel_rfl) (Stg [7, 10] (CS 7 w1 (fun v W => Own W 0 v (lay S.seen p l) /\ w1.grownBy W (Value.slice so sl sc).ownBlock /\ (v.ownBlock = (Value.slice so sl sc).ownBlock \/ v.ownBlock = some w1.heap.size)) d 1)) [.pre (.pointer (some ⟨d, 0, none⟩)), .pre (.pointer (some ⟨d, 0, none⟩)), .pre (.pointer (some ⟨d, 0, none⟩)), .pre (.pointer (some ⟨d, 1, none⟩)), .pre (.slice so sl sc), .pre (.int .i64 (p : Int)), .pre (.slice bo bl bc), .of 7 (fun u v => v = u), .pre (.pointer (some ⟨d, 0, none⟩)), .pre (.pointer (some ⟨d, 1, none⟩)), .any] (fun i hi hq => by
        simp only [List.mem_cons, List.mem_nil_iff, or_false] at hi
        rcases hi with rfl | rfl
        . exact absurd hq (by decide +kernel)
        . rfl) (Stg.zero (show _ = w1 from HW1.out.symm)) ?_ ?_
  . refine ⟨?_, ?_, ?_, ?_, ?_, ?_, ?_, ?_, ?_, ?_, ?_, trivial⟩
    . intro a w5 r hF hI hns hri h1 h2 hd
      have e3 : a.eval (.tmp 3) = .pointer (some ⟨bx, 0, none⟩) := hF 3 (by decide +kernel)
      obtain ⟨k, hk1, hk2, hA⟩ : ∃ k, 0 <= k /\ k <= 1 /\ CS 7 w1 (fun v W => Own W 0 v (lay S.seen p l) /\ w1.grownBy W (Value.slice so sl sc).ownBlock /\ (v.ownBlock = (Value.slice so sl sc).ownBlock \/ v.ownBlock = some w1.heap.size)) d 1 k r w5 := hI.between 0 1 (.inl rfl) (.inr ⟨by decide, h1 10 (by decide) (by decide +kernel)⟩)
      have cbx : w5.cell? ⟨bx, 0, none⟩ = some (.pointer (some ⟨d, 0, none⟩)) := by
        rcases (show k = 0 \/ k = 1 by omega) with rfl | rfl
        . have hw : w5 = w1 := hA
          rw [hw]; exact HBX.out.cell 0 _ rfl
        . obtain ⟨_, _, _, hg, _⟩ := hA
          exact (HBX.out.grown hg HBN.out).cell 0 _ rfl
      exact doesZ_read (v := .pointer (some ⟨d, 0, none⟩)) (by decide) rfl (by unfold execOp; simp only [e3]; go_simp) hI rfl
    . intro a w5 r hF hI hns hri h1 h2 hd
      have e3 : a.eval (.tmp 3) = .pointer (some ⟨bx, 0, none⟩) := hF 3 (by decide +kernel)
      have hA : CS 7 w1 (fun v W => Own W 0 v (lay S.seen p l) /\ w1.grownBy W (Value.slice so sl sc).ownBlock /\ (v.ownBlock = (Value.slice so sl sc).ownBlock \/ v.ownBlock = some w1.heap.size)) d 1 0 r w5 := hI.at_ 0 (.inl rfl) (.inr ⟨by decide, h1 7 (by decide) (by decide +kernel)⟩)
      have hw : w5 = w1 := hA
      subst hw
      have cbx := HBX.out.cell 0 _ rfl
      exact doesZ_read (v := .pointer (some ⟨d, 0, none⟩)) (by decide) rfl (by unfold execOp; simp only [e3]; go_simp) hI rfl
    . intro a w5 r hF hI hns hri h1 h2 hd
      have e9 : a.eval (.tmp 9) = .pointer (some ⟨d, 0, none⟩) := hd 1 (by decide +kernel)
      exact doesZ_read (v := .pointer (some ⟨d, 0, none⟩)) (by decide) rfl (ex_nilCheck rfl e9) hI rfl
    . intro a w5 r hF hI hns hri h1 h2 hd
      have e10 : a.eval (.tmp 10) = .pointer (some ⟨d, 0, none⟩) := hd 2 (by decide +kernel)
      exact doesZ_read (v := .pointer (some ⟨d, 1, none⟩)) (by decide) rfl (ex_fieldAddr rfl e10 (by go_simp)) hI rfl
    . intro a w5 r hF hI hns hri h1 h2 hd
      have e11 : a.eval (.tmp 11) = .pointer (some ⟨d, 1, none⟩) := hd 3 (by decide +kernel)
      have hA : CS 7 w1 (fun v W => Own W 0 v (lay S.seen p l) /\ w1.grownBy W (Value.slice so sl sc).ownBlock /\ (v.ownBlock = (Value.slice so sl sc).ownBlock \/ v.ownBlock = some w1.heap.size)) d 1 0 r w5 := hI.at_ 0 (.inl rfl) (.inr ⟨by decide, h1 7 (by decide) (by decide +kernel)⟩)
      have hw : w5 = w1 := hA
      subst hw
      have c1 := HM.out.c1
      exact doesZ_read (v := .slice so sl sc) (by decide) rfl (by unfold execOp; simp only [e11]; go_simp) hI rfl
    . intro a w5 r hF hI hns hri h1 h2 hd
      have e1 : a.eval (.tmp 1) = .int .i64 (p : Int) := hF 1 (by decide +kernel)
      exact doesZ_read (v := .int .i64 (p : Int)) (by decide) rfl (ex_move rfl e1) hI rfl
    . intro a w5 r hF hI hns hri h1 h2 hd
      have e2 : a.eval (.tmp 2) = .slice bo bl bc := hF 2 (by decide +kernel)
      exact doesZ_read (v := .slice bo bl bc) (by decide) rfl (ex_move rfl e2) hI rfl
    . intro a w5 r hF hI hns hri h1 h2 hd
      have e12 : a.eval (.tmp 12) = .slice so sl sc := hd 4 (by decide +kernel)
      have e13 : a.eval (.tmp 13) = .int .i64 (p : Int) := hd 5 (by decide +kernel)
      have e14 : a.eval (.tmp 14) = .slice bo bl bc := hd 6 (by decide +kernel)
      have hA : CS 7 w1 (fun v W => Own W 0 v (lay S.seen p l) /\ w1.grownBy W (Value.slice so sl sc).ownBlock /\ (v.ownBlock = (Value.slice so sl sc).ownBlock \/ v.ownBlock = some w1.heap.size)) d 1 0 r w5 := hI.at_ 0 (.inl rfl) (.inr ⟨by decide, hri⟩)
      have hw : w5 = w1 := hA
      subst hw
      exact doesZ_call (by decide) rfl (ex_call (vs := #[.slice so sl sc, .int .i64 (p : Int), .slice bo bl bc]) rfl (by simp only [List.map_toArray, List.map_cons, List.map_nil, e12, e13, e14]) (by go_simp)) (HL1.out.mono fun e w6 hh => by obtain ⟨v, he, hl⟩ := hh; exact ⟨v, he, hI.next 0 7 v rfl (by decide) (.inl rfl) hri (by decide) (⟨v, Told.set_same _ _ _, hl⟩), v, Told.set_same _ _ _, rfl⟩)
    . intro a w5 r hF hI hns hri h1 h2 hd
      have e8 : a.eval (.tmp 8) = .pointer (some ⟨d, 0, none⟩) := hd 0 (by decide +kernel)
      exact doesZ_read (v := .pointer (some ⟨d, 0, none⟩)) (by decide) rfl (ex_nilCheck rfl e8) hI rfl
    . intro a w5 r hF hI hns hri h1 h2 hd
      have e16 : a.eval (.tmp 16) = .pointer (some ⟨d, 0, none⟩) := hd 8 (by decide +kernel)
      exact doesZ_read (v := .pointer (some ⟨d, 1, none⟩)) (by decide) rfl (ex_fieldAddr rfl e16 (by go_simp)) hI rfl
    . intro a w5 r hF hI hns hri h1 h2 hd
      have e17 : a.eval (.tmp 17) = .pointer (some ⟨d, 1, none⟩) := hd 9 (by decide +kernel)
      obtain ⟨u15, hu15, e15⟩ : ∃ u, r 7 = some u /\ a.eval (.tmp 15) = u := hd 7 (by decide +kernel)
      have hA : CS 7 w1 (fun v W => Own W 0 v (lay S.seen p l) /\ w1.grownBy W (Value.slice so sl sc).ownBlock /\ (v.ownBlock = (Value.slice so sl sc).ownBlock \/ v.ownBlock = some w1.heap.size)) d 1 1 r w5 := hI.at_ 1 (.inr ⟨by decide, h2 7 (by decide) (by decide +kernel)⟩) (.inr ⟨by decide, hri⟩)
      obtain ⟨v0, hv0, hp⟩ := hA
      obtain rfl : v0 = u15 := Option.some.inj (hv0.symm.trans hu15)
      have hp2 := hp
      obtain ⟨ho, hg, hk⟩ := hp
      obtain ⟨va, vc, rfl, _⟩ := ho.rd.shape
      have hb := HM.out.blk.grown hg (fun e => HM.out.ns e.symm)
      exact doesZ_store (by decide) rfl 25 (.tmp 17) (.tmp 15) rfl d 1 e17 (.slice va _ vc) e15 rfl rfl 52 (_) hb (show 1 < 9 by omega) (by kernel_rfl) rfl (fun v => hI.next 1 10 v rfl (by decide) (.inr ⟨by decide, h2 7 (by decide) (by decide +kernel)⟩) hri (by decide) (⟨_, w5, (Told.set_ne (by decide)).trans hv0, hp2, rfl⟩))
  . intro vs r w5 hI hS hvs
    obtain ⟨v1, W, _, ⟨o1, g1, k1⟩, hw5⟩ := hI.at_ 2 (.inr ⟨by decide, hS 10 (by decide)⟩) (.inl rfl)
    rw [HXE.out] at o1
    have m1 := HM.out.seenTo o1 g1 (newer k1)
    rw [<- hw5] at m1
    obtain ⟨va, vc, rfl, hvc⟩ := o1.rd.shape
    obtain ⟨xl, hxl⟩ : ∃ n, n = X.length := ⟨_, rfl⟩
    rw [<- hxl] at m1 hvc
    have hgc : w1.grownBy w5 (some d) \/ True := .inr trivial
    have hbx5 : Blk w5 bx 26 [.pointer (some ⟨d, 0, none⟩)] := by
      rw [hw5]
      exact (HBX.out.grown g1 HBN.out).grown (grownBy_cell W d 1 _) (fun e => by have := Option.some.inj e; have := H.out.lt d (.inl rfl); have := HBXE.out; omega)
    have MA := Lib.hid m1.1
    have VA := Lib.hid (show Move w (Blks d (.slice so sl sc) fv lv) w5 (Blks d (.slice va xl vc) fv lv) from (Move.below BW.out).trans m1.2)
    have KA := Lib.hid hbx5
    have HSA := Lib.hid (show w1.heap.size <= w5.heap.size by rw [hw5]; exact Nat.le_trans g1.size (grownBy_cell W d 1 _).size)
    have HXLE := Lib.hid hxl
    have HVC := Lib.hid hvc
    obtain ⟨wA, hwA⟩ : ∃ wA, wA = w5 := ⟨_, rfl⟩
    rw [<- hwA] at MA VA KA HSA ⊢
    have hxb : xl <= 16777216 := by rw [hxl]; exact HXL.out
    clear hI hS hvs o1 g1 k1 hw5 m1 hvc hxl hgc hbx5 HL1 HM hwA HW1
    simp only [putOps, Act.put, List.setIfInBounds_toArray, List.set_cons_zero, List.set_cons_succ]
    have HT := Lib.hid (fun (W : World) => ptouched_any p bl W)
    go_wp2_with (go_at_call 76; refine (HT.out _).mono ?_; rintro e w4 ⟨ba, bn, hba, hbn, rfl, a4, n4, b4, z4⟩; have HBA := Lib.hid hba; have HBNN := Lib.hid hbn; have A4 := Lib.hid a4; have N4 := Lib.hid n4; have B4 := Lib.hid b4; have Z4 := Lib.hid z4; clear hba hbn a4 n4 b4 z4)
    have HLVB := Lib.hid (show ∀ g, lv.ownBlock = some g -> g < bx from fun g e => by have := H.out.lt g (.inr (.inr (.inr e))); have := HBXE.out; omega)
    have HDB := Lib.hid (show d < bx by have := H.out.lt d (.inl rfl); have := HBXE.out; omega)
    have hz1 := HZ1.out
    have hsa := HSA.out
    have hz4 := Z4.out
    refine wp_range_fn_ok (α := Sec X.length) (gf := 90) (lb := #[.pointer (some ⟨ba, 0, none⟩), .pointer (some ⟨bn, 0, none⟩)]) rfl (enters_of Tryd.func90 (by kernel_rfl) rfl) encS (fun _ => rfl)
      (fun pre W => ∃ lv', Rnd wA d S X (.slice va xl vc) fv lv t bx ba bn p bl w4.heap.size pre W lv')
      (fun _ _ _ => False)
      (fun a x b _ => b = { tmps := (a.tmps.setIfInBounds 22 (.int .i64 (x.1 : Int))).setIfInBounds 6 (.int .i64 (x.1 : Int)), defers := [] })
      (fun xs => xs.map (·.1) = (List.range (many p bl)).map (p / 512 + ·)) (fun _ => True) (fun pre x => x.1 = p / 512 + pre.length /\ pre.length < many p bl) ?hI ?hIx ?hAx ?h0 ?hseq ?assign ?body ?done ?stop
    case hI => exact fun pre => Lasts.ex fun lv' => lasts_rnd (by omega)
    case hIx => exact fun _ _ => Lasts.pure _
    case hAx => exact fun _ _ => Lasts.pure _
    case h0 => exact ⟨lv, by rw [List.map_nil, List.append_nil]; exact MA.out.below B4.out, Move.below B4.out, KA.out.below B4.out KA.out.lt, A4.out, N4.out, Nat.le_refl _, fun g e => .inl e⟩
    case hseq =>
      intro ll J Jx W _ hJI hJg _ hY h0
      refine (ptouch_iter X.length ba bn p bl hpb hbb (by rw [HBL2.out]; exact HXP.out) ll J Jx W (fun pre A hj => ?_) hY h0).mono fun e W' h => ⟨h.1, ?_⟩
      . obtain ⟨_, hr⟩ := hJI pre A hj
        exact ⟨hr.ba, hr.bn⟩
      . exact h.2.imp id (fun ⟨pre, hj⟩ => ⟨pre, trivial, hj⟩)
    case assign =>
      intro ll pre y W K hN hi hK
      clear hN
      refine wpIn_list_round (by kernel_rfl) (fun ⟨_, _, h⟩ => h) ?_
      have HK := Lib.hid hK
      have HI := Lib.hid hi
      clear hK hi
      simp only [List.setIfInBounds_toArray, List.set_cons_zero, List.set_cons_succ] at HK ⊢
      go_wp2_with fail
      exact HK.out _ W (keeps_below (Below.refl _ _)) HI.out rfl
    case body =>
      rintro ll pre y b W hN ⟨lv1, hr⟩ rfl
      have hyq := y.2
      have HFEW := Lib.hid (show pre.length <= 40000 by have := hN.2; have := many_le p bl; omega)
      clear hN
      obtain ⟨q, hq⟩ : ∃ q, q = y.1 := ⟨_, rfl⟩
      rw [<- hq] at hyq ⊢
      obtain ⟨lo, lc, hlv, _⟩ := (owned_rd hr.mem.loose).shape
      obtain ⟨L1, hL1⟩ : ∃ L, L = S.loose ++ pre.map fun q => secW X q.1 := ⟨_, rfl⟩
      rw [show ({ S with seen := X, loose := S.loose ++ pre.map fun q => secW X q.1 } : DS).loose = L1 from hL1.symm] at hlv
      obtain ⟨n0, hn0⟩ : ∃ n, n = L1.length := ⟨_, rfl⟩
      rw [<- hn0] at hlv
      subst hlv
      have hmem := hr.mem
      rw [<- hL1] at hmem
      obtain ⟨sb, rfl⟩ : ∃ b, va = some ⟨b, 0, none⟩ := own_at (show Own W 0 (.slice va xl vc) X from hmem.seen) (by omega)
      obtain ⟨p2, hp2⟩ : ∃ n, n = q * 512 := ⟨_, rfl⟩
      obtain ⟨m, hmd⟩ : ∃ n, n = min (X.length - q * 512) 512 := ⟨_, rfl⟩
      have hxle := HXLE.out
      have HMEM := Lib.hid hmem
      have HRR := Lib.hid hr
      have HQY := Lib.hid hq
      have HP2 := Lib.hid hp2
      have HMD := Lib.hid hmd
      have HN0E := Lib.hid hn0
      have HL1E := Lib.hid hL1
      have HQX := Lib.hid (show q * 512 < X.length from hyq)
      have hqb : q <= 32768 := by omega
      have HWQ := Lib.hid (show IntKind.i64.wrap ((q : Int) * 512) = (p2 : Int) by rw [IntKind.wrap_i64]; omega)
      obtain ⟨L0, hL0⟩ : ∃ L, L = (.int .i64 (q : Int) :: .int .i64 0 :: row8 (List.replicate 512 0) : List Value) := ⟨_, rfl⟩
      have hbd := built_write (q : Int)
      rw [<- hL0] at hbd
      have HBD := Lib.hid hbd
      clear hbd
      have HL0 := Lib.hid hL0
      have hl0 : L0.length = 514 := by rw [hL0, List.length_cons, List.length_cons, row8_len, List.length_replicate]
      have HL0L := Lib.hid hl0
      obtain ⟨D0, hD0⟩ : ∃ D, D = zlw := ⟨_, rfl⟩
      have hz : ∀ w, (zeroValue 135).run Tryd.prog w = .ok (.agg D0.toArray) w := by rw [hD0]; exact zeroDW
      have HD0 := Lib.hid (show D0.length = 514 by rw [hD0]; exact zlw_len)
      have HIW := Lib.hid (show (Tryd.prog.info? 135).map (·.size) = some L0.length by rw [hl0]; kernel_rfl)
      have HONE := Lib.hid (show L0.toArray.all (·.oneCell') = true by
        rw [List.all_toArray, List.all_eq_true]
        intro u hu
        rw [hL0] at hu
        rcases List.mem_cons.1 hu with rfl | hu
        . rfl
        rcases List.mem_cons.1 hu with rfl | hu
        . rfl
        exact row8_one' _ u hu)
      clear hq hL1 hn0 hmem hr hp2 hmd hyq hL0 hD0 hl0 hxle HT
      simp only [List.setIfInBounds_toArray, List.set_cons_zero, List.set_cons_succ]
      apply wpIn_block
      apply wpIn_seq_k
      intro K1 hK1
      refine wpIn_list_round (by kernel_rfl) (fun ⟨_, _, h⟩ => h) ?_
      go_wp2_with (first | (refine wpList_buildTo rfl 135 _ rfl (some 24) rfl L0.toArray (Eq.trans (b := Tryd.prog.built 135 [(0, .int .i64 (q : Int))]) (by kernel_rfl) HBD.out) ?_) | (refine wpList_store_blk rfl 135 (.tmp 7) (.tmp 24) rfl W.heap.size 0 L0 rfl rfl 135 D0 (Blk.new W 135 D0 _ rfl) (by rw [HD0.out, HL0L.out]; exact Nat.le_refl _) HIW.out HONE.out ?_; intro w3 b3 g3; rw [splice_all _ _ (by rw [HD0.out, HL0L.out])] at b3; have K3 := Lib.hid b3; have B3 := Lib.hid (((Below.refl W.heap.size W).alloc (Nat.le_refl _) (.cells D0.toArray 135)).grown g3 (by simp) (fun k hk => by have := Option.some.inj hk; omega)); clear b3 g3))
      apply wpIn_seq_k
      intro K2 hK2
      refine wpIn_region_round (by kernel_rfl) (by kernel_rfl) (fun ⟨_, _, h⟩ => h) ?_
      obtain ⟨wb, hwb⟩ : ∃ b, b = W.heap.size := ⟨_, rfl⟩
      obtain ⟨w2, hw2⟩ : ∃ w2, w2 = w3.drew := ⟨_, rfl⟩
      rw [<- hwb] at K3 ⊢
      have HW2 := Lib.hid hw2
      have HWB := Lib.hid hwb
      have B2 := Lib.hid (show Below W.heap.size W w2 by rw [hw2]; exact B3.out.on (Below.refl _ _).drew)
      have K2 := Lib.hid (HRR.out.box.below B2.out HRR.out.box.lt)
      have M2 := Lib.hid (HMEM.out.below B2.out)
      have BL2 := Lib.hid (show Blk w2 wb 135 L0 by rw [hw2]; exact K3.out.below (Below.refl _ _).drew K3.out.lt)
      have HPL := Lib.hid (show p2 < xl by rw [HP2.out, HXLE.out]; exact HQX.out)
      have HPX := Lib.hid (show p2 <= xl from Nat.le_of_lt HPL.out)
      have HRD := Lib.hid (show Rd w2 (.slice (some ⟨sb, p2, none⟩) (xl - p2) (vc - p2)) (X.drop p2) by
        have h1 := M2.out.seen.rd.drop p2 (by show p2 <= X.length; rw [<- HXLE.out]; exact HPX.out)
        rw [if_neg (by have := HVC.out; have := HPL.out; omega), Option.map_some, Addr.add_lit, Nat.zero_add] at h1
        rw [HXLE.out]
        exact h1)
      have HMM := Lib.hid (show m = min (X.drop p2).length 512 by rw [List.length_drop, HP2.out]; exact HMD.out)
      have HFIT := Lib.hid (show 2 + m <= L0.length by rw [HL0L.out, HMD.out]; omega)
      have HCE := Lib.hid (show (splice L0 2 (row8 ((X.drop p2).take m))).set 1 (.int .i64 (m : Int)) = lwc (secW X q) by rw [HL0.out, HP2.out]; exact secW_cells X q m HQX.out HMD.out)
      have HSPL := Lib.hid (show (splice L0 2 (row8 ((X.drop p2).take m))).length = 514 by
        have h1 := congrArg List.length HCE.out
        rw [List.length_set, lwc_len (secW_wr X q HQX.out).1.len] at h1; exact h1)
      clear hw2 hwb
      refine any_z [9, 11] (by kernel_rfl) (by kernel_rfl) (Stg [9, 11] (CB w2 wb 135 (splice L0 2 (row8 ((X.drop p2).take m))) (.int .i64 (m : Int)))) [.pre (.pointer (some ⟨wb, 2, none⟩)), .pre (.slice (some ⟨wb, 2, none⟩) 512 512), .pre (.pointer (some ⟨d, 0, none⟩)), .pre (.pointer (some ⟨d, 0, none⟩)), .pre (.pointer (some ⟨d, 1, none⟩)), .pre (.slice (some ⟨sb, 0, none⟩) xl vc), .pre (.int .i64 (q : Int)), .pre (.int .i64 (p2 : Int)), .pre (.slice (some ⟨sb, p2, none⟩) (xl - p2) (vc - p2)), .of 9 (fun u v => v = u), .pre (.pointer (some ⟨wb, 1, none⟩)), .any] (fun i hi hq => by
              simp only [List.mem_cons, List.mem_nil_iff, or_false] at hi
              rcases hi with rfl | rfl
              . exact absurd hq (by decide +kernel)
              . rfl) (Stg.zero (show _ = w2 from HW2.out.symm)) ?_ ?_
      . refine ⟨?_, ?_, ?_, ?_, ?_, ?_, ?_, ?_, ?_, ?_, ?_, ?_, trivial⟩
        . intro a w5 r hF hI hns hri h1 h2 hd
          have e7 : a.eval (.tmp 7) = .pointer (some ⟨wb, 0, none⟩) := hF 7 (by decide +kernel)
          exact doesZ_read (v := .pointer (some ⟨wb, 2, none⟩)) (by decide) rfl (ex_fieldAddr rfl e7 (by go_simp)) hI rfl
        . intro a w5 r hF hI hns hri h1 h2 hd
          have e25 : a.eval (.tmp 25) = .pointer (some ⟨wb, 2, none⟩) := hd 0 (by decide +kernel)
          have f25 : a.tmps[25]?.getD undef = .pointer (some ⟨wb, 2, none⟩) := by rw [<- Array.getD_eq_getD_getElem?]; exact e25
          exact doesZ_read (v := .slice (some ⟨wb, 2, none⟩) 512 512) (by decide) rfl (by unfold execOp; simp only [e25]; go_simp) hI rfl
        . intro a w5 r hF hI hns hri h1 h2 hd
          have e3 : a.eval (.tmp 3) = .pointer (some ⟨bx, 0, none⟩) := hF 3 (by decide +kernel)
          have hA : CB w2 wb 135 (splice L0 2 (row8 ((X.drop p2).take m))) (.int .i64 (m : Int)) 0 r w5 := hI.at_ 0 (.inl rfl) (.inr ⟨by decide, h1 9 (by decide) (by decide +kernel)⟩)
          have hw : w5 = w2 := hA
          subst hw
          have cbx := K2.out.cell 0 _ rfl
          exact doesZ_read (v := .pointer (some ⟨d, 0, none⟩)) (by decide) rfl (by unfold execOp; simp only [e3]; go_simp) hI rfl
        . intro a w5 r hF hI hns hri h1 h2 hd
          have e27 : a.eval (.tmp 27) = .pointer (some ⟨d, 0, none⟩) := hd 2 (by decide +kernel)
          exact doesZ_read (v := .pointer (some ⟨d, 0, none⟩)) (by decide) rfl (ex_nilCheck rfl e27) hI rfl
        . intro a w5 r hF hI hns hri h1 h2 hd
          have e28 : a.eval (.tmp 28) = .pointer (some ⟨d, 0, none⟩) := hd 3 (by decide +kernel)
          exact doesZ_read (v := .pointer (some ⟨d, 1, none⟩)) (by decide) rfl (ex_fieldAddr rfl e28 (by go_simp)) hI rfl
        . intro a w5 r hF hI hns hri h1 h2 hd
          have e29 : a.eval (.tmp 29) = .pointer (some ⟨d, 1, none⟩) := hd 4 (by decide +kernel)
          have hA : CB w2 wb 135 (splice L0 2 (row8 ((X.drop p2).take m))) (.int .i64 (m : Int)) 0 r w5 := hI.at_ 0 (.inl rfl) (.inr ⟨by decide, h1 9 (by decide) (by decide +kernel)⟩)
          have hw : w5 = w2 := hA
          subst hw
          have c1 := M2.out.c1
          exact doesZ_read (v := .slice (some ⟨sb, 0, none⟩) xl vc) (by decide) rfl (by unfold execOp; simp only [e29]; go_simp) hI rfl
        . intro a w5 r hF hI hns hri h1 h2 hd
          have e6 : a.eval (.tmp 6) = .int .i64 (q : Int) := hF 6 (by decide +kernel)
          exact doesZ_read (v := .int .i64 (q : Int)) (by decide) rfl (ex_move rfl e6) hI rfl
        . intro a w5 r hF hI hns hri h1 h2 hd
          have e31 : a.eval (.tmp 31) = .int .i64 (q : Int) := hd 6 (by decide +kernel)
          have hwq := HWQ.out
          exact doesZ_read (v := .int .i64 (p2 : Int)) (by decide) rfl (ex_binOp rfl e31 rfl (by go_simp) (by go_simp)) hI rfl
        . intro a w5 r hF hI hns hri h1 h2 hd
          have e30 : a.eval (.tmp 30) = .slice (some ⟨sb, 0, none⟩) xl vc := hd 5 (by decide +kernel)
          have e32 : a.eval (.tmp 32) = .int .i64 (p2 : Int) := hd 7 (by decide +kernel)
          exact doesZ_read (v := .slice (some ⟨sb, p2, none⟩) (xl - p2) (vc - p2)) (by decide) rfl (ex_cut_l rfl e30 e32 HPX.out (Nat.lt_of_lt_of_le HPL.out HVC.out)) hI rfl
        . intro a w5 r hF hI hns hri h1 h2 hd
          have e26 : a.eval (.tmp 26) = .slice (some ⟨wb, 2, none⟩) 512 512 := hd 1 (by decide +kernel)
          have e33 : a.eval (.tmp 33) = .slice (some ⟨sb, p2, none⟩) (xl - p2) (vc - p2) := hd 8 (by decide +kernel)
          have hA : CB w2 wb 135 (splice L0 2 (row8 ((X.drop p2).take m))) (.int .i64 (m : Int)) 0 r w5 := hI.at_ 0 (.inl rfl) (.inr ⟨by decide, hri⟩)
          have hw : w5 = w2 := hA
          subst hw
          exact doesZ_copyB (by decide) rfl (.tmp 26) (.tmp 33) 25 25 rfl Tryd.underlying25 wb 2 512 512 135 L0 BL2.out (some ⟨wb, 2, none⟩) e26 _ e33 _ HRD.out m HMM.out (fun _ => rfl) HFIT.out (fun w' o' g' => ⟨hI.next 0 9 _ rfl (by decide) (.inl rfl) hri (by decide) ⟨Told.set_same _ _ _, o', g'⟩, _, Told.set_same _ _ _, rfl⟩)
        . intro a w5 r hF hI hns hri h1 h2 hd
          have e7 : a.eval (.tmp 7) = .pointer (some ⟨wb, 0, none⟩) := hF 7 (by decide +kernel)
          exact doesZ_read (v := .pointer (some ⟨wb, 1, none⟩)) (by decide) rfl (ex_fieldAddr rfl e7 (by go_simp)) hI rfl
        . intro a w5 r hF hI hns hri h1 h2 hd
          have e35 : a.eval (.tmp 35) = .pointer (some ⟨wb, 1, none⟩) := hd 10 (by decide +kernel)
          obtain ⟨u34, hu34, e34⟩ : ∃ u, r 9 = some u /\ a.eval (.tmp 34) = u := hd 9 (by decide +kernel)
          have hA : CB w2 wb 135 (splice L0 2 (row8 ((X.drop p2).take m))) (.int .i64 (m : Int)) 1 r w5 := hI.at_ 1 (.inr ⟨by decide, h2 9 (by decide) (by decide +kernel)⟩) (.inr ⟨by decide, hri⟩)
          obtain ⟨hr9, hb, hg⟩ := hA
          obtain rfl := Option.some.inj (hr9.symm.trans hu34)
          exact doesZ_store (by decide) rfl 3 (.tmp 35) (.tmp 34) rfl wb 1 e35 (.int .i64 (m : Int)) e34 rfl rfl 135 _ hb (by rw [HSPL.out]; decide) (by kernel_rfl) rfl (fun v => hI.next 1 11 v rfl (by decide) (.inr ⟨by decide, h2 9 (by decide) (by decide +kernel)⟩) hri (by decide) ⟨hb.set 1 _, only_trans hg (grownBy_cell w5 wb 1 _)⟩)
      . intro vs2 r2 w5 hI hS hv2
        obtain ⟨bl5, g5⟩ := hI.at_ 2 (.inr ⟨by decide, hS 11 (by decide)⟩) (.inl rfl)
        rw [HCE.out] at bl5
        have BL5 := Lib.hid bl5
        have HBW5 := Lib.hid (show Below W.heap.size W w5 from B2.out.grown g5 B2.out.size (fun k hk => by have := Option.some.inj hk; have := HWB.out; omega))
        clear hI hS hv2 bl5 g5
        simp only [putOps, Act.put, List.setIfInBounds_toArray, List.set_cons_zero, List.set_cons_succ]
        refine hK2 _ _ ?_
        refine wpIn_region_round (by kernel_rfl) (by kernel_rfl) (fun ⟨_, _, h⟩ => h) ?_
        obtain ⟨w6, hw6⟩ : ∃ w6, w6 = w5.drew := ⟨_, rfl⟩
        have HW6 := Lib.hid hw6
        have B6 := Lib.hid (show Below W.heap.size W w6 by rw [hw6]; exact HBW5.out.on (Below.refl _ _).drew)
        have K6 := Lib.hid (HRR.out.box.below B6.out HRR.out.box.lt)
        have M6 := Lib.hid (HMEM.out.below B6.out)
        have BL6 := Lib.hid (show Blk w6 wb 135 (lwc (secW X q)) by rw [hw6]; exact BL5.out.below (Below.refl _ _).drew BL5.out.lt)
        have HLC := Lib.hid (show (lwc (secW X q)).length = 514 from lwc_len (secW_wr X q HQX.out).1.len)
        have HIW6 := Lib.hid (show (Tryd.prog.info? 135).map (·.size) = some (lwc (secW X q)).length by rw [HLC.out]; kernel_rfl)
        have HLO := Lib.hid (show (w6.alloc (.cells (lwc (secW X q)).toArray 135)).ownsRow 0 135 514 (.slice lo n0 lc) n0 (lwcs L1) by
          have h1 := M6.out.loose
          rw [show ({ S with seen := X, loose := L1 } : DS).loose = L1 from rfl, <- HN0E.out] at h1
          exact owned_below h1 ((Below.refl _ _).alloc (Nat.le_refl _) _))
        have HR1 := Lib.hid (show RdT 514 (w6.alloc (.cells (lwc (secW X q)).toArray 135)) (.slice (some ⟨w6.heap.size, 0, none⟩) 1 1) 1 (lwc (secW X q)) from
          ⟨by rw [HLC.out], .inr ⟨⟨w6.heap.size, 0, none⟩, 1, rfl, Nat.le_refl _, fun j u hu => by
            rw [Addr.add_lit, Nat.zero_add]
            exact (Blk.new w6 135 (lwc (secW X q)) _ rfl).cell j u hu⟩⟩)
        have HN0 := Lib.hid (show n0 + 1 <= 34359738368 by rw [HN0E.out, HL1E.out, List.length_append, List.length_map]; have := HFEW.out; have := HLL.out; omega)
        have HBL := Lib.hid (show some bx ≠ (Value.slice lo n0 lc).ownBlock from fun e => by
          rcases HRR.out.old bx e.symm with z | z
          . have := HLVB.out bx z; omega
          . omega)
        clear hw6
        refine any_z [6, 7, 10] (by kernel_rfl) (by kernel_rfl) (Stg [6, 7, 10] (L3 w6 (lwc (secW X q)) (fun v W => W.ownsRow 0 135 514 v (n0 + 1) (lwcs L1 ++ lwc (secW X q)) /\ w6.grownBy W (Value.slice lo n0 lc).ownBlock /\ Newer v (.slice lo n0 lc) w6.heap.size) d)) [.pre (.pointer (some ⟨d, 0, none⟩)), .pre (.pointer (some ⟨d, 0, none⟩)), .pre (.pointer (some ⟨d, 0, none⟩)), .pre (.pointer (some ⟨d, 3, none⟩)), .pre (.slice lo n0 lc), .pre (.agg (lwc (secW X q)).toArray), .of 6 (fun u v => v = u), .of 7 (fun u v => v = u), .pre (.pointer (some ⟨d, 0, none⟩)), .pre (.pointer (some ⟨d, 3, none⟩)), .any] (fun i hi hq => by
                simp only [List.mem_cons, List.mem_nil_iff, or_false] at hi
                rcases hi with rfl | rfl | rfl
                . exact absurd hq (by decide +kernel)
                . exact absurd hq (by decide +kernel)
                . rfl) (Stg.zero (show _ = w6 from HW6.out.symm)) ?_ ?_
        . refine ⟨?_, ?_, ?_, ?_, ?_, ?_, ?_, ?_, ?_, ?_, ?_, trivial⟩
          . intro a w5 r hF hI hns hri h1 h2 hd
            have e3 : a.eval (.tmp 3) = .pointer (some ⟨bx, 0, none⟩) := hF 3 (by decide +kernel)
            obtain ⟨k, hk1, hk2, hA⟩ : ∃ k, 0 <= k /\ k <= 2 /\ L3 w6 (lwc (secW X q)) (fun v W => W.ownsRow 0 135 514 v (n0 + 1) (lwcs L1 ++ lwc (secW X q)) /\ w6.grownBy W (Value.slice lo n0 lc).ownBlock /\ Newer v (.slice lo n0 lc) w6.heap.size) d k r w5 := hI.between 0 2 (.inl rfl) (.inr ⟨by decide, h1 10 (by decide) (by decide +kernel)⟩)
            have cbx : w5.cell? ⟨bx, 0, none⟩ = some (.pointer (some ⟨d, 0, none⟩)) := by
              rcases (show k = 0 \/ k = 1 \/ k = 2 by omega) with rfl | rfl | rfl
              . have hw : w5 = w6 := hA
                rw [hw]; exact K6.out.cell 0 _ rfl
              . obtain ⟨_, hw⟩ := hA
                rw [hw]; exact (K6.out.alloc _).cell 0 _ rfl
              . obtain ⟨_, _, _, hg, _⟩ := hA
                exact (K6.out.grown hg HBL.out).cell 0 _ rfl
            exact doesZ_read (v := .pointer (some ⟨d, 0, none⟩)) (by decide) rfl (by unfold execOp; simp only [e3]; go_simp) hI rfl
          . intro a w5 r hF hI hns hri h1 h2 hd
            have e3 : a.eval (.tmp 3) = .pointer (some ⟨bx, 0, none⟩) := hF 3 (by decide +kernel)
            obtain ⟨k, hk1, hk2, hA⟩ : ∃ k, 0 <= k /\ k <= 1 /\ L3 w6 (lwc (secW X q)) (fun v W => W.ownsRow 0 135 514 v (n0 + 1) (lwcs L1 ++ lwc (secW X q)) /\ w6.grownBy W (Value.slice lo n0 lc).ownBlock /\ Newer v (.slice lo n0 lc) w6.heap.size) d k r w5 := hI.between 0 1 (.inl rfl) (.inr ⟨by decide, h1 7 (by decide) (by decide +kernel)⟩)
            have cbx : w5.cell? ⟨bx, 0, none⟩ = some (.pointer (some ⟨d, 0, none⟩)) := by
              rcases (show k = 0 \/ k = 1 by omega) with rfl | rfl
              . have hw : w5 = w6 := hA
                rw [hw]; exact K6.out.cell 0 _ rfl
              . obtain ⟨_, hw⟩ := hA
                rw [hw]; exact (K6.out.alloc _).cell 0 _ rfl
            exact doesZ_read (v := .pointer (some ⟨d, 0, none⟩)) (by decide) rfl (by unfold execOp; simp only [e3]; go_simp) hI rfl
          . intro a w5 r hF hI hns hri h1 h2 hd
            have e37 : a.eval (.tmp 37) = .pointer (some ⟨d, 0, none⟩) := hd 1 (by decide +kernel)
            exact doesZ_read (v := .pointer (some ⟨d, 0, none⟩)) (by decide) rfl (ex_nilCheck rfl e37) hI rfl
          . intro a w5 r hF hI hns hri h1 h2 hd
            have e38 : a.eval (.tmp 38) = .pointer (some ⟨d, 0, none⟩) := hd 2 (by decide +kernel)
            exact doesZ_read (v := .pointer (some ⟨d, 3, none⟩)) (by decide) rfl (ex_fieldAddr rfl e38 (by go_simp)) hI rfl
          . intro a w5 r hF hI hns hri h1 h2 hd
            have e39 : a.eval (.tmp 39) = .pointer (some ⟨d, 3, none⟩) := hd 3 (by decide +kernel)
            obtain ⟨k, hk1, hk2, hA⟩ : ∃ k, 0 <= k /\ k <= 1 /\ L3 w6 (lwc (secW X q)) (fun v W => W.ownsRow 0 135 514 v (n0 + 1) (lwcs L1 ++ lwc (secW X q)) /\ w6.grownBy W (Value.slice lo n0 lc).ownBlock /\ Newer v (.slice lo n0 lc) w6.heap.size) d k r w5 := hI.between 0 1 (.inl rfl) (.inr ⟨by decide, h1 7 (by decide) (by decide +kernel)⟩)
            have cbx : w5.cell? ⟨d, 3, none⟩ = some (.slice lo n0 lc) := by
              rcases (show k = 0 \/ k = 1 by omega) with rfl | rfl
              . have hw : w5 = w6 := hA
                rw [hw]; exact M6.out.c3
              . obtain ⟨_, hw⟩ := hA
                rw [hw]; exact (M6.out.blk.alloc _).cell 3 _ rfl
            exact doesZ_read (v := .slice lo n0 lc) (by decide) rfl (by unfold execOp; simp only [e39]; go_simp) hI rfl
          . intro a w5 r hF hI hns hri h1 h2 hd
            have e7 : a.eval (.tmp 7) = .pointer (some ⟨wb, 0, none⟩) := hF 7 (by decide +kernel)
            have hA : L3 w6 (lwc (secW X q)) (fun v W => W.ownsRow 0 135 514 v (n0 + 1) (lwcs L1 ++ lwc (secW X q)) /\ w6.grownBy W (Value.slice lo n0 lc).ownBlock /\ Newer v (.slice lo n0 lc) w6.heap.size) d 0 r w5 := hI.at_ 0 (.inl rfl) (.inr ⟨by decide, h1 6 (by decide) (by decide +kernel)⟩)
            have hw : w5 = w6 := hA
            subst hw
            exact doesZ_row (by decide) rfl 135 (.tmp 7) rfl wb 0 e7 (lwc (secW X q)) BL6.out.range _ Tryd.underlying135 rfl HIW6.out hI rfl
          . intro a w5 r hF hI hns hri h1 h2 hd
            have e41 : a.eval (.tmp 41) = .agg (lwc (secW X q)).toArray := hd 5 (by decide +kernel)
            have hA : L3 w6 (lwc (secW X q)) (fun v W => W.ownsRow 0 135 514 v (n0 + 1) (lwcs L1 ++ lwc (secW X q)) /\ w6.grownBy W (Value.slice lo n0 lc).ownBlock /\ Newer v (.slice lo n0 lc) w6.heap.size) d 0 r w5 := hI.at_ 0 (.inl rfl) (.inr ⟨by decide, hri⟩)
            have hw : w5 = w6 := hA
            subst hw
            exact doesZ_one (by decide) rfl (.tmp 41) _ 135 514 528 zlw (lwc (secW X q)) rfl undW infoDW (by decide) (by decide) HLC.out e41 ⟨hI.next 0 6 _ rfl (by decide) (.inl rfl) hri (by decide) ⟨Told.set_same _ _ _, rfl⟩, _, Told.set_same _ _ _, rfl⟩
          . intro a w5 r hF hI hns hri h1 h2 hd
            have e40 : a.eval (.tmp 40) = .slice lo n0 lc := hd 4 (by decide +kernel)
            obtain ⟨u42, hu42, e42⟩ : ∃ u, r 6 = some u /\ a.eval (.tmp 42) = u := hd 6 (by decide +kernel)
            have hA : L3 w6 (lwc (secW X q)) (fun v W => W.ownsRow 0 135 514 v (n0 + 1) (lwcs L1 ++ lwc (secW X q)) /\ w6.grownBy W (Value.slice lo n0 lc).ownBlock /\ Newer v (.slice lo n0 lc) w6.heap.size) d 1 r w5 := hI.at_ 1 (.inr ⟨by decide, h2 6 (by decide) (by decide +kernel)⟩) (.inr ⟨by decide, hri⟩)
            obtain ⟨hr6, hw⟩ := hA
            obtain rfl := Option.some.inj (hr6.symm.trans hu42)
            subst hw
            exact doesZ_appT (by decide) rfl (.tmp 40) (.tmp 42) _ 135 514 528 zlw rfl undW infoDW zlw_len (by decide) (by decide) 0 (.slice lo n0 lc) _ n0 1 (lwcs L1) (lwc (secW X q)) e40 e42 HLO.out HR1.out (lwc_one _) HN0.out (Nat.zero_le _) (fun v' w' o' g' k' => ⟨hI.next 1 7 _ rfl (by decide) (.inr ⟨by decide, h2 6 (by decide) (by decide +kernel)⟩) hri (by decide) ⟨v', Told.set_same _ _ _, o', only_trans (grown_of_below ((Below.refl _ _).alloc (Nat.le_refl _) _) _) g', (newer k').size (by simp)⟩, _, Told.set_same _ _ _, rfl⟩)
          . intro a w5 r hF hI hns hri h1 h2 hd
            have e36 : a.eval (.tmp 36) = .pointer (some ⟨d, 0, none⟩) := hd 0 (by decide +kernel)
            exact doesZ_read (v := .pointer (some ⟨d, 0, none⟩)) (by decide) rfl (ex_nilCheck rfl e36) hI rfl
          . intro a w5 r hF hI hns hri h1 h2 hd
            have e44 : a.eval (.tmp 44) = .pointer (some ⟨d, 0, none⟩) := hd 8 (by decide +kernel)
            exact doesZ_read (v := .pointer (some ⟨d, 3, none⟩)) (by decide) rfl (ex_fieldAddr rfl e44 (by go_simp)) hI rfl
          . intro a w5 r hF hI hns hri h1 h2 hd
            have e45 : a.eval (.tmp 45) = .pointer (some ⟨d, 3, none⟩) := hd 9 (by decide +kernel)
            obtain ⟨u43, hu43, e43⟩ : ∃ u, r 7 = some u /\ a.eval (.tmp 43) = u := hd 7 (by decide +kernel)
            have hA : L3 w6 (lwc (secW X q)) (fun v W => W.ownsRow 0 135 514 v (n0 + 1) (lwcs L1 ++ lwc (secW X q)) /\ w6.grownBy W (Value.slice lo n0 lc).ownBlock /\ Newer v (.slice lo n0 lc) w6.heap.size) d 2 r w5 := hI.at_ 2 (.inr ⟨by decide, h2 7 (by decide) (by decide +kernel)⟩) (.inr ⟨by decide, hri⟩)
            obtain ⟨v0, hv0, hp⟩ := hA
            obtain rfl : v0 = u43 := Option.some.inj (hv0.symm.trans hu43)
            have hp2 := hp
            obtain ⟨ho, hg, hk⟩ := hp
            obtain ⟨va, vc, rfl, _⟩ := (owned_rd ho).shape
            have hb := M6.out.blk.grown hg (fun e => M6.out.nl e.symm)
            exact doesZ_store (by decide) rfl 48 (.tmp 45) (.tmp 43) rfl d 3 e45 (.slice va _ vc) e43 rfl rfl 52 (_) hb (show 3 < 9 by omega) (by kernel_rfl) rfl (fun v => hI.next 2 10 v rfl (by decide) (.inr ⟨by decide, h2 7 (by decide) (by decide +kernel)⟩) hri (by decide) (⟨_, w5, hp2, rfl⟩))
        . intro vs3 r3 w7 hI hS hv3
          obtain ⟨v7, W7, ⟨o7, g7, k7⟩, hw7⟩ := hI.at_ 3 (.inr ⟨by decide, hS 10 (by decide)⟩) (.inl rfl)
          have e7 : lwcs L1 ++ lwc (secW X q) = lwcs (L1 ++ [secW X q]) := by rw [lwcs_app]; unfold lwcs; simp
          have m7 := M6.out.looseTo (L := L1 ++ [secW X q]) (by rw [List.length_append, List.length_singleton, <- HN0E.out, <- e7]; exact o7) g7 k7
          rw [<- hw7] at m7
          have hl7 : L1 ++ [secW X q] = S.loose ++ (pre ++ [y]).map fun q => secW X q.1 := by rw [HL1E.out, List.map_append, List.map_cons, List.map_nil, List.append_assoc, HQY.out]
          rw [hl7] at m7
          have g77 := grownBy_cell W7 d 3 v7
          rw [<- hw7] at g77
          have kf : KeepsFrom (wA.heap.size + 2) W w7 := (keeps_below B6.out).trans ((keeps_row (show w6.ownsRow 0 135 514 (.slice lo n0 lc) n0 (lwcs L1) by
            have h1 := M6.out.loose
            rw [show ({ S with seen := X, loose := L1 } : DS).loose = L1 from rfl, <- HN0E.out] at h1
            exact h1) g7).trans (by rw [hw7]; exact (KeepsOthers.setCell _ _ _).from _))
          have hlt := HRR.out.box.lt
          have hla := HRR.out.ba.lt
          have hln := HRR.out.bn.lt
          have hs6 := B6.out.size
          have nd : ∀ {j : Nat}, bx <= j -> some j ≠ some d := fun hj e => by have := Option.some.inj e; have := HDB.out; omega
          have nl : ∀ {j : Nat}, bx <= j -> j < w4.heap.size -> some j ≠ (Value.slice lo n0 lc).ownBlock := fun h1 h2 e => by
            rcases HRR.out.old _ e.symm with z | z
            . have := HLVB.out _ z; omega
            . omega
          have hba := HBA.out
          have hbn := HBNN.out
          have r7 : Rnd wA d S X (.slice (some ⟨sb, 0, none⟩) xl vc) fv lv t bx ba bn p bl w4.heap.size (pre ++ [y]) w7 v7 :=
            ⟨m7.1, HRR.out.move.trans ((Move.below B6.out).trans m7.2), (K6.out.grown g7 HBL.out).grown g77 (nd (Nat.le_refl _)),
              ((HRR.out.ba.below B6.out hla).grown g7 (nl (by omega) (by omega))).grown g77 (nd (by omega)), ((HRR.out.bn.below B6.out hln).grown g7 (nl (by omega) (by omega))).grown g77 (nd (by omega)),
              Nat.le_trans HRR.out.big (Nat.le_trans hs6 (Nat.le_trans g7.size g77.size)), fun g e => by
                rcases k7 g e with z | z
                . exact HRR.out.old g z
                . right; have := HRR.out.big; omega⟩
          have R7 := Lib.hid r7
          have KF := Lib.hid kf
          clear hI hS hv3 o7 g7 k7 hw7 m7 r7 kf
          simp only [putOps, Act.put, List.setIfInBounds_toArray, List.set_cons_zero, List.set_cons_succ]
          exact ⟨KF.out, v7, by have := R7.out; rw [hz4] at this; exact this⟩
    case done =>
      rintro xs W hS ⟨lv1, hr⟩ hD
      have HE := Lib.hid (show (xs.map fun q => secW X q.1) = (List.range (many p bl)).map fun j => secW X (p / 512 + j) by
        have h1 : (xs.map fun q => secW X q.1) = (xs.map (·.1)).map (secW X) := by rw [List.map_map]; rfl
        rw [h1, hS, List.map_map]; rfl)
      have hm := hr.mem
      rw [HE.out] at hm
      have hmv := hr.move
      clear hS
      refine ⟨by simp, .inl ⟨_, _, rfl, run_takeDeferred hD, ?_⟩⟩
      exact ⟨_, results_none rfl _ _ _, rfl, _, _, lv1, t, lasts_mem.put (B := 0) _ hm (Nat.zero_le _) hD rfl, VA.out.trans ((lasts_move (B := w4.heap.size) (by omega)).put _ hmv (Nat.le_refl _) hD rfl)⟩
    case stop => exact fun _ _ _ _ h _ => h.elim
end Go.Proofs.YtflnodkajhokhaaDoor
namespace Go.Proofs.YtflnodkajhokhaaDoor
open Go.ChangeShapes Go.WideShapes Go.ChangeAt Go.RowKit
open DM
theorem Blk.turnF {w W : World} {F : Nat -> Prop} {b : Nat} {t : TypeId} {vs : List Value} (h : Blk w b t vs) (T : Turn F w W) (hne : ¬ F b) : Blk W b t vs := by
  unfold Blk; rw [T.block b h.lt hne]; exact h
theorem pwrite1_any (w : World) (d : Nat) (S : DS) (sv fv lv : Value) (t : Bool) (h : Mem w d S sv fv lv t) (hok : Ok S) (hll : S.loose.length <= 1000000) (p p1 p2 p3 : Nat) (v : Value) (l : List Nat) (hv : Rd w v l) (hp : p <= S.seen.length) (hpl : p + l.length <= S.most) (hne : 0 < l.length -> ∀ g, v.ownBlock = some g -> ¬ Blks d sv fv lv g)
    (h1 : w.cell? ⟨p1, 0, none⟩ = some (.pointer (some ⟨d, 0, none⟩))) (h2 : w.cell? ⟨p2, 0, none⟩ = some (.int .i64 (p : Int))) (h3 : w.cell? ⟨p3, 0, none⟩ = some v) :
    Calls Tryd.prog 56 #[.pointer (some ⟨p1, 0, none⟩), .pointer (some ⟨p2, 0, none⟩), .pointer (some ⟨p3, 0, none⟩)] w fun e w' => e = .returned (.tuple #[]) /\ Gone w d sv fv lv (wrote S p l) w' := by
  have HL := Lib.hid (ploosen_any w d S sv fv lv t h hok hll p v l hv hp hpl hne)
  obtain ⟨bo, bc, rfl, _⟩ := hv.shape
  clear h hok hll hv hp hpl hne
  go_enter Tryd.func56, Tryd.ntmps56
  go_wp2_with (go_at_call 57; (with_reducible refine HL.out.mono ?_); rintro e w1 ⟨rfl, g1⟩; have G1 := Lib.hid g1; clear g1)
  exact bodyPost_end (results_none rfl _ _ _) rfl ⟨rfl, G1.out⟩
set_option maxHeartbeats 2000000 in
theorem pdwrite_any (w : World) (d : Nat) (S : DS) (sv fv lv : Value) (t : Bool) (h : Mem w d S sv fv lv t) (hi : Inv S) (hok : Ok S) (hll : S.loose.length <= 1000000) (hs : S.steps < 9223372036854775807) (ha : S.after <= 9223372036854775807) (z : Int) (hz : -9223372036854775808 <= z /\ z <= 9223372036854775807) (v : Value) (l : List Nat) (hv : Rd w v l) (hl : l.length <= 16777216) (hne : 0 < l.length -> ∀ g, v.ownBlock = some g -> ¬ Blks d sv fv lv g) :
    Calls Tryd.prog 32 #[.pointer (some ⟨d, 0, none⟩), .int .i64 z, v] w fun e w' => e = .returned (.int .i64 (DM.write S z l).2) /\ Gone w d sv fv lv (DM.write S z l).1 w' := by
  obtain ⟨bo, bc, rfl, hbc⟩ := hv.shape
  obtain ⟨so, sc, rfl, hsc⟩ := h.seen.rd.shape
  obtain ⟨sl, hsl⟩ : ∃ n, n = S.seen.length := ⟨_, rfl⟩
  obtain ⟨bl, hbl⟩ : ∃ n, n = l.length := ⟨_, rfl⟩
  obtain ⟨mo, hmo⟩ : ∃ n, n = S.most := ⟨_, rfl⟩
  have hmost := hok.most
  have hseen := hok.seen
  have HV := Lib.hid hv
  have H := Lib.hid h
  have HNE := Lib.hid hne
  rw [<- hbl] at HNE HV
  rw [<- hsl] at H HNE
  have HMO := Lib.hid hmo
  have HSL := Lib.hid hsl
  have HBL := Lib.hid hbl
  have HOK := Lib.hid hok
  have HII := Lib.hid hi
  have HLL := Lib.hid hll
  have HS := Lib.hid hs
  have HA := Lib.hid ha
  have hmb : mo <= 16777216 := by omega
  have hsm : sl <= mo := by omega
  have hbb : bl <= 16777216 := by omega
  have HDM := Lib.hid (show DM.write S z l = if S.down then (S, 20) else if z < 0 \/ (sl : Int) < z then (S, 43) else if (mo : Int) - z < (bl : Int) then (S, 21) else DM.step S (wrote S z.toNat l) by rw [hsl, hmo, hbl]; rfl)
  rw [<- hbl, <- hsl]
  clear h hv hne hi hok hmo hsl hbl hl hmost hseen hbc hsc hll hs ha
  cases hd : S.down with
  | true =>
    have HE := Lib.hid (show DM.write S z l = (S, 20) by rw [HDM.out, if_pos hd])
    rw [HE.out]
    go_enter Tryd.func32, Tryd.ntmps32
    go_upto_region 1 with fail
    obtain ⟨p1, hp1⟩ : ∃ b, b = w.heap.size := ⟨_, rfl⟩
    obtain ⟨p2, hp2⟩ : ∃ b, b = w.heap.size + 1 := ⟨_, rfl⟩
    obtain ⟨p3, hp3⟩ : ∃ b, b = w.heap.size + 1 + 1 := ⟨_, rfl⟩
    obtain ⟨W, hW⟩ : ∃ W, W = ((w.alloc (.cells #[.pointer (some ⟨d, 0, none⟩)] 26)).alloc (.cells #[.int .i64 z] 3)).alloc (.cells #[.slice bo bl bc] 25) := ⟨_, rfl⟩
    have K1 := Lib.hid (show Blk W p1 26 [.pointer (some ⟨d, 0, none⟩)] by rw [hW]; exact ((Blk.new w _ [.pointer (some ⟨d, 0, none⟩)] _ hp1).alloc _).alloc _)
    have K2 := Lib.hid (show Blk W p2 3 [.int .i64 z] by rw [hW]; exact (Blk.new _ _ [.int .i64 z] _ (by simp; exact hp2)).alloc _)
    have K3 := Lib.hid (show Blk W p3 25 [.slice bo bl bc] by rw [hW]; exact Blk.new _ _ [.slice bo bl bc] _ (by simp; exact hp3))
    have BW := Lib.hid (show Below w.heap.size w W by rw [hW]; exact (((Below.refl _ w).alloc (Nat.le_refl _) _).alloc (by simp) _).alloc (by simp; omega) _)
    rw [<- hW, <- hp3, <- hp2, <- hp1]
    have HP1 := Lib.hid hp1
    have HP2 := Lib.hid hp2
    have HP3 := Lib.hid hp3
    clear hW hp1 hp2 hp3
    have HM := Lib.hid (H.out.below BW.out)
    have HR := Lib.hid (pdready_any W d S (.slice so sl sc) fv lv t HM.out)
    have VB := Lib.hid (show Move w (Blks d (.slice so sl sc) fv lv) W (Blks d (.slice so sl sc) fv lv) from Move.below BW.out)
    have HG := Lib.hid (fun (W2 : World) (b : Below W.heap.size W W2) => (show Gone w d (.slice so sl sc) fv lv S W2 from ⟨_, _, _, _, HM.out.below b, VB.out.trans (Move.below b)⟩))
    have c1 := K1.out.cell 0 _ rfl
    have c2 := K2.out.cell 0 _ rfl
    have c3 := K3.out.cell 0 _ rfl
    have d0 := HM.out.c0
    have d1 := HM.out.c1
    rw [<- HMO.out] at d0
    rw [hd] at HR
    go_wp2_with (go_at_call 54; (with_reducible refine HR.out.mono ?_); rintro e w1 ⟨rfl, hq⟩; rw [hq]; clear hq w1)
    go_ret
    exact ⟨rfl, HG.out _ (Below.refl _ _)⟩
  | false =>
    by_cases h1 : z < 0
    . have HE := Lib.hid (show DM.write S z l = (S, 43) by rw [HDM.out, if_neg (by rw [hd]; decide), if_pos (.inl h1)])
      rw [HE.out]
      go_enter Tryd.func32, Tryd.ntmps32
      go_upto_region 1 with fail
      obtain ⟨p1, hp1⟩ : ∃ b, b = w.heap.size := ⟨_, rfl⟩
      obtain ⟨p2, hp2⟩ : ∃ b, b = w.heap.size + 1 := ⟨_, rfl⟩
      obtain ⟨p3, hp3⟩ : ∃ b, b = w.heap.size + 1 + 1 := ⟨_, rfl⟩
      obtain ⟨W, hW⟩ : ∃ W, W = ((w.alloc (.cells #[.pointer (some ⟨d, 0, none⟩)] 26)).alloc (.cells #[.int .i64 z] 3)).alloc (.cells #[.slice bo bl bc] 25) := ⟨_, rfl⟩
      have K1 := Lib.hid (show Blk W p1 26 [.pointer (some ⟨d, 0, none⟩)] by rw [hW]; exact ((Blk.new w _ [.pointer (some ⟨d, 0, none⟩)] _ hp1).alloc _).alloc _)
      have K2 := Lib.hid (show Blk W p2 3 [.int .i64 z] by rw [hW]; exact (Blk.new _ _ [.int .i64 z] _ (by simp; exact hp2)).alloc _)
      have K3 := Lib.hid (show Blk W p3 25 [.slice bo bl bc] by rw [hW]; exact Blk.new _ _ [.slice bo bl bc] _ (by simp; exact hp3))
      have BW := Lib.hid (show Below w.heap.size w W by rw [hW]; exact (((Below.refl _ w).alloc (Nat.le_refl _) _).alloc (by simp) _).alloc (by simp; omega) _)
      rw [<- hW, <- hp3, <- hp2, <- hp1]
      have HP1 := Lib.hid hp1
      have HP2 := Lib.hid hp2
      have HP3 := Lib.hid hp3
      clear hW hp1 hp2 hp3
      have HM := Lib.hid (H.out.below BW.out)
      have HR := Lib.hid (pdready_any W d S (.slice so sl sc) fv lv t HM.out)
      have VB := Lib.hid (show Move w (Blks d (.slice so sl sc) fv lv) W (Blks d (.slice so sl sc) fv lv) from Move.below BW.out)
      have HG := Lib.hid (fun (W2 : World) (b : Below W.heap.size W W2) => (show Gone w d (.slice so sl sc) fv lv S W2 from ⟨_, _, _, _, HM.out.below b, VB.out.trans (Move.below b)⟩))
      have c1 := K1.out.cell 0 _ rfl
      have c2 := K2.out.cell 0 _ rfl
      have c3 := K3.out.cell 0 _ rfl
      have d0 := HM.out.c0
      have d1 := HM.out.c1
      rw [<- HMO.out] at d0
      rw [hd] at HR
      clear hd
      go_upto_region 4 with (go_at_call 54; (with_reducible refine HR.out.mono ?_); rintro e w1 ⟨rfl, hq⟩; rw [hq]; clear hq w1)
      go_quiet (fail)
      go_wp2_with fail
      go_ret
      exact ⟨rfl, HG.out _ (below_drewN (Below.refl _ _) _)⟩
    . by_cases h2 : (sl : Int) < z
      . have HE := Lib.hid (show DM.write S z l = (S, 43) by rw [HDM.out, if_neg (by rw [hd]; decide), if_pos (.inr h2)])
        rw [HE.out]
        go_enter Tryd.func32, Tryd.ntmps32
        go_upto_region 1 with fail
        obtain ⟨p1, hp1⟩ : ∃ b, b = w.heap.size := ⟨_, rfl⟩
        obtain ⟨p2, hp2⟩ : ∃ b, b = w.heap.size + 1 := ⟨_, rfl⟩
        obtain ⟨p3, hp3⟩ : ∃ b, b = w.heap.size + 1 + 1 := ⟨_, rfl⟩
        obtain ⟨W, hW⟩ : ∃ W, W = ((w.alloc (.cells #[.pointer (some ⟨d, 0, none⟩)] 26)).alloc (.cells #[.int .i64 z] 3)).alloc (.cells #[.slice bo bl bc] 25) := ⟨_, rfl⟩
        have K1 := Lib.hid (show Blk W p1 26 [.pointer (some ⟨d, 0, none⟩)] by rw [hW]; exact ((Blk.new w _ [.pointer (some ⟨d, 0, none⟩)] _ hp1).alloc _).alloc _)
        have K2 := Lib.hid (show Blk W p2 3 [.int .i64 z] by rw [hW]; exact (Blk.new _ _ [.int .i64 z] _ (by simp; exact hp2)).alloc _)
        have K3 := Lib.hid (show Blk W p3 25 [.slice bo bl bc] by rw [hW]; exact Blk.new _ _ [.slice bo bl bc] _ (by simp; exact hp3))
        have BW := Lib.hid (show Below w.heap.size w W by rw [hW]; exact (((Below.refl _ w).alloc (Nat.le_refl _) _).alloc (by simp) _).alloc (by simp; omega) _)
        rw [<- hW, <- hp3, <- hp2, <- hp1]
        have HP1 := Lib.hid hp1
        have HP2 := Lib.hid hp2
        have HP3 := Lib.hid hp3
        clear hW hp1 hp2 hp3
        have HM := Lib.hid (H.out.below BW.out)
        have HR := Lib.hid (pdready_any W d S (.slice so sl sc) fv lv t HM.out)
        have VB := Lib.hid (show Move w (Blks d (.slice so sl sc) fv lv) W (Blks d (.slice so sl sc) fv lv) from Move.below BW.out)
        have HG := Lib.hid (fun (W2 : World) (b : Below W.heap.size W W2) => (show Gone w d (.slice so sl sc) fv lv S W2 from ⟨_, _, _, _, HM.out.below b, VB.out.trans (Move.below b)⟩))
        have c1 := K1.out.cell 0 _ rfl
        have c2 := K2.out.cell 0 _ rfl
        have c3 := K3.out.cell 0 _ rfl
        have d0 := HM.out.c0
        have d1 := HM.out.c1
        rw [<- HMO.out] at d0
        rw [hd] at HR
        clear hd
        go_upto_region 4 with (go_at_call 54; (with_reducible refine HR.out.mono ?_); rintro e w1 ⟨rfl, hq⟩; rw [hq]; clear hq w1)
        go_quiet (fail)
        go_wp2_with fail
        go_ret
        exact ⟨rfl, HG.out _ (below_drewN (Below.refl _ _) _)⟩
      . have hw : IntKind.i64.wrap ((mo : Int) - z) = (mo : Int) - z := by rw [IntKind.wrap_i64]; omega
        by_cases h3 : (mo : Int) - z < (bl : Int)
        . have HE := Lib.hid (show DM.write S z l = (S, 21) by rw [HDM.out, if_neg (by rw [hd]; decide), if_neg (by omega), if_pos h3])
          rw [HE.out]
          go_enter Tryd.func32, Tryd.ntmps32
          go_upto_region 1 with fail
          obtain ⟨p1, hp1⟩ : ∃ b, b = w.heap.size := ⟨_, rfl⟩
          obtain ⟨p2, hp2⟩ : ∃ b, b = w.heap.size + 1 := ⟨_, rfl⟩
          obtain ⟨p3, hp3⟩ : ∃ b, b = w.heap.size + 1 + 1 := ⟨_, rfl⟩
          obtain ⟨W, hW⟩ : ∃ W, W = ((w.alloc (.cells #[.pointer (some ⟨d, 0, none⟩)] 26)).alloc (.cells #[.int .i64 z] 3)).alloc (.cells #[.slice bo bl bc] 25) := ⟨_, rfl⟩
          have K1 := Lib.hid (show Blk W p1 26 [.pointer (some ⟨d, 0, none⟩)] by rw [hW]; exact ((Blk.new w _ [.pointer (some ⟨d, 0, none⟩)] _ hp1).alloc _).alloc _)
          have K2 := Lib.hid (show Blk W p2 3 [.int .i64 z] by rw [hW]; exact (Blk.new _ _ [.int .i64 z] _ (by simp; exact hp2)).alloc _)
          have K3 := Lib.hid (show Blk W p3 25 [.slice bo bl bc] by rw [hW]; exact Blk.new _ _ [.slice bo bl bc] _ (by simp; exact hp3))
          have BW := Lib.hid (show Below w.heap.size w W by rw [hW]; exact (((Below.refl _ w).alloc (Nat.le_refl _) _).alloc (by simp) _).alloc (by simp; omega) _)
          rw [<- hW, <- hp3, <- hp2, <- hp1]
          have HP1 := Lib.hid hp1
          have HP2 := Lib.hid hp2
          have HP3 := Lib.hid hp3
          clear hW hp1 hp2 hp3
          have HM := Lib.hid (H.out.below BW.out)
          have HR := Lib.hid (pdready_any W d S (.slice so sl sc) fv lv t HM.out)
          have VB := Lib.hid (show Move w (Blks d (.slice so sl sc) fv lv) W (Blks d (.slice so sl sc) fv lv) from Move.below BW.out)
          have HG := Lib.hid (fun (W2 : World) (b : Below W.heap.size W W2) => (show Gone w d (.slice so sl sc) fv lv S W2 from ⟨_, _, _, _, HM.out.below b, VB.out.trans (Move.below b)⟩))
          have c1 := K1.out.cell 0 _ rfl
          have c2 := K2.out.cell 0 _ rfl
          have c3 := K3.out.cell 0 _ rfl
          have d0 := HM.out.c0
          have d1 := HM.out.c1
          rw [<- HMO.out] at d0
          rw [hd] at HR
          clear hd
          go_upto_region 4 with (go_at_call 54; (with_reducible refine HR.out.mono ?_); rintro e w1 ⟨rfl, hq⟩; rw [hq]; clear hq w1)
          go_quiet (fail)
          go_upto_region 6 with fail
          go_quiet (fail)
          go_wp2_with fail
          go_ret
          exact ⟨rfl, HG.out _ (below_drewN (below_drewN (Below.refl _ _) _) _)⟩
        . have HE := Lib.hid (show DM.write S z l = DM.step S (wrote S z.toNat l) by rw [HDM.out, if_neg (by rw [hd]; decide), if_neg (by omega), if_neg h3])
          rw [HE.out]
          go_enter Tryd.func32, Tryd.ntmps32
          go_upto_region 1 with fail
          obtain ⟨p1, hp1⟩ : ∃ b, b = w.heap.size := ⟨_, rfl⟩
          obtain ⟨p2, hp2⟩ : ∃ b, b = w.heap.size + 1 := ⟨_, rfl⟩
          obtain ⟨p3, hp3⟩ : ∃ b, b = w.heap.size + 1 + 1 := ⟨_, rfl⟩
          obtain ⟨W, hW⟩ : ∃ W, W = ((w.alloc (.cells #[.pointer (some ⟨d, 0, none⟩)] 26)).alloc (.cells #[.int .i64 z] 3)).alloc (.cells #[.slice bo bl bc] 25) := ⟨_, rfl⟩
          have K1 := Lib.hid (show Blk W p1 26 [.pointer (some ⟨d, 0, none⟩)] by rw [hW]; exact ((Blk.new w _ [.pointer (some ⟨d, 0, none⟩)] _ hp1).alloc _).alloc _)
          have K2 := Lib.hid (show Blk W p2 3 [.int .i64 z] by rw [hW]; exact (Blk.new _ _ [.int .i64 z] _ (by simp; exact hp2)).alloc _)
          have K3 := Lib.hid (show Blk W p3 25 [.slice bo bl bc] by rw [hW]; exact Blk.new _ _ [.slice bo bl bc] _ (by simp; exact hp3))
          have BW := Lib.hid (show Below w.heap.size w W by rw [hW]; exact (((Below.refl _ w).alloc (Nat.le_refl _) _).alloc (by simp) _).alloc (by simp; omega) _)
          rw [<- hW, <- hp3, <- hp2, <- hp1]
          have HP1 := Lib.hid hp1
          have HP2 := Lib.hid hp2
          have HP3 := Lib.hid hp3
          clear hW hp1 hp2 hp3
          have HM := Lib.hid (H.out.below BW.out)
          have HR := Lib.hid (pdready_any W d S (.slice so sl sc) fv lv t HM.out)
          have VB := Lib.hid (show Move w (Blks d (.slice so sl sc) fv lv) W (Blks d (.slice so sl sc) fv lv) from Move.below BW.out)
          have HG := Lib.hid (fun (W2 : World) (b : Below W.heap.size W W2) => (show Gone w d (.slice so sl sc) fv lv S W2 from ⟨_, _, _, _, HM.out.below b, VB.out.trans (Move.below b)⟩))
          have c1 := K1.out.cell 0 _ rfl
          have c2 := K2.out.cell 0 _ rfl
          have c3 := K3.out.cell 0 _ rfl
          have d0 := HM.out.c0
          have d1 := HM.out.c1
          rw [<- HMO.out] at d0
          rw [hd] at HR
          have HDN := Lib.hid hd
          clear hd
          go_upto_region 4 with (go_at_call 54; (with_reducible refine HR.out.mono ?_); rintro e w1 ⟨rfl, hq⟩; rw [hq]; clear hq w1)
          go_quiet (fail)
          go_upto_region 6 with fail
          go_quiet (fail)
          have HST := Lib.hid (fun (W2 : World) (b : Below W.heap.size W W2) => pstep_write W2 d S (fun S => wrote S z.toNat l) (.slice so sl sc) fv lv t p1 p2 p3 (HM.out.below b) HDN.out HS.out HA.out HII.out.told (does_wrote S z.toNat l) (fun dn af w1 _ _ m1 mv => by
            have hd1 := H.out.lt d (.inl rfl)
            have hp1 := HP1.out
            have hp2 := HP2.out
            have hp3 := HP3.out
            have hbl := HBL.out
            have hsl := HSL.out
            have hmo := HMO.out
            exact pwrite1_any w1 d (counted S dn af) (.slice so sl sc) fv lv t m1 ⟨HOK.out.most, HOK.out.seen, HOK.out.safe, HOK.out.bseen, HOK.out.bsafe, HOK.out.loose⟩ HLL.out z.toNat p1 p2 p3 (.slice bo bl bc) l (((HV.out.below BW.out).below b).turnF mv.turn (fun hp g e q => HNE.out (by rw [hbl]; exact hp) g e (.inl q))) (by show z.toNat <= S.seen.length; omega) (by show z.toNat + l.length <= S.most; omega) (fun hp g e => HNE.out (by rw [hbl]; exact hp) g e) (((K1.out.below b K1.out.lt).turnF mv.turn (by omega)).cell 0 _ rfl) (by rw [show ((z.toNat : Nat) : Int) = z by omega]; exact ((K2.out.below b K2.out.lt).turnF mv.turn (by omega)).cell 0 _ rfl) (((K3.out.below b K3.out.lt).turnF mv.turn (by omega)).cell 0 _ rfl)))
          have hmf := fun (fn : Fn) (first cap : Array Value) (w : World) => (rfl : (Instr.makeFunc fn first cap).run Tryd.prog w = .ok (.func fn first cap) w)
          go_wp2_with (go_at_call 55; (with_reducible refine (HST.out _ (below_drewN (Below.refl _ _) _)).mono ?_); rintro e w5 ⟨rfl, g5⟩; have G5 := Lib.hid (Gone.after (VB.out.trans (Move.below (below_drewN (Below.refl _ _) _))) g5); clear g5)
          go_ret
          exact ⟨rfl, G5.out⟩
end Go.Proofs.YtflnodkajhokhaaDoor
namespace Go.Proofs.YtflnodkajhokhaaDoor
open Go.ChangeShapes Go.WideShapes Go.ChangeAt Go.RowKit
open DM
def Dv (w : World) (d : Nat) (F R : Nat -> Prop) (S : DS) : Prop := ∃ sv fv lv t, Mem w d S sv fv lv t /\ Inv S /\ F = Blks d sv fv lv /\ R = Blks d sv fv lv
theorem own_same {w w' : World} {base : Nat} {v : Value} {l : List Nat} (h : Own w base v l) (hk : ∀ g, v.ownBlock = some g -> w'.heap[g]? = w.heap[g]?) : Own w' base v l := by
  refine ⟨⟨h.1.1, ?_⟩, h.2⟩
  rcases h.1.2 with q | ⟨g, cap, cur, e, hB, hh, rest⟩
  . exact .inl q
  . exact .inr ⟨g, cap, cur, e, hB, by rw [hk g (by rw [e]; rfl)]; exact hh, rest⟩
theorem row_same {w w' : World} {B k n : Nat} {t : TypeId} {v : Value} {cs : List Value} (h : w.ownsRow B t k v n cs) (hk : ∀ g, v.ownBlock = some g -> w'.heap[g]? = w.heap[g]?) : w'.ownsRow B t k v n cs := by
  refine ⟨h.1, ?_⟩
  rcases h.2 with q | ⟨g, cap, cur, e, hB, hh, rest⟩
  . exact .inl q
  . exact .inr ⟨g, cap, cur, e, hB, by rw [hk g (by rw [e]; rfl)]; exact hh, rest⟩
theorem Mem.same {w w' : World} {d : Nat} {S : DS} {sv fv lv : Value} {t : Bool} (h : Mem w d S sv fv lv t) (hk : ∀ k, Blks d sv fv lv k -> w'.heap[k]? = w.heap[k]?) : Mem w' d S sv fv lv t :=
  ⟨by unfold Blk; rw [hk d (.inl rfl)]; exact h.blk, own_same h.seen (fun g e => hk g (.inr (.inl e))), own_same h.safe (fun g e => hk g (.inr (.inr (.inl e)))), row_same h.loose (fun g e => hk g (.inr (.inr (.inr e)))), h.tl, h.ns, h.nf, h.nl, h.sf, h.sl, h.fl⟩
theorem Dv.keep {w w' : World} {d : Nat} {F R : Nat -> Prop} {S : DS} (h : Dv w d F R S) (_hs : w.heap.size <= w'.heap.size) (hk : ∀ k, R k -> w'.heap[k]? = w.heap[k]?) : Dv w' d F R S := by
  obtain ⟨sv, fv, lv, t, m, i, rfl, rfl⟩ := h
  exact ⟨sv, fv, lv, t, m.same hk, i, rfl, rfl⟩
theorem Dv.sub {w : World} {d : Nat} {F R : Nat -> Prop} {S : DS} (h : Dv w d F R S) : (∀ k, F k -> R k) /\ ∀ k, R k -> k < w.heap.size := by
  obtain ⟨sv, fv, lv, t, m, i, rfl, rfl⟩ := h
  exact ⟨fun _ q => q, m.lt⟩
def Went (w : World) (d : Nat) (F R : Nat -> Prop) (S : DS) (w' : World) : Prop := ∃ F' R', Dv w' d F' R' S /\ (∀ k, F' k -> F k \/ w.heap.size <= k) /\ (∀ k, R' k -> R k \/ w.heap.size <= k) /\ Turn F w w'
theorem Gone.went {w w' : World} {d : Nat} {sv fv lv : Value} {S : DS} (h : Gone w d sv fv lv S w') (i : Inv S) : Went w d (Blks d sv fv lv) (Blks d sv fv lv) S w' := by
  obtain ⟨s2, f2, l2, t2, m, v⟩ := h
  exact ⟨_, _, ⟨s2, f2, l2, t2, m, i, rfl, rfl⟩, v.into, v.into, v.turn⟩
structure Tame (S : DS) : Prop where
  ok : Ok S
  steps : S.steps <= 1000000
  loose : S.loose.length <= 1000000
  after : S.after <= 9223372036854775807
theorem dnew_any (n : Int) (_hn : -9223372036854775808 <= n /\ n <= 9223372036854775807) (w : World) : Calls Tryd.prog 12 #[.int .i64 n] w fun e w' => ∃ d F R, e = .returned (.pointer (some ⟨d, 0, none⟩)) /\ Dv w' d F R (DM.new n) /\ (∀ k, R k -> w.heap.size <= k) /\ Below w.heap.size w w' := by
  refine (pdnew_any n w).mono fun e w' h => ?_
  obtain ⟨d, hd, he, m, b⟩ := h
  refine ⟨d, _, _, he, ⟨_, _, _, _, m, Inv.new n, rfl, rfl⟩, fun k hk => ?_, b⟩
  rcases hk with q | q | q | q
  . omega
  . cases q
  . cases q
  . cases q
section
variable (d : Nat) (F R : Nat -> Prop) (S : DS) (w : World) (h : Dv w d F R S) (ht : Tame S)
include h ht
theorem dwrite_any (a : Int) (ha : -9223372036854775808 <= a /\ a <= 9223372036854775807) (v : Value) (l : List Nat) (hv : Rd w v l) (hl : l.length <= 16777216) (hne : 0 < l.length -> ∀ g, v.ownBlock = some g -> ¬ F g) :
    Calls Tryd.prog 32 #[.pointer (some ⟨d, 0, none⟩), .int .i64 a, v] w fun e w' => e = .returned (.int .i64 (DM.write S a l).2) /\ Went w d F R (DM.write S a l).1 w' := by
  obtain ⟨sv, fv, lv, t, m, i, rfl, rfl⟩ := h
  exact (pdwrite_any w d S sv fv lv t m i ht.ok ht.loose (by have := ht.steps; omega) ht.after a ha v l hv hl hne).mono fun e w' q => ⟨q.1, q.2.went (i.write a l)⟩
theorem dread_any (a n : Int) (ha : -9223372036854775808 <= a /\ a <= 9223372036854775807) (hn : -9223372036854775808 <= n /\ n <= 9223372036854775807) : Calls Tryd.prog 65 #[.pointer (some ⟨d, 0, none⟩), .int .i64 a, .int .i64 n] w fun e w' => ∃ y, e = .returned (.tuple #[y, .int .i64 (DM.read S a n).2]) /\ Own w' w.heap.size y (DM.read S a n).1 /\ Below w.heap.size w w' := by
  obtain ⟨sv, fv, lv, t, m, i, rfl, rfl⟩ := h
  exact pdread_any w d S sv fv lv t m a n ha hn (Nat.le_trans ht.ok.seen ht.ok.most)
theorem dload_any (v : Value) (l : List Nat) (hv : Rd w v l) (hne : 0 < l.length -> ∀ g, v.ownBlock = some g -> ¬ F g) : Calls Tryd.prog 6 #[.pointer (some ⟨d, 0, none⟩), v] w fun e w' => e = .returned (.tuple #[]) /\ Went w d F R (DM.load S l) w' := by
  obtain ⟨sv, fv, lv, t, m, i, rfl, rfl⟩ := h
  exact (pdload_any w d S sv fv lv t m v l hv hne ht.ok.most).mono fun e w' q => ⟨q.1, q.2.went (i.load l)⟩
theorem dbytes_any : Calls Tryd.prog 5 #[.pointer (some ⟨d, 0, none⟩)] w fun e w' => ∃ y, e = .returned y /\ Own w' w.heap.size y S.seen /\ Below w.heap.size w w' := by
  have _ := ht
  obtain ⟨sv, fv, lv, t, m, i, rfl, rfl⟩ := h
  exact pdbytes_any w d S sv fv lv t m
end
end Go.Proofs.YtflnodkajhokhaaDoor
end

section
namespace Go.Proofs.YtflnodkajhokhaaDoor
open Go.ChangeShapes Go.WideShapes Go.ChangeAt Go.RowKit
open DM
def Dev (B : Nat) (A : Nat -> Prop) (w : World) (d : Nat) (S : DS) : Prop := ∃ F R, Dv w d F R S /\ (∀ k, F k -> B <= k) /\ (∀ k, R k -> ¬ A k) /\ (∀ k, A k -> k < w.heap.size) /\ B <= w.heap.size
theorem Dev.below {B : Nat} {A : Nat -> Prop} {w w' : World} {d : Nat} {S : DS} (h : Dev B A w d S) (hb : Below w.heap.size w w') : Dev B A w' d S := by
  obtain ⟨F, R, hd, h1, h2, h3, h4⟩ := h
  exact ⟨F, R, hd.keep hb.size (fun k hk => hb.block k (hd.sub.2 k hk)), h1, h2, fun k hk => Nat.lt_of_lt_of_le (h3 k hk) hb.size, Nat.le_trans h4 hb.size⟩
theorem Dev.own {B : Nat} {A : Nat -> Prop} {w w' : World} {d : Nat} {S : DS} (h : Dev B A w d S) (hb : Below w.heap.size w w') : Dev B (fun k => A k \/ (w.heap.size <= k /\ k < w'.heap.size)) w' d S := by
  obtain ⟨F, R, hd, h1, h2, h3, h4⟩ := h
  refine ⟨F, R, hd.keep hb.size (fun k hk => hb.block k (hd.sub.2 k hk)), h1, fun k hk q => ?_, fun k hk => ?_, Nat.le_trans h4 hb.size⟩
  . have := hd.sub.2 k hk
    rcases q with q | q
    . exact h2 k hk q
    . omega
  . rcases hk with q | q
    . exact Nat.lt_of_lt_of_le (h3 k q) hb.size
    . exact q.2
theorem Dev.turn {B : Nat} {A : Nat -> Prop} {w w' : World} {d : Nat} {S : DS} {row : Option Nat} (h : Dev B A w d S) (hg : w.grownBy w' row) (hA : ∀ g, row = some g -> A g) : Dev B A w' d S := by
  obtain ⟨F, R, hd, h1, h2, h3, h4⟩ := h
  exact ⟨F, R, hd.keep hg.size (fun k hk => hg.block k (hd.sub.2 k hk) (fun e => h2 k hk (hA k e.symm))), h1, h2, fun k hk => Nat.lt_of_lt_of_le (h3 k hk) hg.size, Nat.le_trans h4 hg.size⟩
theorem Dev.went {B : Nat} {A : Nat -> Prop} {w w' : World} {d : Nat} {F R : Nat -> Prop} {S : DS} (h1 : ∀ k, F k -> B <= k) (hs : ∀ k, F k -> R k) (h2 : ∀ k, R k -> ¬ A k) (h3 : ∀ k, A k -> k < w.heap.size) (h4 : B <= w.heap.size) (h : Went w d F R S w') : Dev B A w' d S /\ Kept B A w w' := by
  obtain ⟨F', R', hd, f, r, t⟩ := h
  refine ⟨⟨F', R', hd, fun k hk => (f k hk).elim (h1 k) (fun q => Nat.le_trans h4 q), fun k hk q => (r k hk).elim (fun g => h2 k g q) (fun g => by have := h3 k q; omega), fun k hk => Nat.lt_of_lt_of_le (h3 k hk) t.size, Nat.le_trans h4 t.size⟩, t.os, t.tape, t.output, t.size, fun k hk q => t.block k hk fun g => ?_⟩
  rcases q with q | q
  . have := h1 k g; omega
  . exact h2 k (hs k g) q
theorem dev_new (n : Int) (hn : -9223372036854775808 <= n /\ n <= 9223372036854775807) (B : Nat) (w : World) (hB : B <= w.heap.size) : Calls Tryd.prog 12 #[.int .i64 n] w fun e w' => ∃ d, e = .returned (.pointer (some ⟨d, 0, none⟩)) /\ Dev B (fun k => B <= k /\ k < w.heap.size) w' d (DM.new n) /\ Below w.heap.size w w' :=
  (dnew_any n hn w).mono fun e w' ⟨d, F, R, he, hd, hr, hb⟩ => ⟨d, he, ⟨F, R, hd, fun k hk => Nat.le_trans hB (hr k (hd.sub.1 k hk)), fun k hk q => by have := hr k hk; omega, fun k hk => Nat.lt_of_lt_of_le hk.2 hb.size, Nat.le_trans hB hb.size⟩, hb⟩
section
variable (B : Nat) (A : Nat -> Prop) (d : Nat) (S : DS) (w : World) (h : Dev B A w d S) (ht : Tame S)
include h ht
theorem dev_write (a : Int) (ha : -9223372036854775808 <= a /\ a <= 9223372036854775807) (v : Value) (l : List Nat) (hv : Rd w v l) (hl : l.length <= 16777216) (hne : 0 < l.length -> ∀ g, v.ownBlock = some g -> g < B \/ A g) : Calls Tryd.prog 32 #[.pointer (some ⟨d, 0, none⟩), .int .i64 a, v] w fun e w' => e = .returned (.int .i64 (DM.write S a l).2) /\ Dev B A w' d ((DM.write S a l).1) /\ Kept B A w w' := by
  obtain ⟨F, R, hd, h1, h2, h3, h4⟩ := h
  have hf : 0 < l.length -> ∀ g, v.ownBlock = some g -> ¬ F g := fun hl0 g hg q => (hne hl0 g hg).elim (fun r => by have := h1 g q; omega) (h2 g (hd.sub.1 g q))
  exact (dwrite_any d F R S w hd ht a ha v l hv hl hf).mono fun e w' ⟨he, hw⟩ => ⟨he, Dev.went h1 hd.sub.1 h2 h3 h4 hw⟩
theorem dev_load (v : Value) (l : List Nat) (hv : Rd w v l) (hne : 0 < l.length -> ∀ g, v.ownBlock = some g -> g < B \/ A g) : Calls Tryd.prog 6 #[.pointer (some ⟨d, 0, none⟩), v] w fun e w' => e = .returned (.tuple #[]) /\ Dev B A w' d (DM.load S l) /\ Kept B A w w' := by
  obtain ⟨F, R, hd, h1, h2, h3, h4⟩ := h
  have hf : 0 < l.length -> ∀ g, v.ownBlock = some g -> ¬ F g := fun hl0 g hg q => (hne hl0 g hg).elim (fun r => by have := h1 g q; omega) (h2 g (hd.sub.1 g q))
  exact (dload_any d F R S w hd ht v l hv hf).mono fun e w' ⟨he, hw⟩ => ⟨he, Dev.went h1 hd.sub.1 h2 h3 h4 hw⟩
theorem dev_read (a n : Int) (ha : -9223372036854775808 <= a /\ a <= 9223372036854775807) (hn : -9223372036854775808 <= n /\ n <= 9223372036854775807) : Calls Tryd.prog 65 #[.pointer (some ⟨d, 0, none⟩), .int .i64 a, .int .i64 n] w fun e w' => ∃ y, e = .returned (.tuple #[y, .int .i64 (DM.read S a n).2]) /\ Own w' w.heap.size y (DM.read S a n).1 /\ Below w.heap.size w w' := by
  obtain ⟨F, R, hd, _⟩ := h
  exact dread_any d F R S w hd ht a n ha hn
theorem dev_bytes : Calls Tryd.prog 5 #[.pointer (some ⟨d, 0, none⟩)] w fun e w' => ∃ y, e = .returned y /\ Own w' w.heap.size y S.seen /\ Below w.heap.size w w' := by
  obtain ⟨F, R, hd, _⟩ := h
  exact dbytes_any d F R S w hd ht
end
end Go.Proofs.YtflnodkajhokhaaDoor
end

section
namespace Go.Proofs.YtflnodkajhokhaaDoor
open Go.ChangeShapes Go.WideShapes Go.ChangeAt Go.RowKit
open AM FM XM
theorem Own.none_ (w : World) (B : Nat) : Own w B (.slice none 0 0) [] := ⟨⟨rfl, .inl ⟨rfl, rfl⟩⟩, fun k => by rw [gb_nil]; omega, by simp⟩
end Go.Proofs.YtflnodkajhokhaaDoor
end

section
namespace Go.Proofs.YtflnodkajhokhaaDoor
open Go.ChangeShapes Go.WideShapes Go.ChangeAt Go.RowKit
open AM FM XM
theorem secs_len (op : Bool) {k1 k2 : Nat -> List Nat} (_ : ∀ n, Bytes 16 (k1 n)) (_ : ∀ n, Bytes 16 (k2 n)) (n : Nat) (b : List Nat) (j : Nat) : (secs op k1 k2 n b j).length = 512 * j := by
  unfold secs openTo sealTo
  cases op
  . rw [if_neg (by decide), bw_len _ fun q _ => row_len _]; omega
  . rw [if_pos rfl, bw_len _ fun q _ => row_len _]; omega
theorem sec_len (op : Bool) (k1 k2 : Nat -> List Nat) (n : Nat) (b : List Nat) : (sec op k1 k2 n b).length = 512 := by
  unfold sec
  cases op
  . rw [if_neg (by decide), bw_len _ fun q _ => row_len _]
  . rw [if_pos rfl, bw_len _ fun q _ => row_len _]
end Go.Proofs.YtflnodkajhokhaaDoor
end

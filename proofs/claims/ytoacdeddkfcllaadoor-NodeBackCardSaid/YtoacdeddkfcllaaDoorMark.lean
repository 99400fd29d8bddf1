/- A constant's bytes in a region that draws its order: one operation makes the row, another marks it, a third appends to it. Work ahead for stage 15. Own work. -/
import Derived.Test.YtoacdeddkfcllaaDoorShaD
import Derived.Test.YtoacdeddkfcllaaDoorAppAny
import Derived.Lib.SlBytesConst
namespace Go.Proofs.YtoacdeddkfcllaaDoor
open Go.ChangeShapes Go.WideShapes Go.ChangeAt Go.RowKit
theorem run_mark {P : Program} (w : World) (g : Nat) (C : Array Value) (n c : Nat) (t e : TypeId) (ht : P.underlying t = some (.slice e)) (he : P.underlying e = some (.int .u8)) (hg : w.heap[g]? = some (.cells C e)) :
    ∃ w', (convert t t (.slice (some ⟨g, 0, none⟩) n c)).run P w = .ok (.slice (some ⟨g, 0, none⟩) n c) w' ∧ w.grownBy w' (some g) ∧ w'.heap[g]? = some (.cells C e (C.size, C.size + 1)) := by
  have hsh : w.shape? g = some (e, C.size) := by unfold World.shape?; rw [hg]
  refine ⟨w.freeze ⟨g, C.size, none⟩ 1, ?_, ?_, ?_⟩
  · simp [convert, run_underlying ht, run_underlying he, markStringish, hsh]
  · unfold World.freeze
    rw [if_neg (by decide)]
    refine ⟨rfl, rfl, rfl, by simp, fun k _ hne => ?_⟩
    show (w.heap.modify g _)[k]? = w.heap[k]?
    rw [Array.getElem?_modify, if_neg (fun q => hne (by rw [q]))]
  · unfold World.freeze
    rw [if_neg (by decide)]
    show (w.heap.modify g _)[g]? = _
    rw [Array.getElem?_modify, if_pos rfl, hg]
    rfl
theorem rd_marked {w : World} {g : Nat} {e : TypeId} {mk : Nat × Nat} {l : List Nat} (hl : ∀ k, gb l k < 256) (hf : l.length ≤ 140737488355328) (hg : w.heap[g]? = some (.cells (row8 l).toArray e mk)) : Rd w (.slice (some ⟨g, 0, none⟩) l.length l.length) l := by
  refine ⟨hl, hf, .inr ⟨_, _, rfl, Nat.le_refl _, fun j hj => ?_⟩⟩
  rw [Addr.add_mid, Nat.zero_add]
  have h1 := row8_val l j hj
  unfold World.cell?
  rw [hg]
  simpa using h1
def Pred.lit {B : Nat} (l : List Nat) : Pred B := ⟨fun v w => ∃ g, v = .slice (some ⟨g, 0, none⟩) l.length l.length ∧ w.heap[g]? = some (.cells (row8 l).toArray 5) ∧ B ≤ g, false,
  fun {v w w'} ⟨g, e, h, hb⟩ b => ⟨g, e, by
    have hlt : g < w.heap.size := (Array.getElem?_eq_some_iff.1 h).1
    rw [b.block g hlt]; exact h, hb⟩,
  fun {v w w' k} ⟨g, e, h, hb⟩ hk _ hne => ⟨g, e, by
    have hlt : g < w.heap.size := (Array.getElem?_eq_some_iff.1 h).1
    rw [hk.block g hlt (fun q => (hne.resolve_left (by simp)) (by rw [e]; exact q))]; exact h, hb⟩⟩
def Pred.full {B : Nat} (l : List Nat) : Pred B := ⟨fun v w => ∃ ad, v = .slice (some ad) l.length l.length ∧ Rd w v l, false,
  fun ⟨ad, e, h⟩ b => ⟨ad, e, h.below b⟩,
  fun ⟨ad, e, h⟩ hg _ hne => ⟨ad, e, h.grown hg (held_own (hne.resolve_left (by simp)))⟩⟩
theorem own_from {w : World} {B : Nat} {v : Value} {l : List Nat} (h : Own w B v l) : ∀ g, held v = some g → B ≤ g ∧ g < w.heap.size := fun g hg => by
  obtain ⟨ao, c, rfl, _⟩ := h.rd.shape
  exact h.from g (by
    cases ao with
    | none => cases hg
    | some q => exact hg)
section
variable {B : Nat} {ops : List Oper} {Q : Exit → Act → World → Prop} {T : List (Pred B)} {U : Nat → Nat} {i : Nat} {o : Oper} {a : Act} {w : World}
/-- The row of four bytes is made. -/
theorem doesG_lit4 (hw : Region.wanted o (yielded ops.toArray a.tmps) = true) (x y z u : Nat) (ho : o.op = .buildSlice 29 4 #[(0, .const (.int .u8 (x : Int))), (1, .const (.int .u8 (y : Int))), (2, .const (.int .u8 (z : Int))), (3, .const (.int .u8 (u : Int)))]) (hB : B ≤ w.heap.size) (hf : T.getD i (.val undef) = .lit [x, y, z, u]) : DoesG Tryd.prog ops Q T U i o a w := by
  refine doesG_new hw fun K hK => ?_
  unfold Oper.wp execOp
  rw [ho]
  rw [hf] at hK
  go_simp
  refine hK _ _ ⟨w.heap.size, rfl, heap_alloc_new w _, hB⟩ ((Below.refl _ _).alloc (Nat.le_refl _) _) (fun g hg => ?_)
  have : w.heap.size = g := Option.some.inj hg
  simp; omega
/-- It is marked. -/
theorem doesG_mark (hw : Region.wanted o (yielded ops.toArray a.tmps) = true) (x : Operand) (ho : o.op = .convert 29 29 x) (d : Nat) (hd : d ∈ depsOf o) (hu : U d = i) (hn : (T.getD d (.val undef)).firm = false) (l : List Nat) (hl : ∀ k, gb l k < 256) (hfit : l.length ≤ 140737488355328) (v : Value) (hvd : valOf ops a d = v) (hx : a.eval x = v)
    (hv : ∃ g, v = .slice (some ⟨g, 0, none⟩) l.length l.length ∧ w.heap[g]? = some (.cells (row8 l).toArray 5) ∧ B ≤ g) (hf : T.getD i (.val undef) = .full l) : DoesG Tryd.prog ops Q T U i o a w := by
  obtain ⟨g, rfl, hg, hb⟩ := hv
  obtain ⟨w', hrun, hgr, hg'⟩ := run_mark (P := Tryd.prog) w g _ l.length l.length 29 5 Tryd.underlying29 Tryd.underlying5 hg
  have hlt : g < w.heap.size := (Array.getElem?_eq_some_iff.1 hg).1
  refine .inl ⟨hw, fun K hK => ?_⟩
  unfold Oper.wp execOp
  rw [ho]
  simp only [hx, Sem.run_bind, hrun, Result.andThen_ok, Sem.run_pure, Oper.upon_value]
  rw [hf] at hK
  refine hK _ _ ⟨_, rfl, rd_marked hl hfit hg'⟩ (.inr ⟨d, g, hd, hu, hn, by rw [hvd]; rfl, hb, hgr⟩) (fun _ k hk => ?_)
  have e : g = k := Option.some.inj hk
  subst e
  exact ⟨Nat.lt_of_lt_of_le hlt hgr.size, .inr ⟨d, hd, hu, hn, by rw [hvd]; rfl⟩⟩
/-- Bytes are appended to it: a row of the region's own. -/
theorem doesG_appFull (hw : Region.wanted o (yielded ops.toArray a.tmps) = true) (s x : Operand) (ho : o.op = .call { callee := .builtin .append, args := #[s, x], argTypes := #[29, 29] })
    (l m : List Nat) (v y : Value) (hs : a.eval s = v) (hx : a.eval x = y) (hv : ∃ ad, v = .slice (some ad) l.length l.length ∧ Rd w v l) (hy : Rd w y m) (hm : 0 < m.length) (hl : l.length + m.length ≤ 140737488355328) (hB : B ≤ w.heap.size)
    (hf : ∀ v' w', Own w' B v' (l ++ m) → (T.getD i (.val undef)).holds v' w') : DoesG Tryd.prog ops Q T U i o a w := by
  obtain ⟨ad, rfl, hr⟩ := hv
  obtain ⟨v', w', hrun, h2, h3⟩ := run_app_full w o.type ad l.length l m rfl hr y hy hm hl
  refine doesG_new hw fun K hK => ?_
  unfold Oper.wp
  simp only [execOp, ho, resolve, invoke, builtin, Sem.run_bind, Sem.run_pure, Result.andThen_ok, List.map_toArray, List.map_cons, List.map_nil, hs, hx, hrun]
  exact hK _ _ (hf _ _ (h2.lower hB)) h3 (own_from h2)
end
end Go.Proofs.YtoacdeddkfcllaaDoor

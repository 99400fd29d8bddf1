/- The call's own map of ints to bools. Own work. -/
import Derived.Test.YtipdcocliefppaaRows
import Derived.WalkKit
import Derived.Maps.Own
import Derived.Maps.Views
namespace Go.Proofs.Ytipdcocliefppaa
open Go.Maps (Keyed)
/-- Block b is a map of at most n entries that tells f. -/
def MapB (w : World) (b n : Nat) (f : Int → Bool) : Prop :=
  ∃ D : DataW Unit, w.ownsMap Try.prog 3 (plainElem Try.prog 4) b n D ∧ Maps.IsMap D ∧ ∀ s, D.atKey (.int .i64 s) (.lit (.bool false)) = .lit (.bool (f s))
theorem MapB.made (w : World) : MapB (w.alloc (.map #[] 0)) w.heap.size 0 (fun _ => false) := ⟨.map [], World.ownsMap_made w _ _ _, Maps.isMap_empty, fun _ => rfl⟩
theorem MapB.lt {w : World} {b n : Nat} {f : Int → Bool} (h : MapB w b n f) : b < w.heap.size := by obtain ⟨D, h, _⟩ := h; exact h.lt
theorem MapB.kept {w w' : World} {b n : Nat} {f : Int → Bool} {row : Option Nat} (h : MapB w b n f) (hg : w.grownBy w' row) (hne : some b ≠ row) : MapB w' b n f := by
  obtain ⟨D, h1, h2, h3⟩ := h; exact ⟨D, h1.kept hg hne, h2, h3⟩
theorem MapB.same {w w' : World} {b n : Nat} {f : Int → Bool} (h : MapB w b n f) (hs : w'.heap[b]? = w.heap[b]?) : MapB w' b n f := by
  obtain ⟨D, ⟨es, clock, hb, r⟩, h2, h3⟩ := h; exact ⟨D, ⟨es, clock, hs.trans hb, r⟩, h2, h3⟩
theorem zeroBoolM (w : World) : (zeroValue 4).run Try.prog w = .ok (.bool false) w := by kernel_rfl
theorem MapB.lookup {w : World} {b n : Nat} {f : Int → Bool} (h : MapB w b n f) (s : Int) (hs : (Lit.int .i64 s).wf = true) : (Instr.lookup 51 (.map (some b)) (.int .i64 s) false).run Try.prog w = .ok (.bool (f s)) w := by
  obtain ⟨D, h1, h2, h3⟩ := h
  obtain ⟨v, ps, hr, hv⟩ := h1.lookup (Maps.int_keyed Try.underlying3) Try.underlying51 (zeroBoolM w) (plainElem_bool Try.underlying4 false) (Maps.keyOf_int_mk Try.underlying3 hs)
  rw [h3 s] at hv
  rw [hr]
  unfold plainElem at hv
  rw [Try.underlying4] at hv
  split at hv
  · cases hv; rfl
  · split at hv <;> simp_all
  · split at hv <;> simp_all
  · cases hv
theorem wpList_put_bool {w : World} {ops : Array Oper} {rest : List Oper} {o : Oper} {a : Act} {Q : Exit → Act → World → Prop} (hg : o.guard = none) (m x v : Operand) (hop : o.op = Op.mapUpdate 51 m x v)
    (b n : Nat) (f : Int → Bool) (hm : a.eval m = .map (some b)) (h : MapB w b n f) (hn : n < 1000000) (s : Int) (hs : (Lit.int .i64 s).wf = true) (hx : a.eval x = .int .i64 s) (hv : a.eval v = .bool true)
    (hK : ∀ w', MapB w' b (n + 1) (fun i => if i = s then true else f i) → w.grownBy w' (some b) → wpList Try.prog ops Q rest (a.put o.dst undef) w') : wpList Try.prog ops Q (o :: rest) a w := by
  obtain ⟨D, h1, h2, h3⟩ := h
  refine wpList_mapUpdate_own w hg m x v 51 hop 3 4 (Maps.int_keyed Try.underlying3) Try.underlying51 _ b n D hm h1 (by unfold maxLen; omega) _ _ (.int .i64 s) hx hv (Maps.keyOf_int_mk Try.underlying3 hs) (.lit (.bool true)) [] (plainElem_bool Try.underlying4 true) ?_
  intro w' hown hgr
  refine hK w' ⟨_, hown, h2.put _ _, fun i => ?_⟩ hgr
  by_cases e : i = s
  · subst e
    simp only [if_true]
    exact Maps.atKey_put_same (k := .int .i64 i) h2 trivial _ _
  · simp only [if_neg e]
    rw [Maps.atKey_put_other (by intro q; injection q with _ q2; exact e q2), h3 i]
end Go.Proofs.Ytipdcocliefppaa

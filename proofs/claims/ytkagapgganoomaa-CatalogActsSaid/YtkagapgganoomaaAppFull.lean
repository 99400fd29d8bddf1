/- append onto a slice without room (a constant's row, say): a row of the call's own. Own work. -/
import Derived.Test.YtkagapgganoomaaPutX
import Derived.Laws.Append
namespace Go.Proofs.Ytkagapgganoomaa
open Go.RowKit
theorem Rd.cells {w : World} {ad : Addr} {n cap : Nat} {l : List Nat} (h : Rd w (.slice (some ad) n cap) l) : ∀ j v, (row8 l)[j]? = some v → w.cell? (ad.add j) = some v := fun j v hv => by
  rcases h.form with ⟨e, _⟩ | ⟨ad', cap', e, _, hs⟩
  · cases e
  · injection e with e1 _ _
    obtain rfl := Option.some.inj e1
    by_cases hj : j < l.length
    · rw [row8_val l j hj] at hv; rw [hs j hj, ← hv]
    · rw [List.getElem?_eq_none (by rw [row8_len]; omega)] at hv; cases hv
theorem run_app_full (w : World) (ty : TypeId) (ad : Addr) (n : Nat) (l m : List Nat) (hl : l.length = n) (hv : Rd w (.slice (some ad) n n) l) (y : Value) (hy : Rd w y m) (hm : 0 < m.length) (hn : n + m.length ≤ 140737488355328) :
    ∃ v' w', (Builtin.append_ #[33, 33] ty #[.slice (some ad) n n, y]).run Try.prog w = .ok v' w' ∧ Own w' w.heap.size v' (l ++ m) ∧ Below w.heap.size w w' := by
  obtain ⟨i0, hi, hz0, hz1, hz2⟩ := info_parts infoB
  have hby : ∀ k, gb (l ++ m) k < 256 := gb_app l m hv.byte hy.byte
  have hlen : (l ++ m).length = n + m.length := by rw [List.length_append, hl]
  obtain ⟨yo, yc, rfl, hyc⟩ := hy.shape
  rcases hy.form with ⟨_, q⟩ | ⟨ya, yc', e, _, _⟩
  · subst q; simp at hm
  injection e with e1 _ _
  subst e1
  have hr := run_append_grow (P := Try.prog) (w := w) 33 ty 5 i0 (.int .u8 0) Try.underlying33 hi hz0 ad n n (row8 l) (by rw [hz1, row8_len, hl, Nat.mul_one]) hv.cells ya m.length yc (row8 m) (by rw [hz1, row8_len, Nat.mul_one]) hy.cells (by omega) (by omega) (growslice_fits (by omega) (by rw [hz2]; omega))
  have hge := grownCap_ge w (n + m.length) n 5
  have hcm : grownCap w (n + m.length) n 5 ≤ maxLen := grownCap_le_maxLen w (n + m.length) n 5 (by unfold maxLen; omega)
  refine ⟨_, _, hr, ⟨⟨?_, .inr ⟨w.heap.size, _, _, ?_, Nat.le_refl _, heap_alloc_new w.drew _, ?_, hcm, ?_, ?_⟩⟩, hby, by rw [hlen]; exact hn⟩, ⟨rfl, rfl, rfl, by simp, fun i hi => heap_alloc_old w.drew _ hi⟩⟩
  · rw [row8_len, Nat.mul_one]
  · rw [hlen]
  · rw [hlen]; exact hge
  · have e2 : (Value.int IntKind.u8 0).cells.size = 1 := rfl
    simp only [Array.size_append, List.size_toArray, size_zeroCells, row8_len, e2]
    omega
  · rw [hlen, Nat.mul_one, row8_app]
    simp only [Array.toList_append]
    have e1 : (row8 l ++ row8 m).length = n + m.length := by rw [List.length_append, row8_len, row8_len, hl]
    rw [← e1, List.take_left']
    rfl
theorem wpList_app_full {ops : Array Oper} {rest : List Oper} {o : Oper} {a : Act} {w : World} {Q : Exit → Act → World → Prop} (hgd : o.guard = none) (s x : Operand) (ho : o.op = .call { callee := .builtin .append, args := #[s, x], argTypes := #[33, 33] })
    (ad : Addr) (n : Nat) (y : Value) (l m : List Nat) (hl : l.length = n) (hs : a.eval s = .slice (some ad) n n) (hx : a.eval x = y) (hv : Rd w (.slice (some ad) n n) l) (hy : Rd w y m) (hm : 0 < m.length) (hn : n + m.length ≤ 140737488355328)
    (h : ∀ v' w', Own w' w.heap.size v' (l ++ m) → Below w.heap.size w w' → wpList Try.prog ops Q rest (a.put o.dst v') w') : wpList Try.prog ops Q (o :: rest) a w := by
  obtain ⟨v', w', hrun, h2, h3⟩ := run_app_full w o.type ad n l m hl hv y hy hm hn
  refine wpList_plain hgd fun _ hK => ?_
  unfold Oper.wp
  simp only [execOp, ho, resolve, invoke, builtin, Sem.run_bind, Sem.run_pure, Result.andThen_ok, List.map_toArray, List.map_cons, List.map_nil, hs, hx, hrun]
  exact hK _ _ (h v' w' h2 h3)
end Go.Proofs.Ytkagapgganoomaa

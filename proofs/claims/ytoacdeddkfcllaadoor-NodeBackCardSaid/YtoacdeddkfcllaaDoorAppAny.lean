/- append onto a slice without room, of whatever bytes, none too: what it reads. Work ahead for stage 15. Own work. -/
import Derived.Test.YtoacdeddkfcllaaDoorAppFull
import Derived.Deep.AppendSrc
namespace Go.Proofs.YtoacdeddkfcllaaDoor
open Go.RowKit
theorem run_app_any (w : World) (ty : TypeId) (ad : Addr) (n : Nat) (l m : List Nat) (hl : l.length = n) (hv : Rd w (.slice (some ad) n n) l) (y : Value) (hy : Rd w y m) (hn : n + m.length ≤ 140737488355328) :
    ∃ v' w', (Builtin.append_ #[29, 29] ty #[.slice (some ad) n n, y]).run Tryd.prog w = .ok v' w' ∧ Rd w' v' (l ++ m) ∧ Below w.heap.size w w' := by
  rcases Nat.eq_zero_or_pos m.length with h0 | h0
  · obtain rfl : m = [] := List.eq_nil_of_length_eq_zero h0
    obtain ⟨i0, hi, _, hz1, _⟩ := info_parts infoB
    have hs : Src Tryd.prog i0.size 29 y 0 [] w := by
      rcases hy.form with ⟨rfl, _⟩ | ⟨ya, yc, rfl, _, _⟩
      · exact Src.ofNil w Tryd.underlying29 _
      · exact Src.ofSlice w Tryd.underlying29 ya 0 yc [] (by simp) (fun j u h => by simp at h) (fun u h => by cases h)
    refine ⟨_, w, ?_, by rw [List.append_nil]; exact hv, Below.refl _ _⟩
    rcases hs.kind with ⟨e', hk⟩ | hk <;> simp [Builtin.append_, run_underlying Tryd.underlying29, sizeOf, typeInfo, hi, hs.len, hs.cells, storeCells]
  · obtain ⟨v', w', h1, h2, h3⟩ := run_app_full w ty ad n l m hl hv y hy h0 hn
    exact ⟨v', w', h1, h2.rd, h3⟩
theorem wpList_app_any {ops : Array Oper} {rest : List Oper} {o : Oper} {a : Act} {w : World} {Q : Exit → Act → World → Prop} (hgd : o.guard = none) (s x : Operand) (ho : o.op = .call { callee := .builtin .append, args := #[s, x], argTypes := #[29, 29] })
    (ad : Addr) (n : Nat) (y : Value) (l m : List Nat) (hl : l.length = n) (hs : a.eval s = .slice (some ad) n n) (hx : a.eval x = y) (hv : Rd w (.slice (some ad) n n) l) (hy : Rd w y m) (hn : n + m.length ≤ 140737488355328)
    (h : ∀ v' w', Rd w' v' (l ++ m) → Below w.heap.size w w' → wpList Tryd.prog ops Q rest (a.put o.dst v') w') : wpList Tryd.prog ops Q (o :: rest) a w := by
  obtain ⟨v', w', hrun, h2, h3⟩ := run_app_any w o.type ad n l m hl hv y hy hn
  refine wpList_plain hgd fun _ hK => ?_
  unfold Oper.wp
  simp only [execOp, ho, resolve, invoke, builtin, Sem.run_bind, Sem.run_pure, Result.andThen_ok, List.map_toArray, List.map_cons, List.map_nil, hs, hx, hrun]
  exact hK _ _ (h v' w' h2 h3)
end Go.Proofs.YtoacdeddkfcllaaDoor

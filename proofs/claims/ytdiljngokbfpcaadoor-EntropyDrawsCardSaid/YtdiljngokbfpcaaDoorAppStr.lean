/- append of a text's bytes onto a slice of the call's own. Own work over the library's law. -/
import Derived.Test.YtdiljngokbfpcaaDoorMem
import Derived.Lib.AppendStr
namespace Go.Proofs.YtdiljngokbfpcaaDoor
open Go.RowKit
theorem wpList_app_text {ops : Array Oper} {rest : List Oper} {o : Oper} {a : Act} {w : World} {Q : Exit → Act → World → Prop} (hgd : o.guard = none) (s x : Operand) (ho : o.op = .call { callee := .builtin .append, args := #[s, x], argTypes := #[22, 9] })
    (base : Nat) (v : Value) (l : List Nat) (t : ByteArray) (hs : a.eval s = v) (hx : a.eval x = .string t) (hv : Own w base v l) (hn : l.length + t.size ≤ 140737488355328) (hb : base ≤ w.heap.size)
    (h : ∀ v' w', Own w' base v' (l ++ sb t) → w.grownBy w' v.ownBlock → wpList Tryd.prog ops Q rest (a.put o.dst v') w') : wpList Tryd.prog ops Q (o :: rest) a w := by
  obtain ⟨i0, hi, hz0, hz1, hz2⟩ := info_parts infoB
  refine Lib.wpList_append_own_string w hgd s x 22 9 ho base 5 i0 Tryd.underlying22 Tryd.underlying9 hi hz0 hz1 hz2 v l.length (row8 l) hs hv.1 t hx (by unfold maxLen; omega) hn hb fun v' w' h2 h3 _ => h v' w' ⟨?_, gb_app _ _ hv.2.1 (sb_byte t), by rw [List.length_append, sb_len]; exact hn⟩ h3
  rw [List.length_append, sb_len, row8_app]
  rw [show row8 (sb t) = Lib.strCells t by unfold row8 sb Lib.strCells; rw [List.map_map]; rfl]
  exact h2
end Go.Proofs.YtdiljngokbfpcaaDoor

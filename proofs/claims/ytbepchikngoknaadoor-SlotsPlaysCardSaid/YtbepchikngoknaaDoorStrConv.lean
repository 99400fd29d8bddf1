/- '[]byte(s)' of a string that is no constant: a slice that reads as the string's bytes, in a block of its own. Own work over the library's law. -/
import Derived.Test.YtbepchikngoknaaDoorMem
import Derived.Lib.ConvBytes
import Derived.Lib.AtoiErrMem
import Derived.BigQuiet
namespace Go.Proofs.YtbepchikngoknaaDoor
open Go.RowKit
theorem run_str_rd (w : World) (s : ByteArray) (hs : s.size ≤ 140737488355328) : ∃ cap w', (convert 9 31 (.string s)).run Tryd.prog w = .ok (.slice (some ⟨w.heap.size, 0, none⟩) s.size cap) w' ∧ Rd w' (.slice (some ⟨w.heap.size, 0, none⟩) s.size cap) (sb s) ∧ Below w.heap.size w w' ∧ w.heap.size < w'.heap.size := by
  refine ⟨_, _, Lib.run_convert_string_bytes (P := Tryd.prog) w 9 31 5 s Tryd.underlying9 Tryd.underlying31 Tryd.underlying5, ⟨sb_byte s, by rw [sb_len]; exact hs, .inr ⟨_, _, by rw [sb_len], ?_, fun j hj => ?_⟩⟩, Lib.bytesWorld_below _ _ _, by rw [Lib.bytesWorld_size]; omega⟩
  · rw [sb_len]
    exact grownCap_ge w s.size 0 _
  · rw [sb_len] at hj
    rw [Addr.add_lit, Nat.zero_add, Lib.bytesWorld_cell _ _ _ _ hj]
    congr 2
    unfold gb sb
    rw [List.getD_eq_getElem?_getD, List.getD_eq_getElem?_getD, List.getElem?_map]
    cases s.data.toList[j]? <;> simp
theorem wpList_conv_str {ops : Array Oper} {rest : List Oper} {o : Oper} {a : Act} {w : World} {Q : Exit → Act → World → Prop} (hgd : o.guard = none) (x : Operand) (ho : o.op = .convert 9 31 x) (s : ByteArray) (hx : a.eval x = .string s) (hs : s.size ≤ 140737488355328)
    (h : ∀ b cap w', b = w.heap.size → Rd w' (.slice (some ⟨b, 0, none⟩) s.size cap) (sb s) → Below w.heap.size w w' → b < w'.heap.size → wpList Tryd.prog ops Q rest (a.put o.dst (.slice (some ⟨b, 0, none⟩) s.size cap)) w') : wpList Tryd.prog ops Q (o :: rest) a w :=
  wpList_plain hgd fun _ hK => by
    obtain ⟨cap, w', h1, h2, h3, h4⟩ := run_str_rd w s hs
    unfold Oper.wp
    simp only [execOp, ho, Sem.run_bind, Sem.run_pure, Result.andThen_ok, hx, h1]
    exact hK _ _ (h _ cap w' rfl h2 h3 h4)
end Go.Proofs.YtbepchikngoknaaDoor

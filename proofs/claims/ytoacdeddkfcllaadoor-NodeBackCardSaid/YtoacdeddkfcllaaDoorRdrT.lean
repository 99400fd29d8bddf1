/- A reader of bytes that are there: what its calls tell; a row out of a slice. Cut off RtPRdA in round 16. Own work. -/
import Derived.Test.YtoacdeddkfcllaaDoorMem
import Derived.Test.YtoacdeddkfcllaaDoorRdrX
import Derived.Test.YtoacdeddkfcllaaDoorSlZ
import Derived.Test.YtoacdeddkfcllaaDoorEqX
namespace Go.Proofs.YtoacdeddkfcllaaDoor
open Go.ChangeShapes Go.WideShapes Go.ChangeAt Go.RowKit
theorem rp_ok {l : List Nat} {n : Nat} (h : n ≤ l.length) : rpGot l 0 (n : Int) = l.take n ∧ rpLeft l 0 (n : Int) = l.drop n ∧ rpErr l 0 (n : Int) = 0 := by
  have e : lookP (n : Int) l.length = 0 := by unfold lookP; rw [if_neg (by omega), if_neg (by omega)]
  unfold rpGot rpLeft rpErr
  rw [if_pos ⟨rfl, e⟩, if_pos ⟨rfl, e⟩, if_pos rfl, e]
  simp
section
variable {N : Nat → Prop} {w : World} {rb : Nat} {l : List Nat}
theorem u32_rd (h : Rdr N w rb l 0) (hl : 4 ≤ l.length) : Calls Tryd.prog 26 #[.pointer (some ⟨rb, 0, none⟩)] w fun ev w' => ev = .returned (.int .u32 (num (l.take 4) : Nat)) ∧ Rdr N w' rb (l.drop 4) 0 ∧ w.grownBy w' (some rb) := by
  have hp := u32_any w rb l 0 h
  obtain ⟨a, b, c⟩ := rp_ok (n := 4) hl
  rw [show ((4 : Nat) : Int) = 4 from rfl] at a b c
  rw [a, b, c] at hp
  exact hp
theorem take_rd (h : Rdr N w rb l 0) (n : Nat) (hn : n ≤ l.length) (m : Int) (hm : m = (n : Int)) : Calls Tryd.prog 27 #[.pointer (some ⟨rb, 0, none⟩), .int .i64 m] w fun ev w' => ∃ v, ev = .returned v ∧ Own w' w.heap.size v (l.take n) ∧ Rdr N w' rb (l.drop n) 0 ∧ w.grownBy w' (some rb) := by
  subst hm
  have hp := take_any w rb l 0 (n : Int) h
  obtain ⟨a, b, c⟩ := rp_ok hn
  rw [a, b, c] at hp
  exact hp
end
theorem only_past {a b c : World} {r : Nat} {row : Option Nat} (h : a.grownBy b (some r)) (k : b.grownBy c row) (hr : ∀ g, row = some g → a.heap.size ≤ g) : a.grownBy c (some r) :=
  ⟨k.os.trans h.os, k.tape.trans h.tape, k.output.trans h.output, Nat.le_trans h.size k.size, fun i hi hne => (k.block i (Nat.lt_of_lt_of_le hi h.size) (fun q => by have := hr i q.symm; omega)).trans (h.block i hi hne)⟩
theorem Rdr.past {N : Nat → Prop} {w w' : World} {rb : Nat} {l : List Nat} (h : Rdr N w rb l 0) {row : Option Nat} (g : w.grownBy w' row) (hb : row ≠ some rb) (hN : ∀ g, N g → row ≠ some g) : Rdr N w' rb l 0 := by
  obtain ⟨sv, h1, h2, h3⟩ := h
  exact ⟨sv, h1.grown g (fun e => hb e.symm), h2.grown g (by
    cases e : sv.ownBlock with
    | none => exact .inl rfl
    | some q => exact .inr (fun x => hN q (h3.2 q e) x.symm)), h3⟩
theorem wpList_s2aR {P : Program} {ops : Array Oper} {rest : List Oper} {o : Oper} {a : Act} {w : World} {Q : Exit → Act → World → Prop} (hgd : o.guard = none) {ty : TypeId} {x : Operand} (ho : o.op = .sliceToArrayPointer ty x) {m : Nat} {e : TypeId} (hu : P.underlying ty = some (.array m e)) {p : Option Addr} {n c : Nat} (hx : a.eval x = .slice p n c) (hn : m ≤ n)
    (h : wpList P ops Q rest (a.put o.dst (.pointer p)) w) : wpList P ops Q (o :: rest) a w := by
  refine wpList_plain hgd fun _ hK => ?_
  have hq : ¬ n < m := by omega
  have e : (execOp a.eval o).run P w = .ok (.value (.pointer p)) w := by
    unfold execOp
    rw [ho]
    simp only [hx]
    simp [Instr.arrayAt, run_underlying hu, hq, go_sem]
  unfold Oper.wp
  rw [e]
  exact hK _ _ h
theorem own_range {w : World} {base b n cap : Nat} {l : List Nat} (h : Own w base (.slice (some ⟨b, 0, none⟩) n cap) l) : w.rangeAt b 0 (row8 l) := fun j v hv => by
  have hj : j < l.length := by
    rcases Nat.lt_or_ge j l.length with h | h
    · exact h
    · rw [List.getElem?_eq_none (by rw [row8_len]; exact h)] at hv; cases hv
  have hl : n = l.length := by obtain ⟨_, _, e, _⟩ := h.rd.shape; injection e
  have hc := h.cell hl j hj
  rw [row8_val l j hj] at hv
  rw [Nat.zero_add, ← hv]; exact hc
end Go.Proofs.YtoacdeddkfcllaaDoor

/- Texts of one subject in one file: FillOne, FillTo, FillMany, MakeG. Own work. -/
import Derived.Test.YtkagapgganoomaaMem
import Derived.Test.YtkagapgganoomaaReg
import Derived.OwnWalk
/- A row of cells filled by one part. Own work. -/
namespace Go.Proofs.Ytkagapgganoomaa
open Go.ChangeShapes Go.WideShapes Go.ChangeAt Go.RowKit
theorem splice_cons (vs : List Value) (o : Nat) (u : Value) (r : List Value) (h : o + (r.length + 1) ≤ vs.length) : splice vs o (u :: r) = splice (vs.set o u) (o + 1) r := by
  have e := list_seg_step vs o u r h
  unfold splice
  rw [← List.append_assoc, ← List.append_assoc]
  exact e.symm
theorem fold_set : ∀ (L : List Value) (k : Nat) (A : List Value), k + L.length ≤ A.length → ((L.zipIdx k).foldl (fun cs (p : Value × Nat) => cs.setIfInBounds (0 + p.2) p.1) A.toArray).toList = A.take k ++ L ++ A.drop (k + L.length)
  | [], k, A, _ => by simp
  | x :: L, k, A, h => by
    simp only [List.length_cons] at h
    have e := fold_set L (k + 1) (A.set k x) (by rw [List.length_set]; omega)
    rw [List.zipIdx_cons, List.foldl_cons]
    have e2 : (A.toArray.setIfInBounds (0 + k) x) = (A.set k x).toArray := by simp
    show (List.foldl _ (A.toArray.setIfInBounds (0 + k) x) _).toList = _
    rw [e2, e]
    have h3 := splice_cons A k x L (by omega)
    unfold splice at h3
    rw [List.append_assoc, ← h3, List.append_assoc]
theorem fill_one (place : Nat → Option (Nat × Nat)) (n : Nat) (hp : place 0 = some (0, n)) (Z : List Value) (hZ : Z.length = n) (L : List Value) (hL : L.length = n) : Instr.fill place Z.toArray [(0, .agg L.toArray)] = some L.toArray := by
  unfold Instr.fill
  rw [hp]
  have hc : (Value.agg L.toArray).cells = L.toArray := rfl
  simp only [hc]
  rw [if_neg (by simp; omega)]
  unfold Instr.fill
  congr 1
  apply Array.ext'
  have e := fold_set L 0 Z (by omega)
  rw [List.take_zero, List.nil_append, List.drop_eq_nil_of_le (by omega), List.append_nil] at e
  rw [← Array.foldl_toList, Array.toList_zipIdx]
  exact e
end Go.Proofs.Ytkagapgganoomaa
/- A block made in a region that draws; numbers laid one by one. Own work. -/
namespace Go.Proofs.Ytkagapgganoomaa
open Go.ChangeShapes Go.WideShapes Go.ChangeAt Go.RowKit
theorem alloc_turn {a w w' : World} {o : Obj} (h : Below a.heap.size a w) (hg : (w.alloc o).grownBy w' (some w.heap.size)) : Below a.heap.size a w' :=
  (h.alloc h.size o).grown hg (by have := h.size; simp; omega) (fun k hk => by have e : w.heap.size = k := Option.some.inj hk; have := h.size; omega)
/-- A block of the region's own. -/
def Pred.blk {B : Nat} (t : TypeId) (vs : List Value) : Pred B := ⟨fun v w => ∃ c, v = .pointer (some ⟨c, 0, none⟩) ∧ B ≤ c ∧ Blk w c t vs, false,
  fun h hb => by obtain ⟨c, e, hB, hc⟩ := h; exact ⟨c, e, hB, hc.below hb hc.lt⟩,
  fun h hg _ hne => by
    obtain ⟨c, e, hB, hc⟩ := h
    refine ⟨c, e, hB, hc.grown hg fun q => ?_⟩
    rcases hne with q2 | q2
    · cases q2
    · apply q2; rw [e]; exact q⟩
theorem doesG_alloc {B : Nat} {ops : List Oper} {Q : Exit → Act → World → Prop} {T : List (Pred B)} {U : Nat → Nat} {i : Nat} {o : Oper} {a : Act} {w : World} (hw : Region.wanted o (yielded ops.toArray a.tmps) = true) (t : TypeId) (D : List Value) (ho : o.op = .alloc t) (hz : ∀ w, (zeroValue t).run Try.prog w = .ok (.agg D.toArray) w) (hB : B ≤ w.heap.size) (hT : T.getD i (.val undef) = .blk t D) : DoesG Try.prog ops Q T U i o a w := by
  refine doesG_new hw fun K hK => ?_
  have hf : (T.getD i (.val undef)).holds (.pointer (some ⟨w.heap.size, 0, none⟩)) (w.alloc (.cells D.toArray t)) := by
    rw [hT]; exact ⟨_, rfl, hB, Blk.new w t D _ rfl⟩
  unfold Oper.wp execOp
  rw [ho]
  go_simp
  refine hK _ _ hf ((Below.refl _ _).alloc (Nat.le_refl _) _) (fun g hg => ?_)
  have : w.heap.size = g := Option.some.inj hg
  simp; omega
/-- The first n of m numbers, as f tells them; noughts behind them. -/
def fillTo (f : Nat → Nat) (m n : Nat) : List Nat := (List.range m).map fun j => if j < n then f j else 0
theorem fillTo_len (f : Nat → Nat) (m n : Nat) : (fillTo f m n).length = m := by simp [fillTo]
theorem fillTo_get (f : Nat → Nat) (m n k : Nat) (h : k < m) : gb (fillTo f m n) k = if k < n then f k else 0 := by
  unfold fillTo; rw [gb_map, if_pos h]
theorem fillTo_zero (f : Nat → Nat) (m : Nat) : fillTo f m 0 = List.replicate m 0 :=
  bytes_ext (n := m) (fillTo_len _ _ _) List.length_replicate fun k hk => by
    rw [fillTo_get _ _ _ _ hk, if_neg (by omega)]
    unfold gb
    rw [List.getD_eq_getElem?_getD, List.getElem?_replicate, if_pos hk]
    rfl
theorem fillTo_all (f : Nat → Nat) (m : Nat) : fillTo f m m = (List.range m).map f := by
  unfold fillTo
  apply List.map_congr_left
  intro j hj
  rw [if_pos (by simpa using hj)]
theorem fillTo_step (f : Nat → Nat) (m k : Nat) (hk : k < m) : (fillTo f m k).set k (f k) = fillTo f m (k + 1) :=
  bytes_ext (n := m) (by rw [List.length_set, fillTo_len]) (fillTo_len _ _ _) fun j hj => by
    rw [gb_set _ _ _ _ (by rw [fillTo_len]; exact hk), fillTo_get _ _ _ _ hj, fillTo_get _ _ _ _ hj]
    by_cases e : k = j
    · subst e; rw [if_pos rfl, if_pos (by omega)]
    · rw [if_neg e]
      by_cases h : j < k
      · rw [if_pos h, if_pos (by omega)]
      · rw [if_neg h, if_neg (by omega)]
theorem fillTo_bytes (f : Nat → Nat) (m n : Nat) (h : ∀ k, k < m → f k < 256) : Bytes m (fillTo f m n) := by
  refine ⟨fillTo_len _ _ _, fun k => ?_⟩
  by_cases hk : k < m
  · rw [fillTo_get _ _ _ _ hk]; split
    · exact h k hk
    · omega
  · unfold gb
    rw [List.getD_eq_getElem?_getD, List.getElem?_eq_none (by rw [fillTo_len]; omega)]
    show 0 < 256; omega
end Go.Proofs.Ytkagapgganoomaa
/- A row of cells filled by many parts. Own work. -/
namespace Go.Proofs.Ytkagapgganoomaa
open Go.ChangeShapes Go.WideShapes Go.ChangeAt Go.RowKit
theorem fold_offM (off : Nat) : ∀ (L : List Value) (k : Nat) (A : List Value), off + k + L.length ≤ A.length → ((L.zipIdx k).foldl (fun cs (p : Value × Nat) => cs.setIfInBounds (off + p.2) p.1) A.toArray).toList = A.take (off + k) ++ L ++ A.drop (off + k + L.length)
  | [], k, A, _ => by simp
  | x :: L, k, A, h => by
    simp only [List.length_cons] at h
    have e := fold_offM off L (k + 1) (A.set (off + k) x) (by rw [List.length_set]; omega)
    rw [List.zipIdx_cons, List.foldl_cons]
    have e2 : (A.toArray.setIfInBounds (off + k) x) = (A.set (off + k) x).toArray := by simp
    show (List.foldl _ (A.toArray.setIfInBounds (off + k) x) _).toList = _
    rw [e2, e]
    have h3 := splice_cons A (off + k) x L (by omega)
    unfold splice at h3
    rw [List.append_assoc, List.append_assoc, ← Nat.add_assoc, h3]
/-- One part further. -/
theorem fill_step (place : Nat → Option (Nat × Nat)) (i o n : Nat) (hp : place i = some (o, n)) (x : Value) (L : List Value) (hc : x.cells = L.toArray) (hL : L.length = n) (Z : List Value) (hZ : o + n ≤ Z.length) (rest : List (Nat × Value)) : Instr.fill place Z.toArray ((i, x) :: rest) = Instr.fill place (splice Z o L).toArray rest := by
  have e := fold_offM o L 0 Z (by omega)
  rw [Nat.add_zero] at e
  conv => lhs; unfold Instr.fill
  rw [hp]
  simp only [hc]
  rw [if_neg (by simp; omega)]
  congr 1
  apply Array.ext'
  rw [← Array.foldl_toList, Array.toList_zipIdx]
  show _ = splice Z o L
  rw [show L.toArray.toList = L from rfl, e]
  unfold splice
  rw [List.append_assoc]
theorem fill_nil (place : Nat → Option (Nat × Nat)) (Z : Array Value) : Instr.fill place Z [] = some Z := by unfold Instr.fill; rfl
end Go.Proofs.Ytkagapgganoomaa
/- 'make([]byte, n)' in a region that draws, and strings told apart. Own work. -/
namespace Go.Proofs.Ytkagapgganoomaa
open Go.ChangeShapes Go.WideShapes Go.ChangeAt Go.RowKit
theorem noughts8 (n : Nat) : row8 (List.replicate n 0) = List.replicate n (.int .u8 0) := by unfold row8; rw [List.map_replicate]; rfl
theorem run_make_bytes (w : World) (B : Nat) (hB : B ≤ w.heap.size) (n : Nat) (hn : n ≤ 140737488355328) : ∃ w', (Instr.makeSlice 33 (.int .i64 (n : Int)) (.int .i64 (n : Int))).run Try.prog w = .ok (.slice (some ⟨w.heap.size, 0, none⟩) n n) w' ∧ Own w' B (.slice (some ⟨w.heap.size, 0, none⟩) n n) (List.replicate n 0) ∧ Below w.heap.size w w' := by
  obtain ⟨i0, hi, hz0, hz1, hz2⟩ := info_parts infoB
  obtain ⟨w', hr, ho, hg⟩ := run_make_full (P := Try.prog) w B 33 5 i0 (.int .u8 0) 1 Try.underlying33 hi hz0 hz1 .i64 .i64 n (by rw [hz2]; omega) (by unfold maxLen; omega) hB
  refine ⟨w', hr, ?_, below_of_grown hg⟩
  rw [Nat.mul_one] at ho
  have e : (madeCells (Value.int .u8 0).cells n).toList = row8 (List.replicate n 0) := by rw [noughts8, ← toList_madeCells_one]; rfl
  rw [e] at ho
  exact ⟨by rw [List.length_replicate]; exact ho, (bytes_zero n).2, by rw [List.length_replicate]; exact hn⟩
theorem doesG_make {B : Nat} {ops : List Oper} {Q : Exit → Act → World → Prop} {T : List (Pred B)} {U : Nat → Nat} {i : Nat} {o : Oper} {a : Act} {w : World} (hw : Region.wanted o (yielded ops.toArray a.tmps) = true) (n : Nat) (hn : n ≤ 140737488355328) (ho : o.op = .makeSlice 33 (.const (.int .i64 (n : Int))) (.const (.int .i64 (n : Int)))) (hB : B ≤ w.heap.size)
    (hf : ∀ v' w', Own w' B v' (List.replicate n 0) → (T.getD i (.val undef)).holds v' w') : DoesG Try.prog ops Q T U i o a w := by
  refine doesG_new hw fun K hK => ?_
  obtain ⟨w', hr, hown, hb⟩ := run_make_bytes w B hB n hn
  unfold Oper.wp execOp
  rw [ho]
  simp only [Act.eval, Sem.run_bind, hr, Result.andThen_ok, Sem.run_pure, Oper.upon_value]
  refine hK _ _ (hf _ _ hown) hb fun g hg => ?_
  have e : w.heap.size = g := Option.some.inj hg
  exact ⟨by omega, (hown.from g (by rw [← e]; rfl)).2⟩
theorem run_neq_str (s t : ByteArray) (w : World) : (binOp .neq 9 (.string s) (.string t)).run Try.prog w = .ok (.bool (!decide (s = t))) w := by
  by_cases h : s = t
  · subst h; go_simp
  · go_simp; intro e; rw [ByteArray.toList_eq, ByteArray.toList_eq] at e; exact h (by cases s; cases t; congr 1; exact Array.toList_inj.1 e)
end Go.Proofs.Ytkagapgganoomaa

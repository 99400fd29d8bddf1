/- Slices of arrays of sixteen bytes: what a call makes of its own, a slice of one, append. Own work. -/
import Derived.Test.YtmidbmihadhgdaaDoorAesProg
import Derived.Test.YtmidbmihadhgdaaDoorInfo16
import Derived.Test.YtmidbmihadhgdaaDoorReg
import Derived.Great.BuildSlice
namespace Go.Proofs.YtmidbmihadhgdaaDoor
open Go.ChangeShapes Go.WideShapes Go.ChangeAt Go.RowKit
/-- The call's own slice of n rows of sixteen bytes, of blocks from B on: l, one behind the other. -/
def Rows16 (w : World) (B : Nat) (v : Value) (n : Nat) (l : List Nat) : Prop := w.ownsRow B 35 16 v n (row8 l)
theorem rows_nil (w : World) (B : Nat) : Rows16 w B (.slice none 0 0) 0 [] := ⟨rfl, .inl ⟨rfl, rfl⟩⟩
theorem Rows16.len {w : World} {B : Nat} {v : Value} {n : Nat} {l : List Nat} (h : Rows16 w B v n l) : l.length = 16 * n := by
  have := h.1
  rw [row8_len] at this
  omega
theorem Rows16.keep {w w' : World} {B : Nat} {v : Value} {n : Nat} {l : List Nat} (h : Rows16 w B v n l) {row : Option Nat} (hg : w.grownBy w' row) (hne : v.ownBlock = none ∨ v.ownBlock ≠ row) : Rows16 w' B v n l := World.ownsRow.kept h hg hne
theorem Rows16.below {w w' : World} {B : Nat} {v : Value} {n : Nat} {l : List Nat} (h : Rows16 w B v n l) (hb : Below w.heap.size w w') : Rows16 w' B v n l := h.keep (grown_of_below hb none) (own_none v)
theorem Rows16.from {w : World} {B : Nat} {v : Value} {n : Nat} {l : List Nat} (h : Rows16 w B v n l) : ∀ g, v.ownBlock = some g → B ≤ g ∧ g < w.heap.size := World.ownsRow.lt h
theorem Rows16.shape {w : World} {B : Nat} {v : Value} {n : Nat} {l : List Nat} (h : Rows16 w B v n l) : ∃ ao cap, v = .slice ao n cap ∧ n ≤ cap := by
  rcases h.2 with ⟨e, q⟩ | ⟨g, cap, cur, e, _, _, hc, _⟩
  · exact ⟨none, 0, by rw [e, q], by omega⟩
  · exact ⟨_, cap, e, hc⟩
theorem Rows16.at_ {w : World} {B : Nat} {v : Value} {n : Nat} {l : List Nat} (h : Rows16 w B v n l) (hn : 0 < n) : ∃ g cap, v = .slice (some ⟨g, 0, none⟩) n cap ∧ n ≤ cap ∧ B ≤ g ∧ g < w.heap.size ∧ ∀ j u, (row8 l)[j]? = some u → w.cell? ⟨g, j, none⟩ = some u := by
  have hlen := h.1
  have hf := h.from
  rcases h.2 with ⟨_, q⟩ | ⟨g, cap, cur, e, hB, hh, hc, _, _, ht⟩
  · omega
  · refine ⟨g, cap, e, hc, hB, (hf g (by rw [e]; rfl)).2, fun j u hu => ?_⟩
    rw [cell_of_row w g j cur _ _ hh]
    rw [← ht, List.getElem?_take] at hu
    split at hu
    · simpa using hu
    · cases hu
theorem info16B : (Tryd.prog.info? 35).map (fun i => (i.zero, i.size, i.bytes)) = some (some (.agg (row8 (List.replicate 16 0)).toArray), 16, 16) := by kernel_rfl
/-- append of one row onto a slice of the call's own. -/
theorem run_rows_app (w : World) (ty : TypeId) (B : Nat) (v : Value) (n : Nat) (l M : List Nat) (g : Nat) (ho : Rows16 w B v n l) (hM : M.length = 16) (hg : Blk w g 35 (row8 M)) (hn : n ≤ 1000000) (hB : B ≤ w.heap.size) :
    ∃ v' w', (Builtin.append_ #[72, 72] ty #[v, .slice (some ⟨g, 0, none⟩) 1 1]).run Tryd.prog w = .ok v' w' ∧ Rows16 w' B v' (n + 1) (l ++ M) ∧ w.grownBy w' v.ownBlock ∧ (v'.ownBlock = v.ownBlock ∨ v'.ownBlock = some w.heap.size) := by
  obtain ⟨i0, hi, hz0, hz1, hz2⟩ := info_parts info16B
  obtain ⟨v', w', hrun, h2, h3, _, h5⟩ := run_append_own_at (P := Tryd.prog) w B 72 ty 35 i0 _ 16 16 Tryd.underlying72 hi hz0 hz1 hz2 (by show (row8 (List.replicate 16 0)).toArray.size = 16; rw [List.size_toArray, row8_len, List.length_replicate]) (by decide) v n (row8 l) ho ⟨g, 0, none⟩ 1 1 (row8 M) (by rw [row8_len, hM])
    (fun j u hu => by rw [Addr.add_mid, Nat.zero_add]; exact hg.cell j u hu) (row8_one' M) (by unfold maxLen; omega) (by omega) hB
  exact ⟨v', w', hrun, by unfold Rows16; rw [row8_app]; exact h2, h3, h5⟩
theorem wp_rows_app {o : Oper} {a : Act} {w : World} {K : Act → World → Prop} {Q : Exit → Act → World → Prop} (s x : Operand) (ho : o.op = .call { callee := .builtin .append, args := #[s, x], argTypes := #[72, 72] })
    (B : Nat) (v : Value) (n : Nat) (l M : List Nat) (g : Nat) (hs : a.eval s = v) (hx : a.eval x = .slice (some ⟨g, 0, none⟩) 1 1) (hv : Rows16 w B v n l) (hM : M.length = 16) (hg : Blk w g 35 (row8 M)) (hn : n ≤ 1000000) (hB : B ≤ w.heap.size)
    (h : ∀ v' w', Rows16 w' B v' (n + 1) (l ++ M) → w.grownBy w' v.ownBlock → (v'.ownBlock = v.ownBlock ∨ v'.ownBlock = some w.heap.size) → K (a.put o.dst v') w') : o.wp Tryd.prog a w K Q := by
  obtain ⟨v', w', hrun, h2, h3, h4⟩ := run_rows_app w o.type B v n l M g hv hM hg hn hB
  unfold Oper.wp
  simp only [execOp, ho, resolve, invoke, builtin, Sem.run_bind, Sem.run_pure, Result.andThen_ok, List.map_toArray, List.map_cons, List.map_nil, hs, hx, hrun]
  exact h v' w' h2 h3 h4
theorem wpList_rows_app {ops : Array Oper} {rest : List Oper} {o : Oper} {a : Act} {w : World} {Q : Exit → Act → World → Prop} (hgd : o.guard = none) (s x : Operand) (ho : o.op = .call { callee := .builtin .append, args := #[s, x], argTypes := #[72, 72] })
    (B : Nat) (v : Value) (n : Nat) (l M : List Nat) (g : Nat) (hs : a.eval s = v) (hx : a.eval x = .slice (some ⟨g, 0, none⟩) 1 1) (hv : Rows16 w B v n l) (hM : M.length = 16) (hg : Blk w g 35 (row8 M)) (hn : n ≤ 1000000) (hB : B ≤ w.heap.size)
    (h : ∀ v' w', Rows16 w' B v' (n + 1) (l ++ M) → w.grownBy w' v.ownBlock → (v'.ownBlock = v.ownBlock ∨ v'.ownBlock = some w.heap.size) → wpList Tryd.prog ops Q rest (a.put o.dst v') w') : wpList Tryd.prog ops Q (o :: rest) a w :=
  wpList_plain hgd fun _ hK => wp_rows_app s x ho B v n l M g hs hx hv hM hg hn hB fun v' w' h2 h3 h4 => hK _ _ (h v' w' h2 h3 h4)
/-- A slice of one row, of the region's own. -/
def Pred.one16 {B : Nat} (M : List Nat) : Pred B := ⟨fun v w => ∃ g, v = .slice (some ⟨g, 0, none⟩) 1 1 ∧ B ≤ g ∧ Blk w g 35 (row8 M), false,
  fun h hb => by obtain ⟨c, e, hB, hc⟩ := h; exact ⟨c, e, hB, hc.below hb hc.lt⟩,
  fun h hg _ hne => by
    obtain ⟨c, e, hB, hc⟩ := h
    refine ⟨c, e, hB, hc.grown hg fun q => ?_⟩
    rcases hne with q2 | q2
    · cases q2
    · apply q2; rw [e]; exact q⟩
theorem run_one16 (w : World) (M : List Nat) (hM : M.length = 16) : (Instr.buildSlice 72 1 #[(0, .agg (row8 M).toArray)]).run Tryd.prog w = .ok (.slice (some ⟨w.heap.size, 0, none⟩) 1 1) (w.alloc (.cells (row8 M).toArray 35)) := by
  obtain ⟨i0, hi, hz0, hz1, _⟩ := info_parts info16B
  refine run_buildSlice w 72 35 1 _ _ i0 _ Tryd.underlying72 hi hz0 (by rw [hz1]; decide) (by rw [hz1]; decide) ?_
  rw [hz1]
  obtain ⟨Z, hZ⟩ : ∃ Z, Z = (Array.range (1 * 16)).map ((Value.agg (row8 (List.replicate 16 0)).toArray).cells[· % (Value.agg (row8 (List.replicate 16 0)).toArray).cells.size]!) := ⟨_, rfl⟩
  rw [← hZ, show Z = Z.toList.toArray from (Array.toArray_toList).symm]
  exact fill_one _ 16 rfl Z.toList (by rw [hZ]; simp) (row8 M) (by rw [row8_len, hM])
theorem doesG_one16 {B : Nat} {ops : List Oper} {Q : Exit → Act → World → Prop} {T : List (Pred B)} {U : Nat → Nat} {i : Nat} {o : Oper} {a : Act} {w : World} (hw : Region.wanted o (yielded ops.toArray a.tmps) = true) (k : Nat) (M : List Nat) (hM : M.length = 16) (ho : o.op = .buildSlice 72 1 #[(0, .tmp k)]) (hk : a.eval (.tmp k) = .agg (row8 M).toArray) (hB : B ≤ w.heap.size) (hT : T.getD i (.val undef) = .one16 M) : DoesG Tryd.prog ops Q T U i o a w := by
  refine doesG_new hw fun K hK => ?_
  have hf : (T.getD i (.val undef)).holds (.slice (some ⟨w.heap.size, 0, none⟩) 1 1) (w.alloc (.cells (row8 M).toArray 35)) := by
    rw [hT]; exact ⟨_, rfl, hB, Blk.new w 35 (row8 M) _ rfl⟩
  unfold Oper.wp execOp
  rw [ho]
  simp only [List.map_toArray, List.map_cons, List.map_nil, hk, Sem.run_bind, run_one16 w M hM, Result.andThen_ok, Sem.run_pure, Oper.upon_value]
  refine hK _ _ hf ((Below.refl _ _).alloc (Nat.le_refl _) _) (fun g hg => ?_)
  have : w.heap.size = g := Option.some.inj hg
  simp; omega
end Go.Proofs.YtmidbmihadhgdaaDoor

/- A block made in a region that draws; numbers laid one by one. Own work. -/
import Derived.Test.YtflegnlldidmaaaDoorReg
import Derived.Test.YtflegnlldidmaaaDoorMem
namespace Go.Proofs.YtflegnlldidmaaaDoor
open Go.ChangeShapes Go.WideShapes Go.ChangeAt Go.RowKit
theorem alloc_turn {a w w' : World} {o : Obj} (h : Below a.heap.size a w) (hg : (w.alloc o).grownBy w' (some w.heap.size)) : Below a.heap.size a w' :=
  (h.alloc h.size o).grown hg (by have := h.size; simp; omega) (fun k hk => by have e : w.heap.size = k := Option.some.inj hk; have := h.size; omega)
/-- A block of the region's own. -/
def Pred.blk {B : Nat} (t : TypeId) (vs : List Value) : Pred B := ⟨fun v w => ∃ c, v = .pointer (some ⟨c, 0, none⟩) ∧ B ≤ c ∧ Blk w c t vs, false,
  fun h hb => by obtain ⟨c, e, hB, hc⟩ := h; exact ⟨c, e, hB, hc.below hb hc.lt⟩,
  fun h hg _ hne => by
    obtain ⟨c, e, hB, hc⟩ := h
    refine ⟨c, e, hB, hc.grown hg fun q => ?_⟩
    rcases hne with q2 | q2
    · cases q2
    · apply q2; rw [e]; exact q⟩
theorem doesG_alloc {B : Nat} {ops : List Oper} {Q : Exit → Act → World → Prop} {T : List (Pred B)} {U : Nat → Nat} {i : Nat} {o : Oper} {a : Act} {w : World} (hw : Region.wanted o (yielded ops.toArray a.tmps) = true) (t : TypeId) (D : List Value) (ho : o.op = .alloc t) (hz : ∀ w, (zeroValue t).run Tryd.prog w = .ok (.agg D.toArray) w) (hB : B ≤ w.heap.size) (hT : T.getD i (.val undef) = .blk t D) : DoesG Tryd.prog ops Q T U i o a w := by
  refine doesG_new hw fun K hK => ?_
  have hf : (T.getD i (.val undef)).holds (.pointer (some ⟨w.heap.size, 0, none⟩)) (w.alloc (.cells D.toArray t)) := by
    rw [hT]; exact ⟨_, rfl, hB, Blk.new w t D _ rfl⟩
  unfold Oper.wp execOp
  rw [ho]
  go_simp
  refine hK _ _ hf ((Below.refl _ _).alloc (Nat.le_refl _) _) (fun g hg => ?_)
  have : w.heap.size = g := Option.some.inj hg
  simp; omega
/-- The first n of m numbers, as f tells them; noughts behind them. -/
def fillTo (f : Nat → Nat) (m n : Nat) : List Nat := (List.range m).map fun j => if j < n then f j else 0
theorem fillTo_len (f : Nat → Nat) (m n : Nat) : (fillTo f m n).length = m := by simp [fillTo]
theorem fillTo_get (f : Nat → Nat) (m n k : Nat) (h : k < m) : gb (fillTo f m n) k = if k < n then f k else 0 := by
  unfold fillTo; rw [gb_map, if_pos h]
theorem fillTo_zero (f : Nat → Nat) (m : Nat) : fillTo f m 0 = List.replicate m 0 :=
  bytes_ext (n := m) (fillTo_len _ _ _) List.length_replicate fun k hk => by
    rw [fillTo_get _ _ _ _ hk, if_neg (by omega)]
    unfold gb
    rw [List.getD_eq_getElem?_getD, List.getElem?_replicate, if_pos hk]
    rfl
theorem fillTo_all (f : Nat → Nat) (m : Nat) : fillTo f m m = (List.range m).map f := by
  unfold fillTo
  apply List.map_congr_left
  intro j hj
  rw [if_pos (by simpa using hj)]
theorem fillTo_step (f : Nat → Nat) (m k : Nat) (hk : k < m) : (fillTo f m k).set k (f k) = fillTo f m (k + 1) :=
  bytes_ext (n := m) (by rw [List.length_set, fillTo_len]) (fillTo_len _ _ _) fun j hj => by
    rw [gb_set _ _ _ _ (by rw [fillTo_len]; exact hk), fillTo_get _ _ _ _ hj, fillTo_get _ _ _ _ hj]
    by_cases e : k = j
    · subst e; rw [if_pos rfl, if_pos (by omega)]
    · rw [if_neg e]
      by_cases h : j < k
      · rw [if_pos h, if_pos (by omega)]
      · rw [if_neg h, if_neg (by omega)]
theorem fillTo_bytes (f : Nat → Nat) (m n : Nat) (h : ∀ k, k < m → f k < 256) : Bytes m (fillTo f m n) := by
  refine ⟨fillTo_len _ _ _, fun k => ?_⟩
  by_cases hk : k < m
  · rw [fillTo_get _ _ _ _ hk]; split
    · exact h k hk
    · omega
  · unfold gb
    rw [List.getD_eq_getElem?_getD, List.getElem?_eq_none (by rw [fillTo_len]; omega)]
    show 0 < 256; omega
end Go.Proofs.YtflegnlldidmaaaDoor

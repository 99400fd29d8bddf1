/- Slices of uint32 in memory, as slices of bytes are in Mem (made out of those texts by program). Own work. -/
import Derived.Test.YtlckhlcccifbfaaDoorMem
namespace Go.Proofs.YtlckhlcccifbfaaDoor
open Go.ChangeShapes Go.WideShapes Go.ChangeAt Go.RowKit
def row32 (l : List Nat) : List Value := l.map fun n : Nat => Value.int .u32 (n : Int)
theorem row32_len (l : List Nat) : (row32 l).length = l.length := by unfold row32; simp
theorem row32_at (l : List Nat) (k : Nat) : (row32 l).toArray[k]? = (l[k]?).map (fun n : Nat => Value.int .u32 (n : Int)) := by unfold row32; simp
theorem row32_get (l : List Nat) (k : Nat) (h : k < l.length) : (row32 l).toArray[k]? = some (.int .u32 ((gb l k : Nat) : Int)) := by
  rw [row32_at]; unfold gb; rw [List.getD_eq_getElem?_getD, List.getElem?_eq_getElem h]; rfl
theorem row32_set (l : List Nat) (k v : Nat) : (row32 l).set k (.int .u32 (v : Int)) = row32 (l.set k v) := by
  unfold row32; simp
theorem row32_val (l : List Nat) (k : Nat) (h : k < l.length) : (row32 l)[k]? = some (.int .u32 ((gb l k : Nat) : Int)) := by
  have := row32_get l k h
  simpa using this
theorem row32_one' (l : List Nat) : ∀ u ∈ row32 l, u.oneCell' = true := by
  intro u hu
  unfold row32 at hu
  obtain ⟨n, _, rfl⟩ := List.mem_map.1 hu
  rfl
theorem row32_app (l m : List Nat) : row32 (l ++ m) = row32 l ++ row32 m := by unfold row32; rw [List.map_append]
theorem gb_appW (l m : List Nat) (hl : ∀ k, gb l k < 4294967296) (hm : ∀ k, gb m k < 4294967296) (k : Nat) : gb (l ++ m) k < 4294967296 := by
  unfold gb
  rw [List.getD_eq_getElem?_getD, List.getElem?_append]
  by_cases h : k < l.length
  · rw [if_pos h]; have := hl k; unfold gb at this; rwa [List.getD_eq_getElem?_getD] at this
  · rw [if_neg h]; have := hm (k - l.length); unfold gb at this; rwa [List.getD_eq_getElem?_getD] at this
/-- The slice v holds the bytes l. -/
structure Wd (w : World) (v : Value) (l : List Nat) : Prop where
  word : ∀ k, gb l k < 4294967296
  fits : l.length ≤ 35184372088832
  form : (v = .slice none 0 0 ∧ l = []) ∨ ∃ ad cap, v = .slice (some ad) l.length cap ∧ l.length ≤ cap ∧ ∀ j, j < l.length → w.cell? (ad.add j) = some (.int .u32 ((gb l j : Nat) : Int))
theorem Wd.shape {w : World} {v : Value} {l : List Nat} (h : Wd w v l) : ∃ ao cap, v = .slice ao l.length cap ∧ l.length ≤ cap := by
  rcases h.form with ⟨e, q⟩ | ⟨ad, cap, e, hc, _⟩
  · subst q; exact ⟨none, 0, e, Nat.le_refl _⟩
  · exact ⟨some ad, cap, e, hc⟩
theorem Wd.keep {w w' : World} {v : Value} {l : List Nat} (h : Wd w v l) (hk : ∀ g, v.ownBlock = some g → g < w.heap.size → w'.heap[g]? = w.heap[g]?) : Wd w' v l := by
  refine ⟨h.word, h.fits, ?_⟩
  rcases h.form with q | ⟨ad, cap, e, hc, hs⟩
  · exact .inl q
  · refine .inr ⟨ad, cap, e, hc, fun j hj => ?_⟩
    have h1 := hs j hj
    have hlt := World.block_lt_of_cell? w _ h1
    rw [add_block] at hlt
    rw [World.cell?_of_block (w := w) (by rw [add_block]; exact hk ad.block (by rw [e]; rfl) hlt)]; exact h1
theorem Wd.below {w w' : World} {v : Value} {l : List Nat} (h : Wd w v l) (hb : Below w.heap.size w w') : Wd w' v l := h.keep fun g _ hg => hb.block g hg
theorem Wd.grown {w w' : World} {v : Value} {l : List Nat} (h : Wd w v l) {row : Option Nat} (hb : w.grownBy w' row) (hne : v.ownBlock = none ∨ v.ownBlock ≠ row) : Wd w' v l := h.keep fun g hg hlt => hb.block g hlt (by
  rcases hne with q | q
  · rw [q] at hg; cases hg
  · rw [← hg]; exact q)
theorem Wd.drew {w : World} {v : Value} {l : List Nat} (h : Wd w v l) : Wd w.drew v l := h.keep fun _ _ _ => rfl
theorem Wd.drewN {w : World} {v : Value} {l : List Nat} (h : Wd w v l) (n : Nat) : Wd (w.drewN n) v l := h.keep fun _ _ _ => rfl
theorem Wd.alloc {w : World} {v : Value} {l : List Nat} (h : Wd w v l) (o : Obj) : Wd (w.alloc o) v l := h.keep fun g _ hg => Below.heap_alloc w o g hg
theorem Wd.setCell {w : World} {v : Value} {l : List Nat} (h : Wd w v l) (p : Addr) (u : Value) (hne : v.ownBlock ≠ some p.block) : Wd (w.setCell p u) v l :=
  h.keep fun g hg _ => Below.heap_setCell w p u g (fun e => hne (by rw [hg, e]))
theorem Wd.none_ (w : World) : Wd w (.slice none 0 0) [] := ⟨fun k => by rw [gb_nil]; omega, by simp, .inl ⟨rfl, rfl⟩⟩
/-- The call's own slice: v, of blocks from base on, holds the bytes l. -/
def OwnW (w : World) (base : Nat) (v : Value) (l : List Nat) : Prop := w.ownsRow base 31 1 v l.length (row32 l) ∧ (∀ k, gb l k < 4294967296) ∧ l.length ≤ 35184372088832
theorem OwnW.rd {w : World} {base : Nat} {v : Value} {l : List Nat} (h : OwnW w base v l) : Wd w v l := by
  obtain ⟨ho, hb, hl⟩ := h
  refine ⟨hb, hl, ?_⟩
  rcases ho.2 with ⟨e, q⟩ | ⟨g, cap, cur, e, _, hh, hc, _, _, ht⟩
  · exact .inl ⟨e, List.eq_nil_of_length_eq_zero q⟩
  · refine .inr ⟨_, cap, e, hc, fun j hj => ?_⟩
    rw [Addr.add_lit, Nat.zero_add, cell_of_row w g j cur _ _ hh]
    have h1 := row32_val l j hj
    rw [← ht, List.getElem?_take, if_pos (by omega)] at h1
    simpa using h1
theorem OwnW.from {w : World} {base : Nat} {v : Value} {l : List Nat} (h : OwnW w base v l) : ∀ g, v.ownBlock = some g → base ≤ g ∧ g < w.heap.size := h.1.lt
theorem OwnW.keep {w w' : World} {base : Nat} {v : Value} {l : List Nat} (h : OwnW w base v l) {row : Option Nat} (hg : w.grownBy w' row) (hne : v.ownBlock = none ∨ v.ownBlock ≠ row) : OwnW w' base v l := ⟨h.1.kept hg hne, h.2⟩
theorem OwnW.below {w w' : World} {base : Nat} {v : Value} {l : List Nat} (h : OwnW w base v l) (hb : Below w.heap.size w w') : OwnW w' base v l := h.keep (grown_of_below hb none) (own_none v)
theorem OwnW.drew {w : World} {base : Nat} {v : Value} {l : List Nat} (h : OwnW w base v l) : OwnW w.drew base v l := ⟨h.1.drew, h.2⟩
theorem OwnW.alloc {w : World} {base : Nat} {v : Value} {l : List Nat} (h : OwnW w base v l) (o : Obj) : OwnW (w.alloc o) base v l := ⟨h.1.alloc o, h.2⟩
theorem OwnW.lower {w : World} {base b' : Nat} {v : Value} {l : List Nat} (h : OwnW w base v l) (hb : b' ≤ base) : OwnW w b' v l := by
  refine ⟨⟨h.1.1, ?_⟩, h.2⟩
  rcases h.1.2 with q | ⟨g, cap, cur, e, hg, r⟩
  · exact .inl q
  · exact .inr ⟨g, cap, cur, e, Nat.le_trans hb hg, r⟩
theorem infoW : (Tryd.prog.info? 31).map (fun i => (i.zero, i.size, i.bytes)) = some (some (.int .u32 0), 1, 4) := by kernel_rfl
/-- append of whatever bytes onto a slice of the call's own. -/
theorem run_appW (w : World) (ty : TypeId) (base : Nat) (v y : Value) (l m : List Nat) (ho : OwnW w base v l) (hr : Wd w y m) (hn : l.length + m.length ≤ 35184372088832) (hb : base ≤ w.heap.size) :
    ∃ v' w', (Builtin.append_ #[26, 26] ty #[v, y]).run Tryd.prog w = .ok v' w' ∧ OwnW w' base v' (l ++ m) ∧ w.grownBy w' v.ownBlock ∧ (v'.ownBlock = v.ownBlock ∨ v'.ownBlock = some w.heap.size) := by
  obtain ⟨i0, hi, hz0, hz1, hz2⟩ := info_parts infoW
  have hby : ∀ k, gb (l ++ m) k < 4294967296 := gb_appW l m ho.2.1 hr.word
  rcases hr.form with ⟨rfl, rfl⟩ | ⟨ad, cap, rfl, _, hs⟩
  · exact ⟨v, w, run_append_owned_none (P := Tryd.prog) (w := w) base 26 ty 31 i0 1 Tryd.underlying26 hi v _ _ ho.1, by rw [List.append_nil]; exact ho, World.grownBy.refl w _, .inl rfl⟩
  · obtain ⟨v', w', hrun, h2, h3, _, h5⟩ := run_append_own_at (P := Tryd.prog) w base 26 ty 31 i0 (.int .u32 0) 1 4 Tryd.underlying26 hi hz0 hz1 hz2 rfl (by decide) v l.length (row32 l) ho.1 ad m.length cap (row32 m) (by rw [row32_len, Nat.mul_one])
      (fun j u hu => by
        by_cases hj : j < m.length
        · rw [row32_val m j hj] at hu; rw [hs j hj, ← hu]
        · rw [List.getElem?_eq_none (by rw [row32_len]; omega)] at hu; cases hu) (row32_one' m) (by unfold maxLen; omega) (by omega) hb
    exact ⟨v', w', hrun, ⟨by rw [List.length_append, row32_app]; exact h2, hby, by rw [List.length_append]; exact hn⟩, h3, h5⟩
theorem wp_appW {o : Oper} {a : Act} {w : World} {K : Act → World → Prop} {Q : Exit → Act → World → Prop} (s x : Operand) (ho : o.op = .call { callee := .builtin .append, args := #[s, x], argTypes := #[26, 26] })
    (base : Nat) (v y : Value) (l m : List Nat) (hs : a.eval s = v) (hx : a.eval x = y) (hv : OwnW w base v l) (hy : Wd w y m) (hn : l.length + m.length ≤ 35184372088832) (hb : base ≤ w.heap.size)
    (h : ∀ v' w', OwnW w' base v' (l ++ m) → w.grownBy w' v.ownBlock → (v'.ownBlock = v.ownBlock ∨ v'.ownBlock = some w.heap.size) → K (a.put o.dst v') w') : o.wp Tryd.prog a w K Q := by
  obtain ⟨v', w', hrun, h2, h3, h4⟩ := run_appW w o.type base v y l m hv hy hn hb
  unfold Oper.wp
  simp only [execOp, ho, resolve, invoke, builtin, Sem.run_bind, Sem.run_pure, Result.andThen_ok, List.map_toArray, List.map_cons, List.map_nil, hs, hx, hrun]
  exact h v' w' h2 h3 h4
theorem wpList_appW {ops : Array Oper} {rest : List Oper} {o : Oper} {a : Act} {w : World} {Q : Exit → Act → World → Prop} (hgd : o.guard = none) (s x : Operand) (ho : o.op = .call { callee := .builtin .append, args := #[s, x], argTypes := #[26, 26] })
    (base : Nat) (v y : Value) (l m : List Nat) (hs : a.eval s = v) (hx : a.eval x = y) (hv : OwnW w base v l) (hy : Wd w y m) (hn : l.length + m.length ≤ 35184372088832) (hb : base ≤ w.heap.size)
    (h : ∀ v' w', OwnW w' base v' (l ++ m) → w.grownBy w' v.ownBlock → (v'.ownBlock = v.ownBlock ∨ v'.ownBlock = some w.heap.size) → wpList Tryd.prog ops Q rest (a.put o.dst v') w') : wpList Tryd.prog ops Q (o :: rest) a w :=
  wpList_plain hgd fun _ hK => wp_appW s x ho base v y l m hs hx hv hy hn hb fun v' w' h2 h3 h4 => hK _ _ (h v' w' h2 h3 h4)
theorem step_appW {ops : Array Oper} {o : Oper} {a : Act} {w : World} {K : Act → World → Prop} {Q : Exit → Act → World → Prop} {E : Prop} (hgd : o.guard = none) (s x : Operand) (ho : o.op = .call { callee := .builtin .append, args := #[s, x], argTypes := #[26, 26] })
    (base : Nat) (v y : Value) (l m : List Nat) (hs : a.eval s = v) (hx : a.eval x = y) (hv : OwnW w base v l) (hy : Wd w y m) (hn : l.length + m.length ≤ 35184372088832) (hb : base ≤ w.heap.size)
    (h : ∀ v' w', OwnW w' base v' (l ++ m) → w.grownBy w' v.ownBlock → (v'.ownBlock = v.ownBlock ∨ v'.ownBlock = some w.heap.size) → K (a.put o.dst v') w') : if Region.wanted o (yielded ops a.tmps) = true then Oper.wp Tryd.prog o a w K Q else E := by
  rw [if_pos (by simp [Region.wanted, hgd])]
  exact wp_appW s x ho base v y l m hs hx hv hy hn hb h
theorem own_newW (w : World) (l : List Nat) (hl : ∀ k, gb l k < 4294967296) (hf : l.length ≤ 35184372088832) {b : Nat} (hb : b = w.heap.size) {base : Nat} (h0 : base ≤ w.heap.size) :
    OwnW (w.alloc (.cells (row32 l).toArray 31)) base (.slice (some ⟨b, 0, none⟩) l.length l.length) l := by
  subst hb
  refine ⟨⟨by rw [row32_len, Nat.mul_one], .inr ⟨_, _, _, rfl, h0, heap_alloc_new w _, Nat.le_refl _, by unfold maxLen; omega, ?_, ?_⟩⟩, hl, hf⟩
  · simp [row32_len]
  · simp [← row32_len l]
theorem own_emptyW (w : World) {b : Nat} (hb : b = w.heap.size) {base : Nat} (h0 : base ≤ w.heap.size) : OwnW (w.alloc (.cells #[] 31)) base (.slice (some ⟨b, 0, none⟩) 0 0) [] :=
  own_newW w [] (fun k => by rw [gb_nil]; omega) (by simp) hb h0
theorem OwnW.set {w : World} {base g cap : Nat} {l : List Nat} (h : OwnW w base (.slice (some ⟨g, 0, none⟩) l.length cap) l) (j x : Nat) (hx : x < 4294967296) (hj : j < l.length) : OwnW (w.setCell ⟨g, j, none⟩ (.int .u32 (x : Int))) base (.slice (some ⟨g, 0, none⟩) l.length cap) (l.set j x) := by
  refine ⟨?_, fun i => by
    rw [gb_set l j x i hj]
    split
    · exact hx
    · exact h.2.1 i, by rw [List.length_set]; exact h.2.2⟩
  rw [← row32_set, List.length_set]
  exact (h.1.stored j _).1
theorem OwnW.cell {w : World} {base g cap n : Nat} {l : List Nat} (h : OwnW w base (.slice (some ⟨g, 0, none⟩) n cap) l) (hl : n = l.length) (j : Nat) (hj : j < l.length) : w.cell? ⟨g, j, none⟩ = some (.int .u32 ((gb l j : Nat) : Int)) := by
  subst hl
  rw [h.1.cellAt j (by omega)]; exact row32_val l j hj
theorem OwnW.free {w : World} {base g cap n : Nat} {l : List Nat} (h : OwnW w base (.slice (some ⟨g, 0, none⟩) n cap) l) (hl : n = l.length) (j : Nat) : w.frozen? ⟨g, j, none⟩ = false := by
  subst hl; exact h.1.frozenAt j
theorem own_nilW (w : World) : OwnW w w.heap.size (.slice none 0 0) [] := ⟨World.ownsRow_nil w _ _ _, fun k => by rw [gb_nil]; omega, by simp⟩
theorem gb_take_word (l : List Nat) (k : Nat) (h : ∀ j, gb l j < 4294967296) (j : Nat) : gb (l.take k) j < 4294967296 := by
  by_cases hj : j < k
  · rw [gb_take l k j hj]; exact h j
  · unfold gb; rw [List.getD_eq_getElem?_getD, List.getElem?_take, if_neg hj]; show 0 < 4294967296; omega
/-- The first k bytes of a slice. -/
theorem Wd.take {w : World} {ao : Option Addr} {n cap : Nat} {l : List Nat} (h : Wd w (.slice ao n cap) l) (k : Nat) (hk : k ≤ l.length) : Wd w (.slice ao k cap) (l.take k) := by
  have e1 : (l.take k).length = k := by rw [List.length_take]; omega
  refine ⟨gb_take_word l k h.word, by rw [e1]; have := h.fits; omega, ?_⟩
  rcases h.form with ⟨e, q⟩ | ⟨ad, cap', e, hc, hs⟩
  · subst q
    injection e with e2 e3 e4
    subst e2; subst e4
    obtain rfl : k = 0 := by simpa using hk
    exact .inl ⟨rfl, rfl⟩
  · injection e with e2 e3 e4
    subst e2; subst e4
    refine .inr ⟨ad, cap, by rw [e1], by rw [e1]; omega, fun j hj => ?_⟩
    rw [gb_take l k j (by omega)]
    exact hs j (by omega)
/-- What stands behind the first k bytes. -/
theorem Wd.drop {w : World} {ao : Option Addr} {n cap : Nat} {l : List Nat} (h : Wd w (.slice ao n cap) l) (k : Nat) (hk : k ≤ l.length) : Wd w (.slice (if cap = k then ao else ao.map (·.add k)) (l.length - k) (cap - k)) (l.drop k) := by
  have e1 : (l.drop k).length = l.length - k := List.length_drop
  refine ⟨fun j => by rw [gb_drop]; exact h.word _, by rw [e1]; have := h.fits; omega, ?_⟩
  rcases h.form with ⟨e, q⟩ | ⟨ad, cap', e, hc, hs⟩
  · subst q
    injection e with e2 e3 e4
    subst e2; subst e4
    obtain rfl : k = 0 := by simpa using hk
    exact .inl ⟨by simp, rfl⟩
  · injection e with e2 e3 e4
    subst e2; subst e4
    by_cases hq : cap = k
    · refine .inr ⟨ad, cap - k, by rw [if_pos hq, e1], by rw [e1]; omega, fun j hj => absurd hj (by omega)⟩
    · refine .inr ⟨ad.add k, cap - k, by rw [if_neg hq, e1]; rfl, by rw [e1]; omega, fun j hj => ?_⟩
      rw [add_of_add, gb_drop]
      exact hs (k + j) (by omega)
theorem Wd.at_ {w : World} {ao : Option Addr} {n cap : Nat} {l : List Nat} (h : Wd w (.slice ao n cap) l) (j : Nat) (hj : j < l.length) : ∃ ad, ao = some ad ∧ w.cell? (ad.add j) = some (.int .u32 ((gb l j : Nat) : Int)) := by
  rcases h.form with ⟨_, q⟩ | ⟨ad, cap', e, _, hs⟩
  · subst q; simp at hj
  · injection e with e2 e3 e4
    exact ⟨ad, e2, hs j hj⟩
theorem own_blkW {w : World} {base g n : Nat} {l : List Nat} (h : w.ownsRow base 31 1 (.slice (some ⟨g, 0, none⟩) n n) n (row32 l)) : Blk w g 31 (row32 l) := by
  rcases h.2 with ⟨e, _⟩ | ⟨g', cap, cur, e, _, hh, _, _, hs, ht⟩
  · cases e
  · injection e with e1 e2 e3
    injection e1 with e1
    injection e1 with e1
    subst e1; subst e3
    unfold Blk
    rw [hh, ← ht]
    congr 2
    apply Array.toList_inj.1
    exact (List.take_of_length_le (by rw [Array.length_toList, hs]; exact Nat.le_refl _)).symm
theorem blk_ownW {w : World} {base g : Nat} {l : List Nat} (h : Blk w g 31 (row32 l)) (hb : base ≤ g) (hl : ∀ k, gb l k < 4294967296) (hf : l.length ≤ 35184372088832) : OwnW w base (.slice (some ⟨g, 0, none⟩) l.length l.length) l := by
  refine ⟨⟨by rw [row32_len, Nat.mul_one], .inr ⟨g, _, _, rfl, hb, h, Nat.le_refl _, by unfold maxLen; omega, ?_, ?_⟩⟩, hl, hf⟩
  · simp [row32_len]
  · simp [← row32_len l]
end Go.Proofs.YtlckhlcccifbfaaDoor

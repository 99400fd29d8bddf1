/- Cells copied and stored into the middle of a block that is known whole. Own work. -/
import Derived.Test.YtllhljhbnopafaaDoorRdCut
import Derived.Laws.CopyOwn
namespace Go.Proofs.YtllhljhbnopafaaDoor
open Go.RowKit
theorem setCells_mid (b : Nat) (t : TypeId) : ∀ (us : List Value) (o : Nat) (w : World) (vs : List Value), Blk w b t vs → o + us.length ≤ vs.length → Blk (w.setCells b o us) b t (splice vs o us)
  | [], o, w, vs, h, _ => by
    simpa [World.setCells, splice] using h
  | u :: r, o, w, vs, h, hl => by
    have := setCells_mid b t r (o + 1) (w.setCell ⟨b, o, none⟩ u) (vs.set o u) (h.set o u) (by simp at hl ⊢; omega)
    have e := list_seg_step vs o u r (by simp at hl ⊢; omega)
    have e2 : splice (vs.set o u) (o + 1) r = splice vs o (u :: r) := by
      unfold splice
      rw [← List.append_assoc, ← List.append_assoc]
      exact e
    rw [e2] at this
    exact this
theorem only_setRow {a w : World} {g : Nat} (h : a.grownBy w (some g)) (cs : Array Value) : a.grownBy (w.setRow g cs) (some g) := by
  refine ⟨h.os, h.tape, h.output, by simpa [World.setRow] using h.size, fun i hi hne => ?_⟩
  rw [setRow_other w g i cs (fun e => hne (by rw [e]))]
  exact h.block i hi hne
theorem only_setCells {a : World} (b : Nat) : ∀ (vs : List Value) (o : Nat) (w : World), a.grownBy w (some b) → a.grownBy (w.setCells b o vs) (some b)
  | [], _, _, h => h
  | v :: r, o, _, h => only_setCells b r (o + 1) _ (only_set h (.inl rfl) v)
theorem there_part {w : World} {b : Nat} {t : TypeId} {vs : List Value} (h : Blk w b t vs) (o n : Nat) (hn : o + n ≤ vs.length) : w.there b o n := fun j hj => by
  refine ⟨?_, h.free _⟩
  have e : vs[o + j]? = some (vs[o + j]'(by omega)) := List.getElem?_eq_getElem (by omega)
  rw [h.cell (o + j) _ e]; rfl
theorem range_part {w : World} {b : Nat} {t : TypeId} {vs : List Value} (h : Blk w b t vs) (o : Nat) (cs : List Value) (hc : ∀ j v, cs[j]? = some v → vs[o + j]? = some v) : w.rangeAt b o cs := fun j v hv => h.cell (o + j) v (hc j v hv)
/-- copy(dst, src): dst lies at place off of block g. -/
theorem run_copy_blk {w : World} (dT sT ty : TypeId) (hu : Tryd.prog.underlying dT = some (.slice 5)) (g off dLen dCap : Nat) (t : TypeId) (cur : List Value) (hg : Blk w g t cur) (dp : Option Addr) (y : Value) (m : List Nat) (hy : Rd w y m) (k : Nat) (hk : k = min m.length dLen)
    (hdp : 0 < k → dp = some ⟨g, off, none⟩) (hfit : off + k ≤ cur.length) :
    ∃ w', (Builtin.copy_ #[dT, sT] ty #[.slice dp dLen dCap, y]).run Tryd.prog w = .ok (.int .i64 (k : Int)) w' ∧ Blk w' g t (splice cur off (row8 (m.take k))) ∧ w.grownBy w' (some g) := by
  obtain ⟨ao, cap, rfl, _⟩ := hy.shape
  have hlen : (row8 (m.take k)).length = k := by rw [row8_len, List.length_take]; omega
  by_cases h0 : k = 0
  · subst h0
    refine ⟨w, ?_, by simpa [splice, row8] using hg, World.grownBy.refl w _⟩
    exact run_copy_none (P := Tryd.prog) w dT sT ty 5 dp ao dLen dCap m.length cap hu infoSize hk.symm
  · obtain rfl := hdp (by omega)
    obtain ⟨ad, rfl, _⟩ := hy.at_ 0 (by omega)
    have hsrc : ∀ j v, (row8 (m.take k))[j]? = some v → w.cell? (ad.add j) = some v := fun j v hv => by
      by_cases hj : j < k
      · rw [row8_val _ j (by rw [List.length_take]; omega), gb_take _ _ _ hj] at hv
        obtain ⟨ad', e, hc⟩ := hy.at_ j (by omega)
        cases e
        rw [hc, ← hv]
      · rw [List.getElem?_eq_none (by rw [hlen]; omega)] at hv; cases hv
    have hrun := run_copy_row (P := Tryd.prog) w dT sT ty 5 g off dLen dCap ad m.length cap cur.toArray t (row8 (m.take k)) hu infoSize hg (by rw [hlen]; exact hk) hsrc (by rw [hlen]; simpa using hfit) (row8_one' _)
    rw [hlen] at hrun
    refine ⟨_, hrun, ?_, only_setRow (World.grownBy.refl w _) _⟩
    have := setRow_heap w g cur.toArray ((cur.toArray.toList.take off ++ row8 (m.take k) ++ cur.toArray.toList.drop (off + k)).toArray) t (0, 0) hg
    unfold Blk splice
    rw [this, hlen, List.append_assoc]
theorem wp_copy_blk {o : Oper} {a : Act} {w : World} {K : Act → World → Prop} {Q : Exit → Act → World → Prop} (d s : Operand) (dT sT : TypeId) (ho : o.op = .call { callee := .builtin .copy, args := #[d, s], argTypes := #[dT, sT] }) (hu : Tryd.prog.underlying dT = some (.slice 5))
    (g off dLen dCap : Nat) (t : TypeId) (cur : List Value) (hg : Blk w g t cur) (dp : Option Addr) (hd : a.eval d = .slice dp dLen dCap) (y : Value) (hs : a.eval s = y) (m : List Nat) (hy : Rd w y m) (k : Nat) (hk : k = min m.length dLen)
    (hdp : 0 < k → dp = some ⟨g, off, none⟩) (hfit : off + k ≤ cur.length)
    (h : ∀ w', Blk w' g t (splice cur off (row8 (m.take k))) → w.grownBy w' (some g) → K (a.put o.dst (.int .i64 (k : Int))) w') : o.wp Tryd.prog a w K Q := by
  obtain ⟨w', hrun, h2, h3⟩ := run_copy_blk dT sT o.type hu g off dLen dCap t cur hg dp y m hy k hk hdp hfit
  unfold Oper.wp
  simp only [execOp, ho, resolve, invoke, builtin, Sem.run_bind, Sem.run_pure, Result.andThen_ok, List.map_toArray, List.map_cons, List.map_nil, hd, hs, hrun]
  exact h w' h2 h3
theorem wpList_copy_blk {ops : Array Oper} {rest : List Oper} {o : Oper} {a : Act} {w : World} {Q : Exit → Act → World → Prop} (hgd : o.guard = none) (d s : Operand) (dT sT : TypeId) (ho : o.op = .call { callee := .builtin .copy, args := #[d, s], argTypes := #[dT, sT] }) (hu : Tryd.prog.underlying dT = some (.slice 5))
    (g off dLen dCap : Nat) (t : TypeId) (cur : List Value) (hg : Blk w g t cur) (dp : Option Addr) (hd : a.eval d = .slice dp dLen dCap) (y : Value) (hs : a.eval s = y) (m : List Nat) (hy : Rd w y m) (k : Nat) (hk : k = min m.length dLen)
    (hdp : 0 < k → dp = some ⟨g, off, none⟩) (hfit : off + k ≤ cur.length)
    (h : ∀ w', Blk w' g t (splice cur off (row8 (m.take k))) → w.grownBy w' (some g) → wpList Tryd.prog ops Q rest (a.put o.dst (.int .i64 (k : Int))) w') : wpList Tryd.prog ops Q (o :: rest) a w :=
  wpList_plain hgd fun _ hK => wp_copy_blk d s dT sT ho hu g off dLen dCap t cur hg dp hd y hs m hy k hk hdp hfit fun w' h2 h3 => hK _ _ (h w' h2 h3)
theorem splice_all {α : Type} (L cs : List α) (h : cs.length = L.length) : splice L 0 cs = cs := by
  unfold splice
  rw [List.take_zero, List.drop_eq_nil_of_le (by omega)]; simp
/-- Cells by value are stored into a block that is known whole: the world behind it has a name of its own. -/
theorem wpList_store_blk {ops : Array Oper} {rest : List Oper} {op : Oper} {a : Act} {w : World} {Q : Exit → Act → World → Prop} (hgd : op.guard = none) (ty : TypeId) (x y : Operand) (ho : op.op = .store ty x y)
    (b o : Nat) (cs : List Value) (hx : a.eval x = .pointer (some ⟨b, o, none⟩)) (hy : a.eval y = .agg cs.toArray)
    (t : TypeId) (cur : List Value) (hg : Blk w b t cur) (hfit : o + cs.length ≤ cur.length) (hi : (Tryd.prog.info? ty).map (·.size) = some cs.length) (h1 : cs.toArray.all (·.oneCell') = true)
    (h : ∀ w', Blk w' b t (splice cur o cs) → w.grownBy w' (some b) → wpList Tryd.prog ops Q rest (a.put op.dst undef) w') : wpList Tryd.prog ops Q (op :: rest) a w :=
  wpList_store_mid hgd ty x y ho b o cs.toArray hx hy (there_part hg o _ (by simpa using hfit)) (by simpa using hi) h1 (h _ (setCells_mid b t cs o w cur hg hfit) (only_setCells b cs o w (World.grownBy.refl w _)))
end Go.Proofs.YtllhljhbnopafaaDoor

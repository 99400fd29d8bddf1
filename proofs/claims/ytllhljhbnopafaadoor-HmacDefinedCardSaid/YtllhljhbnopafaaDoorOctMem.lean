/- Slices of bytes in memory: what reads as a list of numbers, what the call owns, what append makes of them. Own work. -/
import Derived.Test.YtllhljhbnopafaaDoorRow8
import Derived.WalkKit
import Derived.WalkSpells
import Derived.Laws.BytesArg
import Derived.Laws.AppendOwnNone
import Derived.Deep.AppendLies
import Derived.Deep.AppendSrc
import Derived.Maps.AppendAt
namespace Go.Proofs.YtllhljhbnopafaaDoor
open Go.RowKit

theorem add_block (a : Addr) (n : Nat) : (a.add n).block = a.block := by unfold Addr.add; split <;> rfl
/-- The slice v holds the bytes l. -/
structure Rd (w : World) (v : Value) (l : List Nat) : Prop where
  byte : ∀ k, gb l k < 256
  fits : l.length ≤ 140737488351232
  form : (v = .slice none 0 0 ∧ l = []) ∨ ∃ ad cap, v = .slice (some ad) l.length cap ∧ l.length ≤ cap ∧ ∀ j, j < l.length → w.cell? (ad.add j) = some (.int .u8 ((gb l j : Nat) : Int))

theorem Rd.shape {w : World} {v : Value} {l : List Nat} (h : Rd w v l) : ∃ ao cap, v = .slice ao l.length cap ∧ l.length ≤ cap := by
  rcases h.form with ⟨e, q⟩ | ⟨ad, cap, e, hc, _⟩
  · subst q; exact ⟨none, 0, e, Nat.le_refl _⟩
  · exact ⟨some ad, cap, e, hc⟩
theorem Rd.keep {w w' : World} {v : Value} {l : List Nat} (h : Rd w v l) (hk : ∀ g, v.ownBlock = some g → g < w.heap.size → w'.heap[g]? = w.heap[g]?) : Rd w' v l := by
  refine ⟨h.byte, h.fits, ?_⟩
  rcases h.form with q | ⟨ad, cap, e, hc, hs⟩
  · exact .inl q
  · refine .inr ⟨ad, cap, e, hc, fun j hj => ?_⟩
    have h1 := hs j hj
    have hlt := World.block_lt_of_cell? w _ h1
    rw [add_block] at hlt
    rw [World.cell?_of_block (w := w) (by rw [add_block]; exact hk ad.block (by rw [e]; rfl) hlt)]; exact h1
theorem Rd.below {w w' : World} {v : Value} {l : List Nat} (h : Rd w v l) (hb : Below w.heap.size w w') : Rd w' v l := h.keep fun g _ hg => hb.block g hg
theorem Rd.later {w w' : World} {v : Value} {l : List Nat} (h : Rd w v l) {B : Nat} (hB : B = w.heap.size) (hb : Below B w w') : Rd w' v l := h.below (hB ▸ hb)
theorem Rd.grown {w w' : World} {v : Value} {l : List Nat} (h : Rd w v l) {row : Option Nat} (hb : w.grownBy w' row) (hne : v.ownBlock = none ∨ v.ownBlock ≠ row) : Rd w' v l := h.keep fun g hg hlt => hb.block g hlt (by
  rcases hne with q | q
  · rw [q] at hg; cases hg
  · rw [← hg]; exact q)
theorem Rd.drew {w : World} {v : Value} {l : List Nat} (h : Rd w v l) : Rd w.drew v l := h.keep fun _ _ _ => rfl
theorem Rd.alloc {w : World} {v : Value} {l : List Nat} (h : Rd w v l) (o : Obj) : Rd (w.alloc o) v l := h.keep fun g _ hg => Below.heap_alloc w o g hg
theorem Rd.setCell {w : World} {v : Value} {l : List Nat} (h : Rd w v l) (p : Addr) (u : Value) (hne : v.ownBlock ≠ some p.block) : Rd (w.setCell p u) v l :=
  h.keep fun g hg _ => Below.heap_setCell w p u g (fun e => hne (by rw [hg, e]))
theorem gb_nil (k : Nat) : gb [] k = 0 := rfl
theorem Rd.none_ (w : World) : Rd w (.slice none 0 0) [] := ⟨fun k => by rw [gb_nil]; omega, by simp, .inl ⟨rfl, rfl⟩⟩

/-- The string of these bytes. -/
def bstr (l : List Nat) : ByteArray := strOfNums (l.map fun n : Nat => (n : Int))
theorem bstr_size (l : List Nat) : (bstr l).size = l.length := by unfold bstr; rw [strOfNums_size, List.length_map]
/-- The bytes of a string. -/
def sb (s : ByteArray) : List Nat := s.data.toList.map UInt8.toNat
theorem sb_len (s : ByteArray) : (sb s).length = s.size := by unfold sb; rw [List.length_map, Array.length_toList]; rfl
theorem sb_byte (s : ByteArray) (k : Nat) : gb (sb s) k < 256 := by
  unfold gb sb
  rw [List.getD_eq_getElem?_getD, List.getElem?_map]
  cases h : s.data.toList[k]? with
  | none => simp
  | some b => simpa using b.toNat_lt
theorem byteCells_row (s : ByteArray) : byteCells s = row8 (sb s) := by
  unfold byteCells row8 sb; rw [List.map_map]; rfl
theorem bstr_sb (s : ByteArray) : bstr (sb s) = s := by
  cases s with
  | mk d =>
    unfold bstr strOfNums sb
    congr 1
    apply Array.toList_inj.1
    simp [List.map_map, Function.comp_def]
theorem Rd.str {w : World} {v : Value} {l : List Nat} (h : Rd w v l) : (convert 22 9 v).run Tryd.prog w = .ok (.string (bstr l)) w := by
  rcases h.form with ⟨e, q⟩ | ⟨ad, cap, e, hc, hs⟩
  · subst e; subst q
    rw [run_convert_bytes_nil (P := Tryd.prog) w 22 5 Tryd.underlying22 Tryd.underlying5 0 0 9 Tryd.underlying9]
    rfl
  · subst e
    have hl : (loadCells ad l.length).run Tryd.prog w = .ok ((l.map fun n : Nat => (n : Int)).map (Value.int .u8)).toArray w := by
      have := run_loadCells_list (P := Tryd.prog) w ad ((l.map fun n : Nat => (n : Int)).map (Value.int .u8)) (fun j u hu => by
        rw [List.map_map, List.getElem?_map] at hu
        by_cases hj : j < l.length
        · rw [List.getElem?_eq_getElem hj] at hu
          have h1 := hs j hj
          unfold gb at h1
          rw [List.getD_eq_getElem?_getD, List.getElem?_eq_getElem hj] at h1
          rw [h1, ← hu]; rfl
        · rw [List.getElem?_eq_none (by omega)] at hu; cases hu)
      simpa using this
    rw [run_convert_bytes_string w 22 9 5 _ l.length cap Tryd.underlying22 Tryd.underlying5 Tryd.underlying9, run_bytesToString w ad l.length cap _ hl, foldl_push_bytes]
    unfold bstr strOfNums
    simp [ByteArray.empty, ByteArray.emptyWithCapacity]
    rfl

/-- The call's own slice: v, of blocks from base on, holds the bytes l. -/
def Own (w : World) (base : Nat) (v : Value) (l : List Nat) : Prop := w.ownsRow base 5 1 v l.length (row8 l) ∧ (∀ k, gb l k < 256) ∧ l.length ≤ 140737488351232
theorem Own.rd {w : World} {base : Nat} {v : Value} {l : List Nat} (h : Own w base v l) : Rd w v l := by
  obtain ⟨ho, hb, hl⟩ := h
  refine ⟨hb, hl, ?_⟩
  rcases ho.2 with ⟨e, q⟩ | ⟨g, cap, cur, e, _, hh, hc, _, _, ht⟩
  · exact .inl ⟨e, List.eq_nil_of_length_eq_zero q⟩
  · refine .inr ⟨_, cap, e, hc, fun j hj => ?_⟩
    rw [Addr.add_lit, Nat.zero_add, cell_of_row w g j cur _ _ hh]
    have h1 := row8_val l j hj
    rw [← ht, List.getElem?_take, if_pos (by omega)] at h1
    simpa using h1
theorem Own.from {w : World} {base : Nat} {v : Value} {l : List Nat} (h : Own w base v l) : ∀ g, v.ownBlock = some g → base ≤ g ∧ g < w.heap.size := h.1.lt
theorem Own.keep {w w' : World} {base : Nat} {v : Value} {l : List Nat} (h : Own w base v l) {row : Option Nat} (hg : w.grownBy w' row) (hne : v.ownBlock = none ∨ v.ownBlock ≠ row) : Own w' base v l := ⟨h.1.kept hg hne, h.2⟩
theorem grown_of_below {w w' : World} (h : Below w.heap.size w w') (row : Option Nat) : w.grownBy w' row := ⟨h.os, h.tape, h.output, h.size, fun k hk _ => h.block k hk⟩
theorem below_of_grown {w w' : World} (h : w.grownBy w' none) : Below w.heap.size w w' := ⟨h.os, h.tape, h.output, h.size, fun k hk => h.block k hk (by simp)⟩
theorem _root_.Go.RowKit.Below.on {a b c : World} (h : Below a.heap.size a b) (k : Below b.heap.size b c) : Below a.heap.size a c := h.trans (k.mono h.size)
theorem own_none (v : Value) : v.ownBlock = none ∨ v.ownBlock ≠ none := by
  cases v.ownBlock with
  | none => exact .inl rfl
  | some g => exact .inr (by simp)
theorem Own.below {w w' : World} {base : Nat} {v : Value} {l : List Nat} (h : Own w base v l) (hb : Below w.heap.size w w') : Own w' base v l := h.keep (grown_of_below hb none) (own_none v)
theorem Own.drew {w : World} {base : Nat} {v : Value} {l : List Nat} (h : Own w base v l) : Own w.drew base v l := ⟨h.1.drew, h.2⟩
theorem Own.alloc {w : World} {base : Nat} {v : Value} {l : List Nat} (h : Own w base v l) (o : Obj) : Own (w.alloc o) base v l := ⟨h.1.alloc o, h.2⟩
theorem Own.lower {w : World} {base b' : Nat} {v : Value} {l : List Nat} (h : Own w base v l) (hb : b' ≤ base) : Own w b' v l := by
  refine ⟨⟨h.1.1, ?_⟩, h.2⟩
  rcases h.1.2 with q | ⟨g, cap, cur, e, hg, r⟩
  · exact .inl q
  · exact .inr ⟨g, cap, cur, e, Nat.le_trans hb hg, r⟩
theorem infoB : (Tryd.prog.info? 5).map (fun i => (i.zero, i.size, i.bytes)) = some (some (.int .u8 0), 1, 1) := by kernel_rfl
theorem row8_one' (l : List Nat) : ∀ u ∈ row8 l, u.oneCell' = true := by
  intro u hu
  unfold row8 at hu
  obtain ⟨n, _, rfl⟩ := List.mem_map.1 hu
  rfl
theorem row8_app (l m : List Nat) : row8 (l ++ m) = row8 l ++ row8 m := by unfold row8; rw [List.map_append]
theorem gb_app (l m : List Nat) (hl : ∀ k, gb l k < 256) (hm : ∀ k, gb m k < 256) (k : Nat) : gb (l ++ m) k < 256 := by
  unfold gb
  rw [List.getD_eq_getElem?_getD, List.getElem?_append]
  by_cases h : k < l.length
  · rw [if_pos h]; have := hl k; unfold gb at this; rwa [List.getD_eq_getElem?_getD] at this
  · rw [if_neg h]; have := hm (k - l.length); unfold gb at this; rwa [List.getD_eq_getElem?_getD] at this

/-- append of whatever bytes onto a slice of the call's own. -/
theorem run_app (w : World) (ty : TypeId) (base : Nat) (v y : Value) (l m : List Nat) (ho : Own w base v l) (hr : Rd w y m) (hn : l.length + m.length ≤ 140737488351232) (hb : base ≤ w.heap.size) :
    ∃ v' w', (Builtin.append_ #[22, 22] ty #[v, y]).run Tryd.prog w = .ok v' w' ∧ Own w' base v' (l ++ m) ∧ w.grownBy w' v.ownBlock ∧ (v'.ownBlock = v.ownBlock ∨ v'.ownBlock = some w.heap.size) := by
  obtain ⟨i0, hi, hz0, hz1, hz2⟩ := info_parts infoB
  have hby : ∀ k, gb (l ++ m) k < 256 := gb_app l m ho.2.1 hr.byte
  rcases hr.form with ⟨rfl, rfl⟩ | ⟨ad, cap, rfl, _, hs⟩
  · exact ⟨v, w, run_append_owned_none (P := Tryd.prog) (w := w) base 22 ty 5 i0 1 Tryd.underlying22 hi v _ _ ho.1, by rw [List.append_nil]; exact ho, World.grownBy.refl w _, .inl rfl⟩
  · obtain ⟨v', w', hrun, h2, h3, _, h5⟩ := run_append_own_at (P := Tryd.prog) w base 22 ty 5 i0 (.int .u8 0) 1 1 Tryd.underlying22 hi hz0 hz1 hz2 rfl (by decide) v l.length (row8 l) ho.1 ad m.length cap (row8 m) (by rw [row8_len, Nat.mul_one])
      (fun j u hu => by
        by_cases hj : j < m.length
        · rw [row8_val m j hj] at hu; rw [hs j hj, ← hu]
        · rw [List.getElem?_eq_none (by rw [row8_len]; omega)] at hu; cases hu) (row8_one' m) (by unfold maxLen; omega) (by omega) hb
    exact ⟨v', w', hrun, ⟨by rw [List.length_append, row8_app]; exact h2, hby, by rw [List.length_append]; exact hn⟩, h3, h5⟩
theorem wp_app {o : Oper} {a : Act} {w : World} {K : Act → World → Prop} {Q : Exit → Act → World → Prop} (s x : Operand) (ho : o.op = .call { callee := .builtin .append, args := #[s, x], argTypes := #[22, 22] })
    (base : Nat) (v y : Value) (l m : List Nat) (hs : a.eval s = v) (hx : a.eval x = y) (hv : Own w base v l) (hy : Rd w y m) (hn : l.length + m.length ≤ 140737488351232) (hb : base ≤ w.heap.size)
    (h : ∀ v' w', Own w' base v' (l ++ m) → w.grownBy w' v.ownBlock → (v'.ownBlock = v.ownBlock ∨ v'.ownBlock = some w.heap.size) → K (a.put o.dst v') w') : o.wp Tryd.prog a w K Q := by
  obtain ⟨v', w', hrun, h2, h3, h4⟩ := run_app w o.type base v y l m hv hy hn hb
  unfold Oper.wp
  simp only [execOp, ho, resolve, invoke, builtin, Sem.run_bind, Sem.run_pure, Result.andThen_ok, List.map_toArray, List.map_cons, List.map_nil, hs, hx, hrun]
  exact h v' w' h2 h3 h4
theorem wpList_app {ops : Array Oper} {rest : List Oper} {o : Oper} {a : Act} {w : World} {Q : Exit → Act → World → Prop} (hgd : o.guard = none) (s x : Operand) (ho : o.op = .call { callee := .builtin .append, args := #[s, x], argTypes := #[22, 22] })
    (base : Nat) (v y : Value) (l m : List Nat) (hs : a.eval s = v) (hx : a.eval x = y) (hv : Own w base v l) (hy : Rd w y m) (hn : l.length + m.length ≤ 140737488351232) (hb : base ≤ w.heap.size)
    (h : ∀ v' w', Own w' base v' (l ++ m) → w.grownBy w' v.ownBlock → (v'.ownBlock = v.ownBlock ∨ v'.ownBlock = some w.heap.size) → wpList Tryd.prog ops Q rest (a.put o.dst v') w') : wpList Tryd.prog ops Q (o :: rest) a w :=
  wpList_plain hgd fun _ hK => wp_app s x ho base v y l m hs hx hv hy hn hb fun v' w' h2 h3 h4 => hK _ _ (h v' w' h2 h3 h4)
theorem step_app {ops : Array Oper} {o : Oper} {a : Act} {w : World} {K : Act → World → Prop} {Q : Exit → Act → World → Prop} {E : Prop} (hgd : o.guard = none) (s x : Operand) (ho : o.op = .call { callee := .builtin .append, args := #[s, x], argTypes := #[22, 22] })
    (base : Nat) (v y : Value) (l m : List Nat) (hs : a.eval s = v) (hx : a.eval x = y) (hv : Own w base v l) (hy : Rd w y m) (hn : l.length + m.length ≤ 140737488351232) (hb : base ≤ w.heap.size)
    (h : ∀ v' w', Own w' base v' (l ++ m) → w.grownBy w' v.ownBlock → (v'.ownBlock = v.ownBlock ∨ v'.ownBlock = some w.heap.size) → K (a.put o.dst v') w') : if Region.wanted o (yielded ops a.tmps) = true then Oper.wp Tryd.prog o a w K Q else E := by
  rw [if_pos (by simp [Region.wanted, hgd])]
  exact wp_app s x ho base v y l m hs hx hv hy hn hb h
theorem own_new (w : World) (l : List Nat) (hl : ∀ k, gb l k < 256) (hf : l.length ≤ 140737488351232) {b : Nat} (hb : b = w.heap.size) {base : Nat} (h0 : base ≤ w.heap.size) :
    Own (w.alloc (.cells (row8 l).toArray 5)) base (.slice (some ⟨b, 0, none⟩) l.length l.length) l := by
  subst hb
  refine ⟨⟨by rw [row8_len, Nat.mul_one], .inr ⟨_, _, _, rfl, h0, heap_alloc_new w _, Nat.le_refl _, by unfold maxLen; omega, ?_, ?_⟩⟩, hl, hf⟩
  · simp [row8_len]
  · simp [← row8_len l]
theorem own_empty (w : World) {b : Nat} (hb : b = w.heap.size) {base : Nat} (h0 : base ≤ w.heap.size) : Own (w.alloc (.cells #[] 5)) base (.slice (some ⟨b, 0, none⟩) 0 0) [] :=
  own_new w [] (fun k => by rw [gb_nil]; omega) (by simp) hb h0
theorem Own.set {w : World} {base g cap : Nat} {l : List Nat} (h : Own w base (.slice (some ⟨g, 0, none⟩) l.length cap) l) (j x : Nat) (hx : x < 256) (hj : j < l.length) : Own (w.setCell ⟨g, j, none⟩ (.int .u8 (x : Int))) base (.slice (some ⟨g, 0, none⟩) l.length cap) (l.set j x) := by
  refine ⟨?_, (bytes_set ⟨rfl, h.2.1⟩ j x hj hx).2, by rw [List.length_set]; exact h.2.2⟩
  rw [← row8_set, List.length_set]
  exact (h.1.stored j _).1
end Go.Proofs.YtllhljhbnopafaaDoor

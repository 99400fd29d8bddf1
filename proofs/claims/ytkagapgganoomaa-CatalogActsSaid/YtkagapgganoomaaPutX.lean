/- Texts of one subject in one file: PutCalls, App0, PadP. Own work. -/
import Derived.Test.YtkagapgganoomaaOct
import Derived.Test.YtkagapgganoomaaMem
import Derived.Test.YtkagapgganoomaaEqX
import Derived.Lib.AppendZerosOnto
import Derived.Laws.CopyOwn
/- Numbers laid in bytes, by package octet: contracts. Own work. -/
namespace Go.Proofs.Ytkagapgganoomaa
open Go.RowKit
/-- bytes.Clone. -/
theorem clone_any (v : Value) (l : List Nat) (w : World) (h : Rd w v l) : Calls Try.prog 64 #[v] w fun e w' => ∃ v', e = .returned v' ∧ Own w' w.heap.size v' l ∧ Below w.heap.size w w' := by
  rcases h.form with ⟨rfl, rfl⟩ | ⟨ad, cap, rfl, hc, hs⟩
  · have hq := fun w => Lib.run_eql_slice_nil (P := Try.prog) w 33 5 none 0 0 0 0 Try.underlying33
    go_enter Try.func64, Try.ntmps64
    go_wp2_with fail
    go_ret
    exact ⟨_, rfl, own_nil w, Below.refl _ _⟩
  · have hq := fun w => Lib.run_eql_slice_nil (P := Try.prog) w 33 5 (some ad) l.length cap 0 0 Try.underlying33
    have H := Lib.hid h
    clear h hs
    go_enter Try.func64, Try.ntmps64
    go_wp2_with (at_builtin; refine wpList_app rfl (.tmp 5) (.tmp 6) rfl w.heap.size _ _ [] l rfl rfl (own_empty w rfl (Nat.le_refl _)) (H.out.alloc _) (by have := H.out.fits; simpa using this) (by simp) ?_; intro v1 w1 ho1 hg1 hk1; have HO1 := Lib.hid ho1; have HG1 := Lib.hid hg1; clear ho1 hg1 hk1)
    go_ret
    exact ⟨_, rfl, HO1.out, ((Below.refl _ _).alloc (Nat.le_refl _) _).grown HG1.out (by simp) (fun k hk => ((own_empty w rfl (Nat.le_refl _)).from k hk).1)⟩
end Go.Proofs.Ytkagapgganoomaa
/- append of noughts onto a slice of the call's own, copy into the middle of one. Own work. -/
namespace Go.Proofs.Ytkagapgganoomaa
open Go.RowKit
/-- The list with noughts behind, so that it has n. -/
def padTo (l : List Nat) (n : Nat) : List Nat := l ++ List.replicate (n - l.length) 0
theorem padTo_len (l : List Nat) (n : Nat) : (padTo l n).length = max l.length n := by unfold padTo; rw [List.length_append, List.length_replicate]; omega
theorem gb_zeros (n k : Nat) : gb (List.replicate n 0) k = 0 := by
  unfold gb; rw [List.getD_eq_getElem?_getD, List.getElem?_replicate]; split <;> rfl
theorem padTo_byte (l : List Nat) (n : Nat) (h : ∀ k, gb l k < 256) (k : Nat) : gb (padTo l n) k < 256 := gb_app l _ h (fun j => by rw [gb_zeros]; omega) k
theorem zeros_row (n : Nat) : row8 (List.replicate n 0) = List.replicate n (.int .u8 0) := by simp [row8]
theorem zeroCells_u8 (n : Nat) : (Builtin.zeroCells (Value.int .u8 0).cells n).toList = row8 (List.replicate n 0) := by
  rw [zeros_row]
  apply List.ext_getElem
  · simp [Builtin.zeroCells, Value.cells]
  · intro i h1 h2
    simp [Builtin.zeroCells, Value.cells, Nat.mod_one]
theorem run_app0 (w : World) (ty : TypeId) (base : Nat) (v : Value) (l : List Nat) (k : Nat) (ho : Own w base v l) (hn : l.length + k ≤ 140737488355328) (hb : base ≤ w.heap.size) :
    ∃ v' w', (Builtin.append_ #[33, 3] ty #[v, .int .i64 (k : Int)]).run Try.prog w = .ok v' w' ∧ Own w' base v' (l ++ List.replicate k 0) ∧ w.grownBy w' v.ownBlock ∧ (v'.ownBlock = v.ownBlock ∨ v'.ownBlock = some w.heap.size) := by
  obtain ⟨i0, hi, hz0, hz1, hz2⟩ := info_parts infoB
  have ht := Try.underlying33
  have htn := Try.underlying3
  have hby : ∀ j, gb (l ++ List.replicate k 0) j < 256 := gb_app _ _ ho.2.1 (fun j => by rw [gb_zeros]; omega)
  have hlen : (l ++ List.replicate k 0).length = l.length + k := by rw [List.length_append, List.length_replicate]
  have hw : IntKind.i64.wrap (k : Int) = k := by rw [IntKind.wrap_i64]; omega
  have hfit : (l ++ List.replicate k 0).length ≤ 140737488355328 := by rw [hlen]; exact hn
  by_cases hk : k = 0
  · subst hk
    refine ⟨v, w, ?_, by simpa using ho, World.grownBy.refl w _, .inl rfl⟩
    rcases ho.1.2 with ⟨rfl, q⟩ | ⟨g, cap, cur, rfl, _, hh, hc, _, hs, htk⟩
    · have hw0 : IntKind.i64.wrap 0 = 0 := by decide
      obtain rfl : l = [] := List.eq_nil_of_length_eq_zero q
      simp [Builtin.append_, run_underlying ht, run_underlying htn, sizeOf, typeInfo, hi, hz2, hw0, asInt, asIntOf]
    · have hw0 : IntKind.i64.wrap 0 = 0 := by decide
      simp [Builtin.append_, run_underlying ht, run_underlying htn, sizeOf, typeInfo, hi, hz2, hw0, asInt, asIntOf, hc, storeCells]
  · by_cases hroom : ∃ g cap cur, v = .slice (some ⟨g, 0, none⟩) l.length cap ∧ base ≤ g ∧ w.heap[g]? = some (.cells cur 5 (0, 0)) ∧ l.length + k ≤ cap ∧ cap ≤ maxLen ∧ cur.size = cap * 1 ∧ cur.toList.take (l.length * 1) = row8 l
    · obtain ⟨g, cap, cur, rfl, hbg, hh, hcap, hm, hs, htk⟩ := hroom
      simp only [Nat.mul_one] at hs htk
      have hst := run_storeCells_at Try.prog g l.length 5 (row8 (List.replicate k 0)) 0 cur w hh (by rw [row8_len, List.length_replicate]; omega) (row8_one' _)
      simp only [Nat.add_zero, row8_len, List.length_replicate] at hst
      have hne : ¬ ((k : Int) < 0) := by omega
      have h48 : ¬ (281474976710656 < (k : Int)) := by omega
      refine ⟨.slice (some ⟨g, 0, none⟩) (l.length + k) cap, w.setRow g (cur.toList.take l.length ++ row8 (List.replicate k 0) ++ cur.toList.drop (l.length + k)).toArray, ?_, ⟨⟨?_, .inr ⟨g, cap, _, ?_, hbg, setRow_heap w g cur _ _ _ hh, ?_, hm, ?_, ?_⟩⟩, hby, hfit⟩, ?_, .inl rfl⟩
      · have hzc : (Builtin.zeroCells #[Value.int .u8 0] k).toList = row8 (List.replicate k 0) := zeroCells_u8 k
        simp [Builtin.append_, run_underlying ht, run_underlying htn, sizeOf, typeInfo, zeroValue, hi, hz0, hz1, hz2, hw, asInt, asIntOf, hcap, hne, h48, hk, Addr.add_lit, Value.cells, hzc, hst]
      · rw [row8_len, Nat.mul_one]
      · rw [hlen]
      · rw [hlen]; exact hcap
      · simp only [List.size_toArray, List.length_append, List.length_take, List.length_drop, Array.length_toList, row8_len, List.length_replicate]
        omega
      · rw [hlen, Nat.mul_one, row8_app, htk]
        have e1 : (row8 l ++ row8 (List.replicate k 0)).length = l.length + k := by rw [List.length_append, row8_len, row8_len, List.length_replicate]
        simp only []
        rw [← e1, List.take_left']
        rfl
      · exact ⟨rfl, rfl, rfl, by simp, fun i _ hne => setRow_other w g i _ (fun e => hne (by simp [Value.ownBlock, e]))⟩
    · -- a new array
      have key : ∀ (old : Nat) (b0 : Option Addr), v = .slice b0 l.length old → old < l.length + k → (Builtin.firstCells 1 l.length (.slice b0 l.length old)).run Try.prog w.drew = .ok (row8 l).toArray w.drew →
          ∃ v' w', (Builtin.append_ #[33, 3] ty #[v, .int .i64 (k : Int)]).run Try.prog w = .ok v' w' ∧ Own w' base v' (l ++ List.replicate k 0) ∧ w.grownBy w' v.ownBlock ∧ (v'.ownBlock = v.ownBlock ∨ v'.ownBlock = some w.heap.size) := fun old b0 hv ho2 hf => by
        subst hv
        have hr := Lib.run_append_grow_zeros (P := Try.prog) w 33 3 ty 5 i0 (.int .u8 0) .i64 .i64 ht htn hi hz0 b0 l.length old (row8 l) (by rw [hz1]; exact hf) k (by omega) (by rw [hz1]; omega) ho2 (by omega) (by rw [hz2]; omega) (growslice_fits ho2 (by rw [hz2]; omega))
        have hge := grownCap_ge w (l.length + k) old 5
        have hcm : grownCap w (l.length + k) old 5 ≤ maxLen := grownCap_le_maxLen w (l.length + k) old 5 (by unfold maxLen; omega)
        refine ⟨_, _, hr, ⟨⟨?_, .inr ⟨w.heap.size, _, _, ?_, hb, heap_alloc_new w.drew _, ?_, hcm, ?_, ?_⟩⟩, hby, hfit⟩, ⟨rfl, rfl, rfl, by simp, fun i hi _ => heap_alloc_old w.drew _ hi⟩, .inr rfl⟩
        · rw [row8_len, Nat.mul_one]
        · rw [hlen]
        · rw [hlen]; exact hge
        · have e2 : (Value.int IntKind.u8 0).cells.size = 1 := rfl
          simp only [Array.size_append, List.size_toArray, size_zeroCells, row8_len, e2]
          omega
        · rw [hlen, Nat.mul_one, row8_app]
          simp only [Array.toList_append, zeroCells_u8]
          have e1 : (row8 l ++ row8 (List.replicate k 0)).length = l.length + k := by rw [List.length_append, row8_len, row8_len, List.length_replicate]
          rw [← e1, List.take_left']
          rfl
      rcases ho.1.2 with ⟨hv, q⟩ | ⟨g, cap, cur, hv, hbg, hh, hc, hm, hs, htk⟩
      · obtain rfl : l = [] := List.eq_nil_of_length_eq_zero q
        exact key 0 none hv (by simp; omega) (by simp [Builtin.firstCells, row8])
      · refine key cap _ hv ?_ ?_
        · rcases Nat.lt_or_ge cap (l.length + k) with h | h
          · exact h
          · exact absurd ⟨g, cap, cur, hv, hbg, hh, h, hm, hs, htk⟩ hroom
        · have hrd := ho.1.cells (g := g) (by rw [hv]; rfl)
          exact run_firstCells_some (P := Try.prog) w.drew 1 l.length ⟨g, 0, none⟩ l.length cap (row8 l) (by rw [row8_len, Nat.mul_one]) hrd
theorem wpList_app0 {ops : Array Oper} {rest : List Oper} {o : Oper} {a : Act} {w : World} {Q : Exit → Act → World → Prop} (hgd : o.guard = none) (s x : Operand) (ho : o.op = .call { callee := .builtin .append, args := #[s, x], argTypes := #[33, 3] })
    (base : Nat) (v : Value) (l : List Nat) (k : Nat) (hs : a.eval s = v) (hx : a.eval x = .int .i64 (k : Int)) (hv : Own w base v l) (hn : l.length + k ≤ 140737488355328) (hb : base ≤ w.heap.size)
    (h : ∀ v' w', Own w' base v' (l ++ List.replicate k 0) → w.grownBy w' v.ownBlock → (v'.ownBlock = v.ownBlock ∨ v'.ownBlock = some w.heap.size) → wpList Try.prog ops Q rest (a.put o.dst v') w') : wpList Try.prog ops Q (o :: rest) a w := by
  obtain ⟨v', w', hrun, h2, h3, h4⟩ := run_app0 w o.type base v l k hv hn hb
  refine wpList_plain hgd fun _ hK => ?_
  unfold Oper.wp
  simp only [execOp, ho, resolve, invoke, builtin, Sem.run_bind, Sem.run_pure, Result.andThen_ok, List.map_toArray, List.map_cons, List.map_nil, hs, hx, hrun]
  exact hK _ _ (h v' w' h2 h3 h4)
set_option maxRecDepth 100000 in
/-- copy into the middle of a slice of the call's own: all that is copied fits. -/
theorem run_copy_own (w : World) (dT sT ty : TypeId) (hu : Try.prog.underlying dT = some (.slice 5)) (base : Nat) (v : Value) (l : List Nat) (ho : Own w base v l) (off dLen dCap : Nat) (dp : Option Addr) (y : Value) (m : List Nat) (hy : Rd w y m) (hd : dLen = l.length - off) (k : Nat) (hk : k = min m.length dLen)
    (hdp : ∀ g, v.ownBlock = some g → 0 < k → dp = some ⟨g, off, none⟩) :
    ∃ w', (Builtin.copy_ #[dT, sT] ty #[.slice dp dLen dCap, y]).run Try.prog w = .ok (.int .i64 (k : Int)) w' ∧ Own w' base v (l.take off ++ m.take k ++ l.drop (off + k)) ∧ w.grownBy w' v.ownBlock := by
  by_cases h0 : k = 0
  · obtain ⟨ao, cap, rfl, _⟩ := hy.shape
    subst h0
    refine ⟨w, run_copy_none (P := Try.prog) w dT sT ty 5 dp ao dLen dCap m.length cap hu infoSize hk.symm, ?_, World.grownBy.refl w _⟩
    simpa using ho
  · rcases ho.1.2 with ⟨hv, q⟩ | ⟨g, cap, cur, hv, hbg, hh, hc, hm, hs, htk⟩
    · omega
    · simp only [Nat.mul_one] at hs htk
      subst hv
      have hblk : Blk w g 5 cur.toList := by unfold Blk; simpa using hh
      have hlk : off + k ≤ l.length := by omega
      obtain ⟨w', hr, hB, hg⟩ := run_copy_blk dT sT ty hu g off dLen dCap 5 cur.toList hblk dp y m hy k hk (hdp g rfl) (by rw [Array.length_toList]; omega)
      have hml : (m.take k).length = k := by rw [List.length_take]; omega
      have e1 : (l.take off ++ m.take k ++ l.drop (off + k)).length = l.length := by
        simp only [List.length_append, List.length_take, List.length_drop]; omega
      refine ⟨w', hr, ⟨⟨by rw [row8_len, Nat.mul_one], .inr ⟨g, cap, _, by rw [e1], hbg, hB, by rw [e1]; exact hc, hm, ?_, ?_⟩⟩, ?_, by rw [e1]; exact ho.2.2⟩, hg⟩
      · simp only [splice, List.size_toArray, List.length_append, List.length_take, List.length_drop, Array.length_toList, row8_len]
        omega
      · rw [e1, Nat.mul_one]
        have e2 : (row8 (m.take k)).length = k := by rw [row8_len]; exact hml
        unfold splice
        rw [e2, row8_app, row8_app]
        have q1 : cur.toList.take off = row8 (l.take off) := by
          have : (cur.toList.take l.length).take off = (row8 l).take off := by rw [htk]
          rw [List.take_take, Nat.min_eq_left (by omega)] at this
          rw [this]; unfold row8; rw [List.map_take]
        have q2 : (cur.toList.drop (off + k)).take (l.length - (off + k)) = row8 (l.drop (off + k)) := by
          have : (cur.toList.take l.length).drop (off + k) = (row8 l).drop (off + k) := by rw [htk]
          rw [List.drop_take] at this
          rw [this]; unfold row8; rw [List.map_drop]
        rw [q1]
        show List.take l.length (row8 (l.take off) ++ (row8 (m.take k) ++ cur.toList.drop (off + k))) = _
        rw [← List.append_assoc, List.take_append, List.take_of_length_le (by rw [List.length_append, row8_len, e2, List.length_take]; omega)]
        congr 1
        have e3 : (row8 (l.take off) ++ row8 (m.take k)).length = off + k := by rw [List.length_append, row8_len, e2, List.length_take]; omega
        rw [e3]
        exact q2
      · have h1 := gb_take_byte l off ho.2.1
        have h2 := gb_take_byte m k hy.byte
        exact gb_app _ _ (gb_app _ _ h1 h2) (fun j => by rw [gb_drop]; exact ho.2.1 _)
theorem wpList_copy_own {ops : Array Oper} {rest : List Oper} {o : Oper} {a : Act} {w : World} {Q : Exit → Act → World → Prop} (hgd : o.guard = none) (d s : Operand) (dT sT : TypeId) (ho : o.op = .call { callee := .builtin .copy, args := #[d, s], argTypes := #[dT, sT] }) (hu : Try.prog.underlying dT = some (.slice 5))
    (base : Nat) (v : Value) (l : List Nat) (hv : Own w base v l) (off dLen dCap : Nat) (dp : Option Addr) (hd : a.eval d = .slice dp dLen dCap) (y : Value) (hs : a.eval s = y) (m : List Nat) (hy : Rd w y m) (hl : dLen = l.length - off) (k : Nat) (hk : k = min m.length dLen)
    (hdp : ∀ g, v.ownBlock = some g → 0 < k → dp = some ⟨g, off, none⟩)
    (h : ∀ w', Own w' base v (l.take off ++ m.take k ++ l.drop (off + k)) → w.grownBy w' v.ownBlock → wpList Try.prog ops Q rest (a.put o.dst (.int .i64 (k : Int))) w') : wpList Try.prog ops Q (o :: rest) a w := by
  obtain ⟨w', hrun, h2, h3⟩ := run_copy_own w dT sT o.type hu base v l hv off dLen dCap dp y m hy hl k hk hdp
  refine wpList_plain hgd fun _ hK => ?_
  unfold Oper.wp
  simp only [execOp, ho, resolve, invoke, builtin, Sem.run_bind, Sem.run_pure, Result.andThen_ok, List.map_toArray, List.map_cons, List.map_nil, hd, hs, hrun]
  exact hK _ _ (h w' h2 h3)
/-- Nothing is read the same in every world. -/
theorem rd_empty {w w' : World} {y : Value} (h : Rd w y []) : Rd w' y [] := by
  refine ⟨h.byte, h.fits, ?_⟩
  rcases h.form with q | ⟨ad, cap, e, hc, _⟩
  · exact .inl q
  · exact .inr ⟨ad, cap, e, hc, fun j hj => absurd hj (by simp)⟩
/-- What is read stays, where the block turned is another one, or nothing is read. -/
theorem Rd.turned {w w' : World} {y : Value} {m : List Nat} {row : Option Nat} (h : Rd w y m) (hg : w.grownBy w' row) (hne : 0 < m.length → ∀ g, y.ownBlock = some g → row ≠ some g) : Rd w' y m := by
  rcases Nat.eq_zero_or_pos m.length with q | q
  · obtain rfl := List.eq_nil_of_length_eq_zero q
    exact rd_empty h
  · exact h.keep fun g hg' hlt => hg.block g hlt (fun e => hne q g hg' e.symm)
end Go.Proofs.Ytkagapgganoomaa
/- Noughts behind bytes, by package octet: contract (for what fits). Own work. -/
namespace Go.Proofs.Ytkagapgganoomaa
open Go.RowKit
theorem padTo_splice (l : List Nat) (n : Nat) : splice (row8 (List.replicate n 0)) 0 (row8 l) = row8 (padTo l n) := by
  unfold splice padTo
  rw [row8_app, List.take_zero, List.nil_append, Nat.zero_add, row8_len]
  congr 1
  rw [zeros_row, zeros_row, List.drop_replicate]
end Go.Proofs.Ytkagapgganoomaa

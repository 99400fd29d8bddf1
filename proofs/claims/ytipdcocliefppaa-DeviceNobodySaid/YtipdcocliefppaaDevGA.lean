/- Texts of one subject in one file: App0, CutEx, DevPA, DevPB. Own work. -/
import Derived.Test.YtipdcocliefppaaMem
import Derived.Test.YtipdcocliefppaaOwnAt
import Derived.Lib.AppendZerosOnto
import Derived.Test.YtipdcocliefppaaZed
import Derived.Test.YtipdcocliefppaaDevMath
import Derived.RegionCalls
import Derived.Lib.SliceRun
import Derived.BigQuiet
import Derived.BigRegion
import Derived.Deep.DeepCutAuto
import Derived.Test.YtipdcocliefppaaTurn
import Derived.Test.YtipdcocliefppaaDevOk
/- append of noughts onto a slice of the call's own, copy into the middle of one. Own work. -/
namespace Go.Proofs.Ytipdcocliefppaa
open Go.RowKit
/-- The list with noughts behind, so that it has n. -/
def padTo (l : List Nat) (n : Nat) : List Nat := l ++ List.replicate (n - l.length) 0
theorem padTo_len (l : List Nat) (n : Nat) : (padTo l n).length = max l.length n := by unfold padTo; rw [List.length_append, List.length_replicate]; omega
theorem gb_zeros (n k : Nat) : gb (List.replicate n 0) k = 0 := by
  unfold gb; rw [List.getD_eq_getElem?_getD, List.getElem?_replicate]; split <;> rfl
theorem zeros_row (n : Nat) : row8 (List.replicate n 0) = List.replicate n (.int .u8 0) := by simp [row8]
theorem zeroCells_u8 (n : Nat) : (Builtin.zeroCells (Value.int .u8 0).cells n).toList = row8 (List.replicate n 0) := by
  rw [zeros_row]
  apply List.ext_getElem
  · simp [Builtin.zeroCells, Value.cells]
  · intro i h1 h2
    simp [Builtin.zeroCells, Value.cells, Nat.mod_one]
theorem run_app0 (w : World) (ty : TypeId) (base : Nat) (v : Value) (l : List Nat) (k : Nat) (ho : Own w base v l) (hn : l.length + k ≤ 140737488355328) (hb : base ≤ w.heap.size) :
    ∃ v' w', (Builtin.append_ #[33, 3] ty #[v, .int .i64 (k : Int)]).run Try.prog w = .ok v' w' ∧ Own w' base v' (l ++ List.replicate k 0) ∧ w.grownBy w' v.ownBlock ∧ (v'.ownBlock = v.ownBlock ∨ v'.ownBlock = some w.heap.size) := by
  obtain ⟨i0, hi, hz0, hz1, hz2⟩ := info_parts infoB
  have ht := Try.underlying33
  have htn := Try.underlying3
  have hby : ∀ j, gb (l ++ List.replicate k 0) j < 256 := gb_app _ _ ho.2.1 (fun j => by rw [gb_zeros]; omega)
  have hlen : (l ++ List.replicate k 0).length = l.length + k := by rw [List.length_append, List.length_replicate]
  have hw : IntKind.i64.wrap (k : Int) = k := by rw [IntKind.wrap_i64]; omega
  have hfit : (l ++ List.replicate k 0).length ≤ 140737488355328 := by rw [hlen]; exact hn
  by_cases hk : k = 0
  · subst hk
    refine ⟨v, w, ?_, by simpa using ho, World.grownBy.refl w _, .inl rfl⟩
    rcases ho.1.2 with ⟨rfl, q⟩ | ⟨g, cap, cur, rfl, _, hh, hc, _, hs, htk⟩
    · have hw0 : IntKind.i64.wrap 0 = 0 := by decide
      obtain rfl : l = [] := List.eq_nil_of_length_eq_zero q
      simp [Builtin.append_, run_underlying ht, run_underlying htn, sizeOf, typeInfo, hi, hz2, hw0, asInt, asIntOf]
    · have hw0 : IntKind.i64.wrap 0 = 0 := by decide
      simp [Builtin.append_, run_underlying ht, run_underlying htn, sizeOf, typeInfo, hi, hz2, hw0, asInt, asIntOf, hc, storeCells]
  · by_cases hroom : ∃ g cap cur, v = .slice (some ⟨g, 0, none⟩) l.length cap ∧ base ≤ g ∧ w.heap[g]? = some (.cells cur 5 (0, 0)) ∧ l.length + k ≤ cap ∧ cap ≤ maxLen ∧ cur.size = cap * 1 ∧ cur.toList.take (l.length * 1) = row8 l
    · obtain ⟨g, cap, cur, rfl, hbg, hh, hcap, hm, hs, htk⟩ := hroom
      simp only [Nat.mul_one] at hs htk
      have hst := run_storeCells_at Try.prog g l.length 5 (row8 (List.replicate k 0)) 0 cur w hh (by rw [row8_len, List.length_replicate]; omega) (row8_one' _)
      simp only [Nat.add_zero, row8_len, List.length_replicate] at hst
      have hne : ¬ ((k : Int) < 0) := by omega
      have h48 : ¬ (281474976710656 < (k : Int)) := by omega
      refine ⟨.slice (some ⟨g, 0, none⟩) (l.length + k) cap, w.setRow g (cur.toList.take l.length ++ row8 (List.replicate k 0) ++ cur.toList.drop (l.length + k)).toArray, ?_, ⟨⟨?_, .inr ⟨g, cap, _, ?_, hbg, setRow_heap w g cur _ _ _ hh, ?_, hm, ?_, ?_⟩⟩, hby, hfit⟩, ?_, .inl rfl⟩
      · have hzc : (Builtin.zeroCells #[Value.int .u8 0] k).toList = row8 (List.replicate k 0) := zeroCells_u8 k
        simp [Builtin.append_, run_underlying ht, run_underlying htn, sizeOf, typeInfo, zeroValue, hi, hz0, hz1, hz2, hw, asInt, asIntOf, hcap, hne, h48, hk, Addr.add_lit, Value.cells, hzc, hst]
      · rw [row8_len, Nat.mul_one]
      · rw [hlen]
      · rw [hlen]; exact hcap
      · simp only [List.size_toArray, List.length_append, List.length_take, List.length_drop, Array.length_toList, row8_len, List.length_replicate]
        omega
      · rw [hlen, Nat.mul_one, row8_app, htk]
        have e1 : (row8 l ++ row8 (List.replicate k 0)).length = l.length + k := by rw [List.length_append, row8_len, row8_len, List.length_replicate]
        simp only []
        rw [← e1, List.take_left']
        rfl
      · exact ⟨rfl, rfl, rfl, by simp, fun i _ hne => setRow_other w g i _ (fun e => hne (by simp [Value.ownBlock, e]))⟩
    · -- a new array
      have key : ∀ (old : Nat) (b0 : Option Addr), v = .slice b0 l.length old → old < l.length + k → (Builtin.firstCells 1 l.length (.slice b0 l.length old)).run Try.prog w.drew = .ok (row8 l).toArray w.drew →
          ∃ v' w', (Builtin.append_ #[33, 3] ty #[v, .int .i64 (k : Int)]).run Try.prog w = .ok v' w' ∧ Own w' base v' (l ++ List.replicate k 0) ∧ w.grownBy w' v.ownBlock ∧ (v'.ownBlock = v.ownBlock ∨ v'.ownBlock = some w.heap.size) := fun old b0 hv ho2 hf => by
        subst hv
        have hr := Lib.run_append_grow_zeros (P := Try.prog) w 33 3 ty 5 i0 (.int .u8 0) .i64 .i64 ht htn hi hz0 b0 l.length old (row8 l) (by rw [hz1]; exact hf) k (by omega) (by rw [hz1]; omega) ho2 (by omega) (by rw [hz2]; omega) (growslice_fits ho2 (by rw [hz2]; omega))
        have hge := grownCap_ge w (l.length + k) old 5
        have hcm : grownCap w (l.length + k) old 5 ≤ maxLen := grownCap_le_maxLen w (l.length + k) old 5 (by unfold maxLen; omega)
        refine ⟨_, _, hr, ⟨⟨?_, .inr ⟨w.heap.size, _, _, ?_, hb, heap_alloc_new w.drew _, ?_, hcm, ?_, ?_⟩⟩, hby, hfit⟩, ⟨rfl, rfl, rfl, by simp, fun i hi _ => heap_alloc_old w.drew _ hi⟩, .inr rfl⟩
        · rw [row8_len, Nat.mul_one]
        · rw [hlen]
        · rw [hlen]; exact hge
        · have e2 : (Value.int IntKind.u8 0).cells.size = 1 := rfl
          simp only [Array.size_append, List.size_toArray, size_zeroCells, row8_len, e2]
          omega
        · rw [hlen, Nat.mul_one, row8_app]
          simp only [Array.toList_append, zeroCells_u8]
          have e1 : (row8 l ++ row8 (List.replicate k 0)).length = l.length + k := by rw [List.length_append, row8_len, row8_len, List.length_replicate]
          rw [← e1, List.take_left']
          rfl
      rcases ho.1.2 with ⟨hv, q⟩ | ⟨g, cap, cur, hv, hbg, hh, hc, hm, hs, htk⟩
      · obtain rfl : l = [] := List.eq_nil_of_length_eq_zero q
        exact key 0 none hv (by simp; omega) (by simp [Builtin.firstCells, row8])
      · refine key cap _ hv ?_ ?_
        · rcases Nat.lt_or_ge cap (l.length + k) with h | h
          · exact h
          · exact absurd ⟨g, cap, cur, hv, hbg, hh, h, hm, hs, htk⟩ hroom
        · have hrd := ho.1.cells (g := g) (by rw [hv]; rfl)
          exact run_firstCells_some (P := Try.prog) w.drew 1 l.length ⟨g, 0, none⟩ l.length cap (row8 l) (by rw [row8_len, Nat.mul_one]) hrd
theorem wpList_app0 {ops : Array Oper} {rest : List Oper} {o : Oper} {a : Act} {w : World} {Q : Exit → Act → World → Prop} (hgd : o.guard = none) (s x : Operand) (ho : o.op = .call { callee := .builtin .append, args := #[s, x], argTypes := #[33, 3] })
    (base : Nat) (v : Value) (l : List Nat) (k : Nat) (hs : a.eval s = v) (hx : a.eval x = .int .i64 (k : Int)) (hv : Own w base v l) (hn : l.length + k ≤ 140737488355328) (hb : base ≤ w.heap.size)
    (h : ∀ v' w', Own w' base v' (l ++ List.replicate k 0) → w.grownBy w' v.ownBlock → (v'.ownBlock = v.ownBlock ∨ v'.ownBlock = some w.heap.size) → wpList Try.prog ops Q rest (a.put o.dst v') w') : wpList Try.prog ops Q (o :: rest) a w := by
  obtain ⟨v', w', hrun, h2, h3, h4⟩ := run_app0 w o.type base v l k hv hn hb
  refine wpList_plain hgd fun _ hK => ?_
  unfold Oper.wp
  simp only [execOp, ho, resolve, invoke, builtin, Sem.run_bind, Sem.run_pure, Result.andThen_ok, List.map_toArray, List.map_cons, List.map_nil, hs, hx, hrun]
  exact hK _ _ (h v' w' h2 h3 h4)
/-- copy into the middle of a slice of the call's own: all that is copied fits. -/
theorem run_copy_own (w : World) (dT sT ty : TypeId) (hu : Try.prog.underlying dT = some (.slice 5)) (base : Nat) (v : Value) (l : List Nat) (ho : Own w base v l) (off dLen dCap : Nat) (dp : Option Addr) (y : Value) (m : List Nat) (hy : Rd w y m) (hd : dLen = l.length - off) (k : Nat) (hk : k = min m.length dLen)
    (hdp : ∀ g, v.ownBlock = some g → 0 < k → dp = some ⟨g, off, none⟩) :
    ∃ w', (Builtin.copy_ #[dT, sT] ty #[.slice dp dLen dCap, y]).run Try.prog w = .ok (.int .i64 (k : Int)) w' ∧ Own w' base v (l.take off ++ m.take k ++ l.drop (off + k)) ∧ w.grownBy w' v.ownBlock := by
  by_cases h0 : k = 0
  · obtain ⟨ao, cap, rfl, _⟩ := hy.shape
    subst h0
    refine ⟨w, run_copy_none (P := Try.prog) w dT sT ty 5 dp ao dLen dCap m.length cap hu infoSize hk.symm, ?_, World.grownBy.refl w _⟩
    simpa using ho
  · rcases ho.1.2 with ⟨hv, q⟩ | ⟨g, cap, cur, hv, hbg, hh, hc, hm, hs, htk⟩
    · omega
    · simp only [Nat.mul_one] at hs htk
      subst hv
      have hblk : Blk w g 5 cur.toList := by unfold Blk; simpa using hh
      have hlk : off + k ≤ l.length := by omega
      obtain ⟨w', hr, hB, hg⟩ := run_copy_blk dT sT ty hu g off dLen dCap 5 cur.toList hblk dp y m hy k hk (hdp g rfl) (by rw [Array.length_toList]; omega)
      have hml : (m.take k).length = k := by rw [List.length_take]; omega
      have e1 : (l.take off ++ m.take k ++ l.drop (off + k)).length = l.length := by
        simp only [List.length_append, List.length_take, List.length_drop]; omega
      refine ⟨w', hr, ⟨⟨by rw [row8_len, Nat.mul_one], .inr ⟨g, cap, _, by rw [e1], hbg, hB, by rw [e1]; exact hc, hm, ?_, ?_⟩⟩, ?_, by rw [e1]; exact ho.2.2⟩, hg⟩
      · simp only [splice, List.size_toArray, List.length_append, List.length_take, List.length_drop, Array.length_toList, row8_len]
        omega
      · rw [e1, Nat.mul_one]
        have e2 : (row8 (m.take k)).length = k := by rw [row8_len]; exact hml
        unfold splice
        rw [e2, row8_app, row8_app]
        have q1 : cur.toList.take off = row8 (l.take off) := by
          have : (cur.toList.take l.length).take off = (row8 l).take off := by rw [htk]
          rw [List.take_take, Nat.min_eq_left (by omega)] at this
          rw [this]; unfold row8; rw [List.map_take]
        have q2 : (cur.toList.drop (off + k)).take (l.length - (off + k)) = row8 (l.drop (off + k)) := by
          have : (cur.toList.take l.length).drop (off + k) = (row8 l).drop (off + k) := by rw [htk]
          rw [List.drop_take] at this
          rw [this]; unfold row8; rw [List.map_drop]
        rw [q1]
        show List.take l.length (row8 (l.take off) ++ (row8 (m.take k) ++ cur.toList.drop (off + k))) = _
        rw [← List.append_assoc, List.take_append, List.take_of_length_le (by rw [List.length_append, row8_len, e2, List.length_take]; omega)]
        congr 1
        have e3 : (row8 (l.take off) ++ row8 (m.take k)).length = off + k := by rw [List.length_append, row8_len, e2, List.length_take]; omega
        rw [e3]
        exact q2
      · have h1 := gb_take_byte l off ho.2.1
        have h2 := gb_take_byte m k hy.byte
        exact gb_app _ _ (gb_app _ _ h1 h2) (fun j => by rw [gb_drop]; exact ho.2.1 _)
theorem wpList_copy_own {ops : Array Oper} {rest : List Oper} {o : Oper} {a : Act} {w : World} {Q : Exit → Act → World → Prop} (hgd : o.guard = none) (d s : Operand) (dT sT : TypeId) (ho : o.op = .call { callee := .builtin .copy, args := #[d, s], argTypes := #[dT, sT] }) (hu : Try.prog.underlying dT = some (.slice 5))
    (base : Nat) (v : Value) (l : List Nat) (hv : Own w base v l) (off dLen dCap : Nat) (dp : Option Addr) (hd : a.eval d = .slice dp dLen dCap) (y : Value) (hs : a.eval s = y) (m : List Nat) (hy : Rd w y m) (hl : dLen = l.length - off) (k : Nat) (hk : k = min m.length dLen)
    (hdp : ∀ g, v.ownBlock = some g → 0 < k → dp = some ⟨g, off, none⟩)
    (h : ∀ w', Own w' base v (l.take off ++ m.take k ++ l.drop (off + k)) → w.grownBy w' v.ownBlock → wpList Try.prog ops Q rest (a.put o.dst (.int .i64 (k : Int))) w') : wpList Try.prog ops Q (o :: rest) a w := by
  obtain ⟨w', hrun, h2, h3⟩ := run_copy_own w dT sT o.type hu base v l hv off dLen dCap dp y m hy hl k hk hdp
  refine wpList_plain hgd fun _ hK => ?_
  unfold Oper.wp
  simp only [execOp, ho, resolve, invoke, builtin, Sem.run_bind, Sem.run_pure, Result.andThen_ok, List.map_toArray, List.map_cons, List.map_nil, hd, hs, hrun]
  exact hK _ _ (h w' h2 h3)
/-- Nothing is read the same in every world. -/
theorem rd_empty {w w' : World} {y : Value} (h : Rd w y []) : Rd w' y [] := by
  refine ⟨h.byte, h.fits, ?_⟩
  rcases h.form with q | ⟨ad, cap, e, hc, _⟩
  · exact .inl q
  · exact .inr ⟨ad, cap, e, hc, fun j hj => absurd hj (by simp)⟩
/-- What is read stays, where the block turned is another one, or nothing is read. -/
theorem Rd.turned {w w' : World} {y : Value} {m : List Nat} {row : Option Nat} (h : Rd w y m) (hg : w.grownBy w' row) (hne : 0 < m.length → ∀ g, y.ownBlock = some g → row ≠ some g) : Rd w' y m := by
  rcases Nat.eq_zero_or_pos m.length with q | q
  · obtain rfl := List.eq_nil_of_length_eq_zero q
    exact rd_empty h
  · exact h.keep fun g hg' hlt => hg.block g hlt (fun e => hne q g hg' e.symm)
end Go.Proofs.Ytipdcocliefppaa
/- Bytes cut out of a slice of one's own block, and copied into one, as operations of a region that draws its order. Own work. -/
namespace Go.Proofs.Ytipdcocliefppaa
open Go.RowKit
theorem ex_cut_l {o : Oper} {a : Act} {w : World} {x y : Operand} {b n cap k : Nat} (ho : o.op = .slice 33 x (some y) none none) (hx : a.eval x = .slice (some ⟨b, 0, none⟩) n cap) (hy : a.eval y = .int .i64 (k : Int)) (hk : k ≤ n) (hc : k < cap) :
    (execOp a.eval o).run Try.prog w = .ok (.value (.slice (some ⟨b, k, none⟩) (n - k) (cap - k))) w := by
  have q : (k : Int) ≤ (n : Int) := by omega
  have q2 : cap ≠ k := by omega
  unfold execOp
  rw [ho]
  simp only [Option.map_some, Option.map_none, hx, hy]
  go_simp
theorem ex_cut_lh {o : Oper} {a : Act} {w : World} {x y z : Operand} {b n cap k h : Nat} (ho : o.op = .slice 33 x (some y) (some z) none) (hx : a.eval x = .slice (some ⟨b, 0, none⟩) n cap) (hy : a.eval y = .int .i64 (k : Int)) (hz : a.eval z = .int .i64 (h : Int)) (hkh : k ≤ h) (hh : h ≤ cap) (hc : k < cap) :
    (execOp a.eval o).run Try.prog w = .ok (.value (.slice (some ⟨b, k, none⟩) (h - k) (cap - k))) w := by
  have q : (k : Int) ≤ (h : Int) := by omega
  have q3 : (h : Int) ≤ (cap : Int) := by omega
  have q2 : cap ≠ k := by omega
  unfold execOp
  rw [ho]
  simp only [Option.map_some, Option.map_none, hx, hy, hz]
  go_simp
theorem doesZ_copy {ops : List Oper} {Q : Exit → Act → World → Prop} {o : Oper} {a : Act} {w : World} {I : Told → World → Prop} {tbl : List Fz} {r : Told} {i : Nat} {S : List Nat} (hi : i ∈ S) (hw : Region.wanted o (yielded ops.toArray a.tmps) = true)
    (d s : Operand) (dT sT : TypeId) (ho : o.op = .call { callee := .builtin .copy, args := #[d, s], argTypes := #[dT, sT] }) (hu : Try.prog.underlying dT = some (.slice 5)) (base : Nat) (v : Value) (l : List Nat) (hv : Own w base v l) (off dLen dCap : Nat) (dp : Option Addr) (hd : a.eval d = .slice dp dLen dCap) (y : Value) (hs : a.eval s = y) (m : List Nat) (hy : Rd w y m) (hl : dLen = l.length - off) (k : Nat) (hk : k = min m.length dLen)
    (hdp : ∀ g, v.ownBlock = some g → 0 < k → dp = some ⟨g, off, none⟩)
    (h : ∀ w', Own w' base v (l.take off ++ m.take k ++ l.drop (off + k)) → w.grownBy w' v.ownBlock → I (r.set i (.int .i64 (k : Int))) w' ∧ (tbl.getD i .any).holds (r.set i (.int .i64 (k : Int))) (.int .i64 (k : Int))) :
    DoesK Try.prog ops Q o a w (fun v w' => I (if i ∈ S then r.set i v else r) w' ∧ (tbl.getD i .any).holds (if i ∈ S then r.set i v else r) v) := by
  refine doesZ_turn hi hw fun K hK => ?_
  obtain ⟨w', hrun, h2, h3⟩ := run_copy_own w dT sT o.type hu base v l hv off dLen dCap dp y m hy hl k hk hdp
  unfold Oper.wp
  simp only [execOp, ho, resolve, invoke, builtin, Sem.run_bind, Sem.run_pure, Result.andThen_ok, List.map_toArray, List.map_cons, List.map_nil, hd, hs, hrun]
  exact hK _ _ (h w' h2 h3).1 (h w' h2 h3).2
end Go.Proofs.Ytipdcocliefppaa
/- The program's device, its small functions: bytes laid, reached for, cloned; what is up; what stays: contracts. Own work. -/
namespace Go.Proofs.Ytipdcocliefppaa
open Go.ChangeShapes Go.WideShapes Go.ChangeAt Go.RowKit
open DM
theorem preach_any (base : Nat) (v : Value) (l : List Nat) (n : Nat) (w : World) (ho : Own w base v l) (hb : base ≤ w.heap.size) (hn : n ≤ 33554432) (hl : l.length ≤ 33554432) : Calls Try.prog 50 #[v, .int .i64 (n : Int)] w fun e w' =>
    ∃ v', e = .returned v' ∧ Own w' base v' (padTo l n) ∧ w.grownBy w' v.ownBlock ∧ (v'.ownBlock = v.ownBlock ∨ v'.ownBlock = some w.heap.size) := by
  obtain ⟨ao, cap, rfl, hcap⟩ := ho.rd.shape
  obtain ⟨c, hc⟩ : ∃ c, c = l.length := ⟨_, rfl⟩
  have HO := Lib.hid ho
  have HB := Lib.hid hb
  have HPL := Lib.hid (show padTo l n = l ++ List.replicate (n - c) 0 by rw [hc]; rfl)
  have hc2 : c ≤ 33554432 := by omega
  have HL := Lib.hid (show l.length + (n - c) ≤ 140737488355328 by omega)
  have HW := Lib.hid (show (if (n : Int) - (c : Int) < 0 then (0 : Int) else (n : Int) - (c : Int)) = ((n - c : Nat) : Int) by split <;> omega)
  rw [← hc] at hcap ho ⊢
  have HO2 := Lib.hid ho
  clear ho hc hl hcap hb HO
  go_enter Try.func50, Try.ntmps50
  go_wp2_with (at_builtin; refine wpList_app0 rfl (.tmp 5) (.tmp 10) rfl base (.slice ao c cap) l (n - c) rfl (congrArg (Value.int .i64) HW.out) HO2.out HL.out HB.out ?_; intro v1 w1 o1 g1 k1; rw [← HPL.out] at o1; have O1 := Lib.hid o1; have G1 := Lib.hid g1; have K1 := Lib.hid k1; clear o1 g1 k1)
  all_goals (go_ret; exact ⟨_, rfl, O1.out, G1.out, K1.out⟩)
/-- Bytes laid into a file, as the program does it. -/
def lay (s : List Nat) (a : Nat) (b : List Nat) : List Nat := (padTo s (a + b.length)).take a ++ b ++ (padTo s (a + b.length)).drop (a + b.length)
theorem lay_laid (s : List Nat) (a : Nat) (b : List Nat) (hb : b ≠ []) : lay s a b = laid s a b := by
  unfold lay laid
  rw [if_neg hb]
  unfold padTo
  have hbl : 0 < b.length := List.length_pos_iff.2 hb
  congr 1
  · congr 1
    apply List.ext_getElem?
    intro k
    simp only [List.getElem?_take]
    split
    · simp only [List.getElem?_append, List.getElem?_replicate]
      split
      · rfl
      · rw [if_pos (by omega), if_pos (by omega)]
    · rfl
  · rw [List.drop_append]
    have h1 : (List.replicate (a + b.length - s.length) 0).drop (a + b.length - s.length) = ([] : List Nat) := List.drop_eq_nil_of_le (by rw [List.length_replicate]; exact Nat.le_refl _)
    rw [h1, List.append_nil]
theorem lay_none (s : List Nat) (a : Nat) (ha : a ≤ s.length) : lay s a [] = s := by
  unfold lay padTo
  rw [show a + ([] : List Nat).length - s.length = 0 by simp; omega]
  simp
theorem lay_eq (s : List Nat) (a : Nat) (b : List Nat) (ha : a ≤ s.length) : lay s a b = laid s a b := by
  by_cases hb : b = []
  · subst hb; rw [lay_none s a ha, laid_nil]
  · exact lay_laid s a b hb
theorem lay_pad (s : List Nat) (a : Nat) (b : List Nat) (hb : b ≠ []) : lay (padTo s (a + b.length)) a b = laid s a b := by
  rw [← lay_laid s a b hb]
  unfold lay
  have : padTo (padTo s (a + b.length)) (a + b.length) = padTo s (a + b.length) := by
    have h := padTo_len s (a + b.length)
    show padTo s (a + b.length) ++ List.replicate (a + b.length - (padTo s (a + b.length)).length) 0 = _
    rw [h, show a + b.length - max s.length (a + b.length) = 0 by omega, List.replicate_zero, List.append_nil]
  rw [this]
theorem only_new {a b c : World} {row : Option Nat} (h : a.grownBy b row) (k : b.grownBy c (some a.heap.size)) : a.grownBy c row :=
  ⟨k.os.trans h.os, k.tape.trans h.tape, k.output.trans h.output, Nat.le_trans h.size k.size, fun i hi hne => (k.block i (Nat.lt_of_lt_of_le hi h.size) (fun e => by have := Option.some.inj e; omega)).trans (h.block i hi hne)⟩
theorem own_piece {w : World} {base fl cap : Nat} {ao : Option Addr} {F : List Nat} (h : Own w base (.slice ao fl cap) F) (n k : Nat) (hn : n + k ≤ cap) : ∀ g, (Value.slice ao fl cap).ownBlock = some g → 0 < k → (if cap = n then ao else ao.map (·.add n)) = some ⟨g, n, none⟩ := by
  intro g hg hk
  rw [if_neg (by omega)]
  rcases h.1.2 with ⟨e, _⟩ | ⟨g', cap', cur, e, _⟩
  · rw [e] at hg; cases hg
  · injection e with e1 _ _
    subst e1
    obtain rfl : g' = g := Option.some.inj hg
    show some ((⟨g', 0, none⟩ : Addr).add n) = _
    rw [Addr.add_lit, Nat.zero_add]
theorem play_any (base : Nat) (v : Value) (l : List Nat) (n : Nat) (y : Value) (m : List Nat) (w : World) (ho : Own w base v l) (hy : Rd w y m) (hne : 0 < m.length → ∀ g, y.ownBlock = some g → v.ownBlock ≠ some g) (hb : base ≤ w.heap.size) (hn : n ≤ 16777216) (hm : m.length ≤ 16777216) (hl : l.length ≤ 33554432) : Calls Try.prog 41 #[v, .int .i64 (n : Int), y] w fun e w' =>
    ∃ v', e = .returned v' ∧ Own w' base v' (lay l n m) ∧ w.grownBy w' v.ownBlock ∧ (v'.ownBlock = v.ownBlock ∨ v'.ownBlock = some w.heap.size) := by
  obtain ⟨ao, cap, rfl, hcap⟩ := hy.shape
  obtain ⟨c, hc⟩ : ∃ c, c = m.length := ⟨_, rfl⟩
  have hr := preach_any base v l (n + c) w ho hb (by omega) hl
  rw [show ((n + c : Nat) : Int) = (n : Int) + (c : Int) from rfl] at hr
  obtain ⟨F, hF⟩ : ∃ F, F = padTo l (n + c) := ⟨_, rfl⟩
  rw [← hF] at hr
  have HFL := Lib.hid (show n + c ≤ F.length by rw [hF, padTo_len]; omega)
  have HFM := Lib.hid (show F.length ≤ 33554432 by rw [hF, padTo_len]; omega)
  have HLAY := Lib.hid (show lay l n m = F.take n ++ m ++ F.drop (n + c) by rw [hF, hc]; rfl)
  have HC := Lib.hid hc
  rw [← hc] at hcap hy hm hne ⊢
  have HHY := Lib.hid hy
  have HNE := Lib.hid hne
  obtain ⟨vo, vcap, rfl, hvc⟩ := ho.rd.shape
  have HR := Lib.hid hr
  have HMT := Lib.hid (show m.take c = m by rw [hc]; exact List.take_length)
  clear hy hne ho hF hl hr hb hc hvc
  go_enter Try.func41, Try.ntmps41
  go_upto_region 2 with (go_at_call 50; (with_reducible refine HR.out.mono ?_); rintro e w1 ⟨v1, rfl, o1, g1, k1⟩; obtain ⟨ao1, cap1, rfl, hc1⟩ := o1.rd.shape; have O1 := Lib.hid o1; have G1 := Lib.hid g1; have K1 := Lib.hid k1; clear o1 g1 k1)
  have HHY1 := Lib.hid (HHY.out.turned G1.out (by rw [← HC.out]; exact fun h g hg => HNE.out h g hg))
  have hfl := HFL.out
  have hfm := HFM.out
  have HPC := Lib.hid (own_piece O1.out n c (by omega))
  have HKC := Lib.hid (show c = min m.length (F.length - n) by rw [← HC.out]; omega)
  obtain ⟨f, hf⟩ : ∃ f, f = F.length := ⟨_, rfl⟩
  have HFF := Lib.hid hf
  rw [← hf] at hc1 hfl hfm O1 HKC HPC ⊢
  rw [← hf] at K1
  clear hf
  by_cases hcn : cap1 = n
  · subst hcn
    go_wp2_with ((with_reducible show wpList _ _ _ _ _ _); refine wpList_copy_own rfl (.tmp 15) (.tmp 16) 33 33 rfl Try.underlying33 base (.slice ao1 f cap1) F O1.out cap1 0 0 _ rfl _ rfl m HHY1.out (by have := HFF.out; omega) c (by have := HKC.out; omega) (fun g hg hk => absurd hk (by omega)) ?_; intro w2 o2 g2; rw [HMT.out, ← HLAY.out] at o2; have O2 := Lib.hid o2; have G2 := Lib.hid g2; clear o2 g2)
    go_ret
    refine ⟨_, rfl, O2.out, ?_, K1.out⟩
    have g2 := G2.out
    rcases K1.out with q | q
    · rw [q] at g2; exact only_trans G1.out g2
    · rw [q] at g2; exact only_new G1.out g2
  · have HPD := Lib.hid (show ∀ g, (Value.slice ao1 f cap1).ownBlock = some g → 0 < c → ao1.map (fun x => x.add n) = some ⟨g, n, none⟩ from fun g hg hk => by have := HPC.out g hg hk; rw [if_neg hcn] at this; exact this)
    go_wp2_with ((with_reducible show wpList _ _ _ _ _ _); refine wpList_copy_own rfl (.tmp 15) (.tmp 16) 33 33 rfl Try.underlying33 base (.slice ao1 f cap1) F O1.out n (f - n) (cap1 - n) _ rfl _ rfl m HHY1.out (by rw [HFF.out]) c HKC.out HPD.out ?_; intro w2 o2 g2; rw [HMT.out, ← HLAY.out] at o2; have O2 := Lib.hid o2; have G2 := Lib.hid g2; clear o2 g2)
    go_ret
    refine ⟨_, rfl, O2.out, ?_, K1.out⟩
    have g2 := G2.out
    rcases K1.out with q | q
    · rw [q] at g2; exact only_trans G1.out g2
    · rw [q] at g2; exact only_new G1.out g2
/-- slices.Clone of bytes. -/
theorem pclone_any (v : Value) (l : List Nat) (w : World) (h : Rd w v l) : Calls Try.prog 37 #[v] w fun e w' =>
    ∃ y, e = .returned y ∧ Own w' w.heap.size y l ∧ Below w.heap.size w w' ∧ ∀ g, y.ownBlock = some g → w.heap.size ≤ g := by
  rcases h.form with ⟨rfl, rfl⟩ | ⟨ad, cap, rfl, hc, _⟩
  · have hq := Lib.run_eql_slice_nil (P := Try.prog) w 33 5 none 0 0 0 0 Try.underlying33
    go_enter Try.func37, Try.ntmps37
    go_wp2_with fail
    go_ret
    exact ⟨_, rfl, own_nil w, Below.refl _ _, fun g hg => by cases hg⟩
  · have HH := Lib.hid h
    have hf := h.fits
    have HF := Lib.hid (show ([] : List Nat).length + l.length ≤ 140737488355328 by simp; exact hf)
    have hq := Lib.run_eql_slice_nil (P := Try.prog) w 33 5 (some ad) l.length cap 0 0 Try.underlying33
    clear h hf
    go_enter Try.func37, Try.ntmps37
    go_wp2_with (at_builtin; refine wpList_app rfl (.tmp 5) (.tmp 6) rfl w.heap.size (.slice (some ⟨w.heap.size, 0, none⟩) 0 0) _ [] l rfl rfl (own_empty w rfl (Nat.le_refl _)) (HH.out.alloc _) HF.out (by simp) ?_; intro v1 w1 o1 g1 k1; rw [List.nil_append] at o1; have O1 := Lib.hid o1; have G1 := Lib.hid (((Below.refl w.heap.size w).alloc (Nat.le_refl _) (.cells #[] 5)).grown g1 (by simp) (fun k hk => ((own_empty w rfl (Nat.le_refl _)).from k hk).1)); clear o1 g1 k1)
    go_ret
    exact ⟨_, rfl, O1.out, G1.out, fun g hg => (O1.out.from g hg).1⟩
end Go.Proofs.Ytipdcocliefppaa
/- The program's device in memory; what it tells of itself: contracts. Own work. -/
namespace Go.Proofs.Ytipdcocliefppaa
open Go.ChangeShapes Go.WideShapes Go.ChangeAt Go.RowKit
open DM
theorem infoDev : (Try.prog.info? 58).map (·.size) = some 9 := by kernel_rfl
theorem zeroDev (w : World) : (zeroValue 58).run Try.prog w = .ok (.agg #[.int .i64 0, .slice none 0 0, .slice none 0 0, .slice none 0 0, .int .i64 0, .bool false, .bool false, .int .i64 0, .bool false]) w := by kernel_rfl
/-- The cells of a loose write. -/
def lwc (x : LW) : List Value := .int .i64 ((x.at_ / 512 : Nat) : Int) :: .int .i64 (x.bytes.length : Int) :: row8 (padTo x.bytes 512)
def lwcs (l : List LW) : List Value := (l.map lwc).flatten
/-- What a loose write is. -/
structure Wr (x : LW) : Prop where
  at_ : x.at_ % 512 = 0
  pos : 0 < x.bytes.length
  len : x.bytes.length ≤ 512
  size : x.size = x.at_ + x.bytes.length
theorem lwc_len {x : LW} (h : x.bytes.length ≤ 512) : (lwc x).length = 514 := by
  unfold lwc
  rw [List.length_cons, List.length_cons, row8_len, padTo_len]; omega
theorem lwcs_len {l : List LW} (h : ∀ x ∈ l, Wr x) : (lwcs l).length = l.length * 514 := by
  induction l with
  | nil => rfl
  | cons x r ih =>
    have e : lwcs (x :: r) = lwc x ++ lwcs r := by unfold lwcs; simp
    rw [e, List.length_append, lwc_len (h x (List.mem_cons_self ..)).len, ih (fun y hy => h y (List.mem_cons_of_mem _ hy)), List.length_cons]
    omega
theorem lwcs_app (l m : List LW) : lwcs (l ++ m) = lwcs l ++ lwcs m := by unfold lwcs; simp
theorem lwc_one (x : LW) : ∀ u ∈ lwc x, u.oneCell' = true := by
  intro u hu
  unfold lwc at hu
  rcases List.mem_cons.1 hu with rfl | hu
  · rfl
  rcases List.mem_cons.1 hu with rfl | hu
  · rfl
  exact row8_one' _ u hu
theorem lwcs_one (l : List LW) : ∀ u ∈ lwcs l, u.oneCell' = true := by
  intro u hu
  unfold lwcs at hu
  obtain ⟨c, hc, hu⟩ := List.mem_flatten.1 hu
  obtain ⟨x, _, rfl⟩ := List.mem_map.1 hc
  exact lwc_one x u hu
/-- The cells of a device. -/
def dvc (S : DS) (sv fv lv : Value) (t : Bool) : List Value := [.int .i64 (S.most : Int), sv, fv, lv, .int .i64 (S.steps : Int), .bool S.down, .bool t, .int .i64 (S.after : Int), .bool S.done]
/-- In block d lies a device that is as S says. -/
structure Mem (w : World) (d : Nat) (S : DS) (sv fv lv : Value) (t : Bool) : Prop where
  blk : Blk w d 58 (dvc S sv fv lv t)
  seen : Own w 0 sv S.seen
  safe : Own w 0 fv S.safe
  loose : w.ownsRow 0 70 514 lv S.loose.length (lwcs S.loose)
  tl : S.down = false → t = S.told
  ns : sv.ownBlock ≠ some d
  nf : fv.ownBlock ≠ some d
  nl : lv.ownBlock ≠ some d
  sf : ∀ g, sv.ownBlock = some g → fv.ownBlock ≠ some g
  sl : ∀ g, sv.ownBlock = some g → lv.ownBlock ≠ some g
  fl : ∀ g, fv.ownBlock = some g → lv.ownBlock ≠ some g
/-- The blocks that it writes. -/
def Blks (d : Nat) (sv fv lv : Value) (k : Nat) : Prop := k = d ∨ sv.ownBlock = some k ∨ fv.ownBlock = some k ∨ lv.ownBlock = some k
theorem Mem.lt {w : World} {d : Nat} {S : DS} {sv fv lv : Value} {t : Bool} (h : Mem w d S sv fv lv t) : ∀ k, Blks d sv fv lv k → k < w.heap.size := by
  rintro k (rfl | q | q | q)
  · exact h.blk.lt
  · exact (h.seen.from k q).2
  · exact (h.safe.from k q).2
  · exact (h.loose.lt k q).2
theorem Mem.keep {w w' : World} {d : Nat} {S : DS} {sv fv lv : Value} {t : Bool} (h : Mem w d S sv fv lv t) (hg : ∃ B A, Kept B A w w' ∧ ∀ k, Blks d sv fv lv k → k < B ∨ A k) : Mem w' d S sv fv lv t := by
  obtain ⟨B, A, hk, hA⟩ := hg
  refine ⟨h.blk.kept hk (hA d (.inl rfl)), own_kept h.seen hk (fun g q => hA g (.inr (.inl q))), own_kept h.safe hk (fun g q => hA g (.inr (.inr (.inl q)))), ?_, h.tl, h.ns, h.nf, h.nl, h.sf, h.sl, h.fl⟩
  refine ⟨h.loose.1, ?_⟩
  rcases h.loose.2 with q | ⟨g, cap, cur, e, hB, hh, rest⟩
  · exact .inl q
  · refine .inr ⟨g, cap, cur, e, hB, ?_, rest⟩
    have ho : lv.ownBlock = some g := by rw [e]; rfl
    rw [hk.block g (h.loose.lt g ho).2 (hA g (.inr (.inr (.inr ho))))]; exact hh
theorem Mem.below {w w' : World} {d : Nat} {S : DS} {sv fv lv : Value} {t : Bool} (h : Mem w d S sv fv lv t) (hb : Below w.heap.size w w') : Mem w' d S sv fv lv t :=
  h.keep ⟨w.heap.size, fun _ => False, Kept.of_below hb, fun k hk => .inl (h.lt k hk)⟩
/-- Another block turns. -/
theorem Mem.other {w w' : World} {d : Nat} {S : DS} {sv fv lv : Value} {t : Bool} {g : Nat} (h : Mem w d S sv fv lv t) (hb : w.grownBy w' (some g)) (hg : ¬ Blks d sv fv lv g) : Mem w' d S sv fv lv t :=
  h.keep ⟨0, Blks d sv fv lv, ⟨hb.os, hb.tape, hb.output, hb.size, fun k hk q => hb.block k hk (fun e => by
    obtain rfl := Option.some.inj e
    exact hg (q.resolve_left (by omega)))⟩, fun k hk => .inr hk⟩
/-- From w to w' nothing old has turned but in the blocks A; the blocks A' are of them, or new. -/
structure Move (w : World) (A : Nat → Prop) (w' : World) (A' : Nat → Prop) : Prop where
  turn : Turn A w w'
  into : ∀ k, A' k → A k ∨ w.heap.size ≤ k
theorem Move.refl (w : World) (A : Nat → Prop) : Move w A w A := ⟨Turn.refl _ _, fun _ h => .inl h⟩
theorem Move.trans {a b c : World} {A B C : Nat → Prop} (h : Move a A b B) (k : Move b B c C) : Move a A c C :=
  ⟨h.turn.trans k.turn h.into, fun i hi => (k.into i hi).elim (h.into i) (fun q => .inr (Nat.le_trans h.turn.size q))⟩
theorem Move.below {a b : World} {A : Nat → Prop} (h : Below a.heap.size a b) : Move a A b A := ⟨Turn.of_below h, fun _ h => .inl h⟩
/-- A field of the device has turned. -/
theorem Mem.field {w : World} {d : Nat} {S S' : DS} {sv fv lv : Value} {t t' : Bool} (h : Mem w d S sv fv lv t) (j : Nat) (u : Value) (he : (dvc S sv fv lv t).set j u = dvc S' sv fv lv t') (h1 : S'.seen = S.seen) (h2 : S'.safe = S.safe) (h3 : S'.loose = S.loose) (ht : S'.down = false → t' = S'.told) : Mem (w.setCell ⟨d, j, none⟩ u) d S' sv fv lv t' ∧ Move w (Blks d sv fv lv) (w.setCell ⟨d, j, none⟩ u) (Blks d sv fv lv) := by
  have hg : w.grownBy (w.setCell ⟨d, j, none⟩ u) (some d) := grownBy_cell w d j u
  have hne : ∀ {v : Value}, v.ownBlock ≠ some d → v.ownBlock = none ∨ v.ownBlock ≠ some d := fun h => .inr h
  refine ⟨⟨he ▸ h.blk.set j u, by rw [h1]; exact h.seen.keep hg (hne h.ns), by rw [h2]; exact h.safe.keep hg (hne h.nf), by rw [h3]; exact World.ownsRow.kept h.loose hg (hne h.nl), ht, h.ns, h.nf, h.nl, h.sf, h.sl, h.fl⟩, Turn.of_grown hg (.inl rfl), fun _ h => .inl h⟩
section
variable (w : World) (d : Nat) (S : DS) (sv fv lv : Value) (t : Bool) (h : Mem w d S sv fv lv t)
include h
theorem Mem.c0 : w.cell? ⟨d, 0, none⟩ = some (.int .i64 (S.most : Int)) := h.blk.cell 0 _ rfl
theorem Mem.c1 : w.cell? ⟨d, 1, none⟩ = some sv := h.blk.cell 1 _ rfl
theorem Mem.c2 : w.cell? ⟨d, 2, none⟩ = some fv := h.blk.cell 2 _ rfl
theorem Mem.c3 : w.cell? ⟨d, 3, none⟩ = some lv := h.blk.cell 3 _ rfl
theorem Mem.c4 : w.cell? ⟨d, 4, none⟩ = some (.int .i64 (S.steps : Int)) := h.blk.cell 4 _ rfl
theorem Mem.c5 : w.cell? ⟨d, 5, none⟩ = some (.bool S.down) := h.blk.cell 5 _ rfl
theorem Mem.c6 : w.cell? ⟨d, 6, none⟩ = some (.bool t) := h.blk.cell 6 _ rfl
theorem Mem.c7 : w.cell? ⟨d, 7, none⟩ = some (.int .i64 (S.after : Int)) := h.blk.cell 7 _ rfl
theorem Mem.c8 : w.cell? ⟨d, 8, none⟩ = some (.bool S.done) := h.blk.cell 8 _ rfl
theorem pdready_any : Calls Try.prog 42 #[.pointer (some ⟨d, 0, none⟩)] w fun e w' => e = .returned (.int .i64 (if S.down then 20 else 0)) ∧ w' = w := by
  have c5 := h.c5
  clear h
  cases hd : S.down with
  | true =>
    rw [hd] at c5
    go_enter Try.func42, Try.ntmps42
    go_wp2_with fail
    go_ret
    exact ⟨rfl, rfl⟩
  | false =>
    rw [hd] at c5
    go_enter Try.func42, Try.ntmps42
    go_wp2_with fail
    go_ret
    exact ⟨rfl, rfl⟩
theorem pdsize_any : Calls Try.prog 22 #[.pointer (some ⟨d, 0, none⟩)] w fun e w' => e = .returned (.int .i64 (S.seen.length : Int)) ∧ w' = w := by
  have c1 := h.c1
  obtain ⟨ao, cap, rfl, hc⟩ := h.seen.rd.shape
  clear h
  go_enter Try.func22, Try.ntmps22
  go_wp2_with fail
  go_ret
  exact ⟨rfl, rfl⟩
theorem pdmost_any : Calls Try.prog 23 #[.pointer (some ⟨d, 0, none⟩)] w fun e w' => e = .returned (.int .i64 (S.most : Int)) ∧ w' = w := by
  have c0 := h.c0
  clear h
  go_enter Try.func23, Try.ntmps23
  go_wp2_with fail
  go_ret
  exact ⟨rfl, rfl⟩
theorem pdsteps_any : Calls Try.prog 24 #[.pointer (some ⟨d, 0, none⟩)] w fun e w' => e = .returned (.int .i64 (S.steps : Int)) ∧ w' = w := by
  have c4 := h.c4
  clear h
  go_enter Try.func24, Try.ntmps24
  go_wp2_with fail
  go_ret
  exact ⟨rfl, rfl⟩
theorem pddown_any : Calls Try.prog 25 #[.pointer (some ⟨d, 0, none⟩)] w fun e w' => e = .returned (.bool S.down) ∧ w' = w := by
  have c5 := h.c5
  clear h
  go_enter Try.func25, Try.ntmps25
  go_wp2_with fail
  go_ret
  exact ⟨rfl, rfl⟩
theorem pdloose_any : Calls Try.prog 26 #[.pointer (some ⟨d, 0, none⟩)] w fun e w' => e = .returned (.int .i64 (S.loose.length : Int)) ∧ w' = w := by
  have c3 := h.c3
  obtain ⟨ao, cap, rfl, hc⟩ := (owned_rd h.loose).shape
  clear h
  go_enter Try.func26, Try.ntmps26
  go_wp2_with fail
  go_ret
  exact ⟨rfl, rfl⟩
theorem pdbytes_any : Calls Try.prog 28 #[.pointer (some ⟨d, 0, none⟩)] w fun e w' => ∃ y, e = .returned y ∧ Own w' w.heap.size y S.seen ∧ Below w.heap.size w w' := by
  have c1 := h.c1
  have HC := Lib.hid (pclone_any sv S.seen w h.seen.rd)
  obtain ⟨ao, cap, rfl, hc⟩ := h.seen.rd.shape
  clear h
  go_enter Try.func28, Try.ntmps28
  go_wp2_with (go_at_call 37; (with_reducible refine HC.out.mono ?_); rintro e w1 ⟨y, rfl, o1, b1, _⟩; have O1 := Lib.hid o1; have B1 := Lib.hid b1; clear o1 b1)
  go_ret
  exact ⟨_, rfl, O1.out, B1.out⟩
end
theorem dbytes_nil (w : World) : Calls Try.prog 28 #[.pointer none] w fun e w' => ∃ y, e = .returned y ∧ Rd w' y [] ∧ Below w.heap.size w w' := by
  go_enter Try.func28, Try.ntmps28
  go_wp2_with fail
  go_ret
  exact ⟨_, rfl, Rd.none_ _, Below.refl _ _⟩
theorem dready_nil (w : World) : Calls Try.prog 42 #[.pointer none] w fun e w' => e = .returned (.int .i64 1) ∧ w' = w := by
  go_enter Try.func42, Try.ntmps42
  go_wp2_with fail
  go_ret
  exact ⟨rfl, rfl⟩
theorem dsize_nil (w : World) : Calls Try.prog 22 #[.pointer none] w fun e w' => e = .returned (.int .i64 0) ∧ w' = w := by
  go_enter Try.func22, Try.ntmps22
  go_wp2_with fail
  go_ret
  exact ⟨rfl, rfl⟩
theorem dmost_nil (w : World) : Calls Try.prog 23 #[.pointer none] w fun e w' => e = .returned (.int .i64 0) ∧ w' = w := by
  go_enter Try.func23, Try.ntmps23
  go_wp2_with fail
  go_ret
  exact ⟨rfl, rfl⟩
theorem dsteps_nil (w : World) : Calls Try.prog 24 #[.pointer none] w fun e w' => e = .returned (.int .i64 0) ∧ w' = w := by
  go_enter Try.func24, Try.ntmps24
  go_wp2_with fail
  go_ret
  exact ⟨rfl, rfl⟩
theorem ddown_nil (w : World) : Calls Try.prog 25 #[.pointer none] w fun e w' => e = .returned (.bool false) ∧ w' = w := by
  go_enter Try.func25, Try.ntmps25
  go_wp2_with fail
  go_ret
  exact ⟨rfl, rfl⟩
theorem dloose_nil (w : World) : Calls Try.prog 26 #[.pointer none] w fun e w' => e = .returned (.int .i64 0) ∧ w' = w := by
  go_enter Try.func26, Try.ntmps26
  go_wp2_with fail
  go_ret
  exact ⟨rfl, rfl⟩
theorem dclone_nil (w : World) : Calls Try.prog 13 #[.pointer none] w fun e w' => e = .returned (.pointer none) ∧ w' = w := by
  go_enter Try.func13, Try.ntmps13
  go_wp2_with fail
  go_ret
  exact ⟨rfl, rfl⟩
theorem dstart_nil (v : Value) (w : World) : Calls Try.prog 15 #[.pointer none, v] w fun e w' => e = .returned (.tuple #[]) ∧ w' = w := by
  go_enter Try.func15, Try.ntmps15
  go_wp2_with fail
  exact bodyPost_ret (results_none rfl _ _ _) rfl ⟨rfl, rfl⟩
theorem dedit_nil (a : Int) (v : Value) (w : World) : Calls Try.prog 16 #[.pointer none, .int .i64 a, v] w fun e w' => e = .returned (.tuple #[]) ∧ w' = w := by
  go_enter Try.func16, Try.ntmps16
  go_wp2_with fail
  exact bodyPost_ret (results_none rfl _ _ _) rfl ⟨rfl, rfl⟩
theorem dload_nil (v : Value) (w : World) : Calls Try.prog 17 #[.pointer none, v] w fun e w' => e = .returned (.tuple #[]) ∧ w' = w := by
  go_enter Try.func17, Try.ntmps17
  go_wp2_with fail
  exact bodyPost_ret (results_none rfl _ _ _) rfl ⟨rfl, rfl⟩
theorem dfail_nil (a : Int) (x : Bool) (w : World) : Calls Try.prog 27 #[.pointer none, .int .i64 a, .bool x] w fun e w' => e = .returned (.int .i64 1) ∧ w' = w := by
  have HR := Lib.hid (dready_nil w)
  go_enter Try.func27, Try.ntmps27
  go_wp2_with (go_at_call 42; (with_reducible refine HR.out.mono ?_); rintro e w1 ⟨rfl, hq⟩; rw [hq]; clear hq w1)
  go_ret
  exact ⟨rfl, rfl⟩
theorem dsync_nil (w : World) : Calls Try.prog 20 #[.pointer none] w fun e w' => e = .returned (.int .i64 1) ∧ w' = w := by
  have HR := Lib.hid (dready_nil w)
  go_enter Try.func20, Try.ntmps20
  go_wp2_with (go_at_call 42; (with_reducible refine HR.out.mono ?_); rintro e w1 ⟨rfl, hq⟩; rw [hq]; clear hq w1)
  go_ret
  exact ⟨rfl, rfl⟩
theorem dbeat_nil (w : World) : Calls Try.prog 21 #[.pointer none] w fun e w' => e = .returned (.int .i64 1) ∧ w' = w := by
  have HR := Lib.hid (dready_nil w)
  go_enter Try.func21, Try.ntmps21
  go_wp2_with (go_at_call 42; (with_reducible refine HR.out.mono ?_); rintro e w1 ⟨rfl, hq⟩; rw [hq]; clear hq w1)
  go_ret
  exact ⟨rfl, rfl⟩
theorem dread_nil (a n : Int) (w : World) : Calls Try.prog 18 #[.pointer none, .int .i64 a, .int .i64 n] w fun e w' => ∃ y, e = .returned (.tuple #[y, .int .i64 1]) ∧ Rd w' y [] ∧ Below w.heap.size w w' := by
  have HR := Lib.hid (dready_nil w)
  go_enter Try.func18, Try.ntmps18
  go_wp2_with (go_at_call 42; (with_reducible refine HR.out.mono ?_); rintro e w1 ⟨rfl, hq⟩; rw [hq]; clear hq w1)
  go_ret2
  exact ⟨_, rfl, Rd.none_ _, Below.refl _ _⟩
theorem dwrite_nil (a : Int) (ao : Option Addr) (n c : Nat) (w : World) : Calls Try.prog 19 #[.pointer none, .int .i64 a, .slice ao n c] w fun e w' => e = .returned (.int .i64 1) ∧ Below w.heap.size w w' := by
  have HR := Lib.hid (fun W => dready_nil W)
  go_enter Try.func19, Try.ntmps19
  go_wp2_with (go_at_call 42; (with_reducible refine (HR.out _).mono ?_); rintro e w1 ⟨rfl, hq⟩; rw [hq]; clear hq w1)
  go_ret
  exact ⟨rfl, (((Below.refl _ _).alloc (Nat.le_refl _) _).alloc (by simp) _).alloc (by simp; omega) _⟩
end Go.Proofs.Ytipdcocliefppaa

/- Texts of 14 subjects in one file: PutX, RtM, RtEq, SlZ, NdDoc, SuEq, SuA, SpM, Turn, DevRB, DevGA, DevPC, DevGB, DevGC. Own work. -/
import Derived.Test.YtflnodkajhokhaaDoorMa5
import Derived.Test.YtflnodkajhokhaaDoorMa0
import Derived.Test.YtflnodkajhokhaaDoorMa2
import Derived.Lib.AppendZerosOnto
import Derived.Laws.CopyOwn
import Derived.Deep.SlicePairs
import Derived.Deep.RegionWith
import Derived.BigQuiet
import Derived.BigRegion
import Derived.LaidEqlPtr
import Derived.Test.YtflnodkajhokhaaDoorMa6
import Derived.Laws.Append
import Derived.Deep.AppendSrc
import Derived.Lib.SlBytesConst
import Derived.Deep.DeepCutAuto
import Derived.Test.YtflnodkajhokhaaDoorMa1
import Derived.Laws.BitsAllLaws
import Derived.RegionCalls
import Derived.Lib.SliceRun
section
namespace Go.Proofs.YtflnodkajhokhaaDoor
open Go.RowKit
theorem put16_any (n : Nat) (hn : n < 65536) (w : World) : Calls Tryd.prog 46 #[.int .u16 n] w fun e w' => ∃ v, e = .returned v /\ Own w' w.heap.size v (be n 2) /\ Below w.heap.size w w' := by
  go_enter Tryd.func46, Tryd.ntmps46
  go_wp2_with (go_at_call 59; refine (lay_any n 2 (by omega) (by omega) _).mono ?_; rintro e w1 ⟨v1, rfl, h1, h2⟩; have H1 := Lib.hid h1; have H2 := Lib.hid h2; clear h1 h2)
  go_ret
  exact ⟨_, rfl, H1.out, H2.out⟩
end Go.Proofs.YtflnodkajhokhaaDoor
namespace Go.Proofs.YtflnodkajhokhaaDoor
open Go.RowKit
def padTo (l : List Nat) (n : Nat) : List Nat := l ++ List.replicate (n - l.length) 0
theorem padTo_len (l : List Nat) (n : Nat) : (padTo l n).length = max l.length n := by unfold padTo; rw [List.length_append, List.length_replicate]; omega
theorem gb_zeros (n k : Nat) : gb (List.replicate n 0) k = 0 := by
  unfold gb; rw [List.getD_eq_getElem?_getD, List.getElem?_replicate]; split <;> rfl
theorem padTo_byte (l : List Nat) (n : Nat) (h : ∀ k, gb l k < 256) (k : Nat) : gb (padTo l n) k < 256 := gb_app l _ h (fun j => by rw [gb_zeros]; omega) k
theorem zeros_row (n : Nat) : row8 (List.replicate n 0) = List.replicate n (.int .u8 0) := by simp [row8]
theorem zeroCells_u8 (n : Nat) : (Builtin.zeroCells (Value.int .u8 0).cells n).toList = row8 (List.replicate n 0) := by
  rw [zeros_row]
  apply List.ext_getElem
  . simp [Builtin.zeroCells, Value.cells]
  . intro i h1 h2
    simp [Builtin.zeroCells, Value.cells, Nat.mod_one]
theorem run_app0 (w : World) (ty : TypeId) (base : Nat) (v : Value) (l : List Nat) (k : Nat) (ho : Own w base v l) (hn : l.length + k <= 140737488355328) (hb : base <= w.heap.size) :
    ∃ v' w', (Builtin.append_ #[25, 3] ty #[v, .int .i64 (k : Int)]).run Tryd.prog w = .ok v' w' /\ Own w' base v' (l ++ List.replicate k 0) /\ w.grownBy w' v.ownBlock /\ (v'.ownBlock = v.ownBlock \/ v'.ownBlock = some w.heap.size) := by
  obtain ⟨i0, hi, hz0, hz1, hz2⟩ := info_parts infoB
  have ht := Tryd.underlying25
  have htn := Tryd.underlying3
  have hby : ∀ j, gb (l ++ List.replicate k 0) j < 256 := gb_app _ _ ho.2.1 (fun j => by rw [gb_zeros]; omega)
  have hlen : (l ++ List.replicate k 0).length = l.length + k := by rw [List.length_append, List.length_replicate]
  have hw : IntKind.i64.wrap (k : Int) = k := by rw [IntKind.wrap_i64]; omega
  have hfit : (l ++ List.replicate k 0).length <= 140737488355328 := by rw [hlen]; exact hn
  by_cases hk : k = 0
  . subst hk
    refine ⟨v, w, ?_, by simpa using ho, World.grownBy.refl w _, .inl rfl⟩
    rcases ho.1.2 with ⟨rfl, q⟩ | ⟨g, cap, cur, rfl, _, hh, hc, _, hs, htk⟩
    . have hw0 : IntKind.i64.wrap 0 = 0 := by decide
      obtain rfl : l = [] := List.eq_nil_of_length_eq_zero q
      simp [Builtin.append_, run_underlying ht, run_underlying htn, sizeOf, typeInfo, hi, hz2, hw0, asInt, asIntOf]
    . have hw0 : IntKind.i64.wrap 0 = 0 := by decide
      simp [Builtin.append_, run_underlying ht, run_underlying htn, sizeOf, typeInfo, hi, hz2, hw0, asInt, asIntOf, hc, storeCells]
  . by_cases hroom : ∃ g cap cur, v = .slice (some ⟨g, 0, none⟩) l.length cap /\ base <= g /\ w.heap[g]? = some (.cells cur 5 (0, 0)) /\ l.length + k <= cap /\ cap <= maxLen /\ cur.size = cap * 1 /\ cur.toList.take (l.length * 1) = row8 l
    . obtain ⟨g, cap, cur, rfl, hbg, hh, hcap, hm, hs, htk⟩ := hroom
      simp only [Nat.mul_one] at hs htk
      have hst := run_storeCells_at Tryd.prog g l.length 5 (row8 (List.replicate k 0)) 0 cur w hh (by rw [row8_len, List.length_replicate]; omega) (row8_one' _)
      simp only [Nat.add_zero, row8_len, List.length_replicate] at hst
      have hne : ¬ ((k : Int) < 0) := by omega
      have h48 : ¬ (281474976710656 < (k : Int)) := by omega
      refine ⟨.slice (some ⟨g, 0, none⟩) (l.length + k) cap, w.setRow g (cur.toList.take l.length ++ row8 (List.replicate k 0) ++ cur.toList.drop (l.length + k)).toArray, ?_, ⟨⟨?_, .inr ⟨g, cap, _, ?_, hbg, setRow_heap w g cur _ _ _ hh, ?_, hm, ?_, ?_⟩⟩, hby, hfit⟩, ?_, .inl rfl⟩
      . have hzc : (Builtin.zeroCells #[Value.int .u8 0] k).toList = row8 (List.replicate k 0) := zeroCells_u8 k
        simp [Builtin.append_, run_underlying ht, run_underlying htn, sizeOf, typeInfo, zeroValue, hi, hz0, hz1, hz2, hw, asInt, asIntOf, hcap, hne, h48, hk, Addr.add_lit, Value.cells, hzc, hst]
      . rw [row8_len, Nat.mul_one]
      . rw [hlen]
      . rw [hlen]; exact hcap
      . simp only [List.size_toArray, List.length_append, List.length_take, List.length_drop, Array.length_toList, row8_len, List.length_replicate]
        omega
      . rw [hlen, Nat.mul_one, row8_app, htk]
        have e1 : (row8 l ++ row8 (List.replicate k 0)).length = l.length + k := by rw [List.length_append, row8_len, row8_len, List.length_replicate]
        simp only []
        rw [<- e1, List.take_left']
        rfl
      . exact ⟨rfl, rfl, rfl, by simp, fun i _ hne => setRow_other w g i _ (fun e => hne (by simp [Value.ownBlock, e]))⟩
    . -- a new array
      have key : ∀ (old : Nat) (b0 : Option Addr), v = .slice b0 l.length old -> old < l.length + k -> (Builtin.firstCells 1 l.length (.slice b0 l.length old)).run Tryd.prog w.drew = .ok (row8 l).toArray w.drew ->
          ∃ v' w', (Builtin.append_ #[25, 3] ty #[v, .int .i64 (k : Int)]).run Tryd.prog w = .ok v' w' /\ Own w' base v' (l ++ List.replicate k 0) /\ w.grownBy w' v.ownBlock /\ (v'.ownBlock = v.ownBlock \/ v'.ownBlock = some w.heap.size) := fun old b0 hv ho2 hf => by
        subst hv
        have hr := Lib.run_append_grow_zeros (P := Tryd.prog) w 25 3 ty 5 i0 (.int .u8 0) .i64 .i64 ht htn hi hz0 b0 l.length old (row8 l) (by rw [hz1]; exact hf) k (by omega) (by rw [hz1]; omega) ho2 (by omega) (by rw [hz2]; omega) (growslice_fits ho2 (by rw [hz2]; omega))
        have hge := grownCap_ge w (l.length + k) old 5
        have hcm : grownCap w (l.length + k) old 5 <= maxLen := grownCap_le_maxLen w (l.length + k) old 5 (by unfold maxLen; omega)
        refine ⟨_, _, hr, ⟨⟨?_, .inr ⟨w.heap.size, _, _, ?_, hb, heap_alloc_new w.drew _, ?_, hcm, ?_, ?_⟩⟩, hby, hfit⟩, ⟨rfl, rfl, rfl, by simp, fun i hi _ => heap_alloc_old w.drew _ hi⟩, .inr rfl⟩
        . rw [row8_len, Nat.mul_one]
        . rw [hlen]
        . rw [hlen]; exact hge
        . have e2 : (Value.int IntKind.u8 0).cells.size = 1 := rfl
          simp only [Array.size_append, List.size_toArray, size_zeroCells, row8_len, e2]
          omega
        . rw [hlen, Nat.mul_one, row8_app]
          simp only [Array.toList_append, zeroCells_u8]
          have e1 : (row8 l ++ row8 (List.replicate k 0)).length = l.length + k := by rw [List.length_append, row8_len, row8_len, List.length_replicate]
          rw [<- e1, List.take_left']
          rfl
      rcases ho.1.2 with ⟨hv, q⟩ | ⟨g, cap, cur, hv, hbg, hh, hc, hm, hs, htk⟩
      . obtain rfl : l = [] := List.eq_nil_of_length_eq_zero q
        exact key 0 none hv (by simp; omega) (by simp [Builtin.firstCells, row8])
      . refine key cap _ hv ?_ ?_
        . rcases Nat.lt_or_ge cap (l.length + k) with h | h
          . exact h
          . exact absurd ⟨g, cap, cur, hv, hbg, hh, h, hm, hs, htk⟩ hroom
        . have hrd := ho.1.cells (g := g) (by rw [hv]; rfl)
          exact run_firstCells_some (P := Tryd.prog) w.drew 1 l.length ⟨g, 0, none⟩ l.length cap (row8 l) (by rw [row8_len, Nat.mul_one]) hrd
theorem wpList_app0 {ops : Array Oper} {rest : List Oper} {o : Oper} {a : Act} {w : World} {Q : Exit -> Act -> World -> Prop} (hgd : o.guard = none) (s x : Operand) (ho : o.op = .call { callee := .builtin .append, args := #[s, x], argTypes := #[25, 3] })
    (base : Nat) (v : Value) (l : List Nat) (k : Nat) (hs : a.eval s = v) (hx : a.eval x = .int .i64 (k : Int)) (hv : Own w base v l) (hn : l.length + k <= 140737488355328) (hb : base <= w.heap.size)
    (h : ∀ v' w', Own w' base v' (l ++ List.replicate k 0) -> w.grownBy w' v.ownBlock -> (v'.ownBlock = v.ownBlock \/ v'.ownBlock = some w.heap.size) -> wpList Tryd.prog ops Q rest (a.put o.dst v') w') : wpList Tryd.prog ops Q (o :: rest) a w := by
  obtain ⟨v', w', hrun, h2, h3, h4⟩ := run_app0 w o.type base v l k hv hn hb
  refine wpList_plain hgd fun _ hK => ?_
  unfold Oper.wp
  simp only [execOp, ho, resolve, invoke, builtin, Sem.run_bind, Sem.run_pure, Result.andThen_ok, List.map_toArray, List.map_cons, List.map_nil, hs, hx, hrun]
  exact hK _ _ (h v' w' h2 h3 h4)
set_option maxRecDepth 100000 in
theorem run_copy_own (w : World) (dT sT ty : TypeId) (hu : Tryd.prog.underlying dT = some (.slice 5)) (base : Nat) (v : Value) (l : List Nat) (ho : Own w base v l) (off dLen dCap : Nat) (dp : Option Addr) (y : Value) (m : List Nat) (hy : Rd w y m) (hd : dLen = l.length - off) (k : Nat) (hk : k = min m.length dLen)
    (hdp : ∀ g, v.ownBlock = some g -> 0 < k -> dp = some ⟨g, off, none⟩) :
    ∃ w', (Builtin.copy_ #[dT, sT] ty #[.slice dp dLen dCap, y]).run Tryd.prog w = .ok (.int .i64 (k : Int)) w' /\ Own w' base v (l.take off ++ m.take k ++ l.drop (off + k)) /\ w.grownBy w' v.ownBlock := by
  by_cases h0 : k = 0
  . obtain ⟨ao, cap, rfl, _⟩ := hy.shape
    subst h0
    refine ⟨w, run_copy_none (P := Tryd.prog) w dT sT ty 5 dp ao dLen dCap m.length cap hu infoSize hk.symm, ?_, World.grownBy.refl w _⟩
    simpa using ho
  . rcases ho.1.2 with ⟨hv, q⟩ | ⟨g, cap, cur, hv, hbg, hh, hc, hm, hs, htk⟩
    . omega
    . simp only [Nat.mul_one] at hs htk
      subst hv
      have hblk : Blk w g 5 cur.toList := by unfold Blk; simpa using hh
      have hlk : off + k <= l.length := by omega
      obtain ⟨w', hr, hB, hg⟩ := run_copy_blk dT sT ty hu g off dLen dCap 5 cur.toList hblk dp y m hy k hk (hdp g rfl) (by rw [Array.length_toList]; omega)
      have hml : (m.take k).length = k := by rw [List.length_take]; omega
      have e1 : (l.take off ++ m.take k ++ l.drop (off + k)).length = l.length := by
        simp only [List.length_append, List.length_take, List.length_drop]; omega
      refine ⟨w', hr, ⟨⟨by rw [row8_len, Nat.mul_one], .inr ⟨g, cap, _, by rw [e1], hbg, hB, by rw [e1]; exact hc, hm, ?_, ?_⟩⟩, ?_, by rw [e1]; exact ho.2.2⟩, hg⟩
      . simp only [splice, List.size_toArray, List.length_append, List.length_take, List.length_drop, Array.length_toList, row8_len]
        omega
      . rw [e1, Nat.mul_one]
        have e2 : (row8 (m.take k)).length = k := by rw [row8_len]; exact hml
        unfold splice
        rw [e2, row8_app, row8_app]
        have q1 : cur.toList.take off = row8 (l.take off) := by
          have : (cur.toList.take l.length).take off = (row8 l).take off := by rw [htk]
          rw [List.take_take, Nat.min_eq_left (by omega)] at this
          rw [this]; unfold row8; rw [List.map_take]
        have q2 : (cur.toList.drop (off + k)).take (l.length - (off + k)) = row8 (l.drop (off + k)) := by
          have : (cur.toList.take l.length).drop (off + k) = (row8 l).drop (off + k) := by rw [htk]
          rw [List.drop_take] at this
          rw [this]; unfold row8; rw [List.map_drop]
        rw [q1]
        show List.take l.length (row8 (l.take off) ++ (row8 (m.take k) ++ cur.toList.drop (off + k))) = _
        rw [<- List.append_assoc, List.take_append, List.take_of_length_le (by rw [List.length_append, row8_len, e2, List.length_take]; omega)]
        congr 1
        have e3 : (row8 (l.take off) ++ row8 (m.take k)).length = off + k := by rw [List.length_append, row8_len, e2, List.length_take]; omega
        rw [e3]
        exact q2
      . have h1 := gb_take_byte l off ho.2.1
        have h2 := gb_take_byte m k hy.byte
        exact gb_app _ _ (gb_app _ _ h1 h2) (fun j => by rw [gb_drop]; exact ho.2.1 _)
theorem wpList_copy_own {ops : Array Oper} {rest : List Oper} {o : Oper} {a : Act} {w : World} {Q : Exit -> Act -> World -> Prop} (hgd : o.guard = none) (d s : Operand) (dT sT : TypeId) (ho : o.op = .call { callee := .builtin .copy, args := #[d, s], argTypes := #[dT, sT] }) (hu : Tryd.prog.underlying dT = some (.slice 5))
    (base : Nat) (v : Value) (l : List Nat) (hv : Own w base v l) (off dLen dCap : Nat) (dp : Option Addr) (hd : a.eval d = .slice dp dLen dCap) (y : Value) (hs : a.eval s = y) (m : List Nat) (hy : Rd w y m) (hl : dLen = l.length - off) (k : Nat) (hk : k = min m.length dLen)
    (hdp : ∀ g, v.ownBlock = some g -> 0 < k -> dp = some ⟨g, off, none⟩)
    (h : ∀ w', Own w' base v (l.take off ++ m.take k ++ l.drop (off + k)) -> w.grownBy w' v.ownBlock -> wpList Tryd.prog ops Q rest (a.put o.dst (.int .i64 (k : Int))) w') : wpList Tryd.prog ops Q (o :: rest) a w := by
  obtain ⟨w', hrun, h2, h3⟩ := run_copy_own w dT sT o.type hu base v l hv off dLen dCap dp y m hy hl k hk hdp
  refine wpList_plain hgd fun _ hK => ?_
  unfold Oper.wp
  simp only [execOp, ho, resolve, invoke, builtin, Sem.run_bind, Sem.run_pure, Result.andThen_ok, List.map_toArray, List.map_cons, List.map_nil, hd, hs, hrun]
  exact hK _ _ (h w' h2 h3)
theorem rd_empty {w w' : World} {y : Value} (h : Rd w y []) : Rd w' y [] := by
  refine ⟨h.byte, h.fits, ?_⟩
  rcases h.form with q | ⟨ad, cap, e, hc, _⟩
  . exact .inl q
  . exact .inr ⟨ad, cap, e, hc, fun j hj => absurd hj (by simp)⟩
theorem Rd.turned {w w' : World} {y : Value} {m : List Nat} {row : Option Nat} (h : Rd w y m) (hg : w.grownBy w' row) (hne : 0 < m.length -> ∀ g, y.ownBlock = some g -> row ≠ some g) : Rd w' y m := by
  rcases Nat.eq_zero_or_pos m.length with q | q
  . obtain rfl := List.eq_nil_of_length_eq_zero q
    exact rd_empty h
  . exact h.keep fun g hg' hlt => hg.block g hlt (fun e => hne q g hg' e.symm)
end Go.Proofs.YtflnodkajhokhaaDoor
namespace Go.Proofs.YtflnodkajhokhaaDoor
open Go.RowKit
theorem padTo_splice (l : List Nat) (n : Nat) : splice (row8 (List.replicate n 0)) 0 (row8 l) = row8 (padTo l n) := by
  unfold splice padTo
  rw [row8_app, List.take_zero, List.nil_append, Nat.zero_add, row8_len]
  congr 1
  rw [zeros_row, zeros_row, List.drop_replicate]
set_option maxRecDepth 100000 in
set_option maxHeartbeats 400000 in
theorem pad_ok (w : World) (v : Value) (l : List Nat) (n : Nat) (h : Rd w v l) (h1 : n <= 65536) (h2 : l.length <= n) : Calls Tryd.prog 36 #[v, .int .i64 n] w fun e w' => e = .returned (.tuple #[.slice (some ⟨w.heap.size, 0, none⟩) n n, .int .i64 0]) /\ Own w' w.heap.size (.slice (some ⟨w.heap.size, 0, none⟩) n n) (padTo l n) /\ Below w.heap.size w w' := by
  obtain ⟨ao, cap, rfl, hc⟩ := h.shape
  obtain ⟨i0, hi, hz0, hz1, hz2⟩ := info_parts infoB
  have HI := Lib.hid hi
  have HZ0 := Lib.hid hz0
  have HZ1 := Lib.hid hz1
  have HB2 := Lib.hid (show i0.bytes * n <= 281474976710656 by rw [hz2]; omega)
  have HB3 := Lib.hid (show n <= maxLen by unfold maxLen; omega)
  have H := Lib.hid h
  have hcs : ∀ W, Below w.heap.size w W -> 0 < (row8 l).length -> ∃ ad, ao = some ad /\ ∀ j u, (row8 l)[j]? = some u -> W.cell? (ad.add j) = some u := fun W hW hp => by
    rw [row8_len] at hp
    have hr := h.below hW
    rcases hr.form with ⟨_, q⟩ | ⟨ad, cap', e, _, hs⟩
    . subst q; simp at hp
    . injection e with e1 _ _
      refine ⟨ad, e1, fun j u hu => ?_⟩
      by_cases hj : j < l.length
      . rw [row8_val l j hj] at hu; rw [hs j hj, <- hu]
      . rw [List.getElem?_eq_none (by rw [row8_len]; omega)] at hu; cases hu
  have HCS := Lib.hid hcs
  have HN := Lib.hid (show (row8 l).length = Nat.min l.length n by rw [row8_len]; exact (Nat.min_eq_left h2).symm)
  have HF := Lib.hid (show 0 + (row8 l).length <= (row8 (List.replicate n 0)).length by rw [row8_len, row8_len, List.length_replicate]; omega)
  clear hi hz0 hz1 hz2 h hcs
  go_enter Tryd.func36, Tryd.ntmps36
  go_wp2_with (first
    | (refine wpList_make_full _ rfl (.tmp 19) (.tmp 19) 25 rfl w.heap.size 5 i0 (.int .u8 0) 1 Tryd.underlying25 HI.out HZ0.out HZ1.out .i64 .i64 _ _ n rfl rfl rfl rfl HB2.out HB3.out (Nat.le_refl _) ?_; intro w1 hown hg; have b1 : Blk w1 w.heap.size 5 (row8 (List.replicate n 0)) := (own_blk (l := List.replicate n 0) (by rw [zeros_row, <- toList_madeCells_one]; rw [Nat.mul_one] at hown; exact hown)); have B1 := Lib.hid b1; have G1 := Lib.hid (below_of_grown hg); clear hown hg b1)
    | ((with_reducible show wpList _ _ _ _ _ _); refine wpList_copy_splice rfl (.tmp 21) (.tmp 22) 25 25 rfl 5 Tryd.underlying25 infoSize (some ⟨w.heap.size, 0, none⟩) ao n n l.length cap rfl rfl w.heap.size 0 (row8 (List.replicate n 0)) 5 B1.out (row8 l) HN.out (fun hp => ⟨rfl, HCS.out _ G1.out hp⟩) HF.out (row8_one' l) w.heap.size w G1.out (Nat.le_refl _) ?_; intro w2 hh hb; have B2 := Lib.hid hh.out; have G2 := Lib.hid hb; clear hh hb))
  go_ret2
  refine ⟨rfl, ?_, G2.out⟩
  have hb2 := B2.out
  rw [padTo_splice] at hb2
  have hl : (padTo l n).length = n := by rw [padTo_len]; omega
  have hr := blk_own (base := w.heap.size) hb2 (Nat.le_refl _) (padTo_byte l n H.out.byte) (by rw [hl]; omega)
  rw [hl] at hr
  exact hr
end Go.Proofs.YtflnodkajhokhaaDoor
namespace Go.Proofs.YtflnodkajhokhaaDoor
open Go.ChangeShapes Go.WideShapes Go.ChangeAt Go.RowKit
theorem Own.cut0 {w : World} {base n cap : Nat} {ao : Option Addr} {l : List Nat} (h : Own w base (.slice ao n cap) l) : Own w base (.slice ao 0 cap) [] := by
  refine ⟨⟨rfl, ?_⟩, fun k => by rw [gb_nil]; decide, by decide⟩
  rcases h.1.2 with ⟨e, _⟩ | ⟨g, c, cur, e, hg, hh, hc, hm, hs, ht⟩
  . injection e with e1 _ e3
    subst e1; subst e3
    exact .inl ⟨rfl, rfl⟩
  . injection e with e1 _ e3
    subst e1; subst e3
    exact .inr ⟨g, _, cur, rfl, hg, hh, Nat.zero_le _, hm, hs, by simp [row8]⟩
set_option maxHeartbeats 400000 in
theorem grow_any (n : Nat) (hn : n <= 140737488355328) (w : World) : Calls Tryd.prog 68 #[.slice none 0 0, .int .i64 (n : Int)] w fun e w' => ∃ v, e = .returned v /\ Own w' w.heap.size v [] /\ Below w.heap.size w w' := by
  have hn0 : ¬ (n : Int) < 0 := by omega
  have aw : IntKind.i64.wrap (n : Int) = (n : Int) := by rw [IntKind.wrap_i64]; omega
  have O0 := Lib.hid (own_nil w)
  by_cases h0 : 0 < n
  . have h0' : (0 : Int) < (n : Int) := by omega
    go_enter Tryd.func68, Tryd.ntmps68
    go_wp2_with (refine wpList_app0 rfl (.tmp 20) (.tmp 21) rfl w.heap.size (.slice none 0 0) [] n rfl rfl O0.out (by simp; omega) (Nat.le_refl _) ?_; intro v1 w1 o1 g1 k1; rw [List.nil_append] at o1; obtain ⟨ao, cap, rfl, hcap⟩ := o1.rd.shape; obtain ⟨b, rfl⟩ := own_at o1 (by rw [List.length_replicate]; exact h0); rw [List.length_replicate] at o1 hcap ⊢; have O1 := Lib.hid o1.cut0; have W1 := Lib.hid (below_of_grown g1); clear o1 g1 k1)
    go_ret
    exact ⟨_, rfl, O1.out, W1.out⟩
  . obtain rfl : n = 0 := by omega
    go_enter Tryd.func68, Tryd.ntmps68
    go_wp2_with fail
    go_ret
    exact ⟨_, rfl, O0.out, Below.refl _ _⟩
theorem flat_take_lt (ls : List (List Nat)) (k : Nat) (hk : k < ls.length) : (ls.take k).flatten.length + ls[k].length <= ls.flatten.length := by
  rw [<- List.length_append, flat_take ls k hk]; exact flat_le ls _
set_option maxRecDepth 100000 in
set_option maxHeartbeats 1000000 in
theorem concat_any (ls : List (List Nat)) (hn : ls.flatten.length <= 140737488355328) (v : Value) (w : World) (hv : Rds w v ls) :
    Calls Tryd.prog 45 #[v] w fun e w' => ∃ v', e = .returned v' /\ Own w' w.heap.size v' ls.flatten /\ Below w.heap.size w w' := by
  obtain ⟨ao, cap, rfl, hcap⟩ := hv.shape
  have HV := Lib.hid hv
  have HFI := hv.fits
  have HTL := Lib.hid (flat_take_lt ls)
  obtain ⟨T, hT⟩ : ∃ T, T = ls.flatten.length := ⟨_, rfl⟩
  rw [<- hT] at HTL hn
  have HT := Lib.hid hT
  clear hv hT
  go_enter Tryd.func45, Tryd.ntmps45
  go_wp2_with fail
  go_loopw [3, 11] (fun s i wr => ∃ k : Nat, k <= ls.length /\ i = .int .i64 (k : Int) /\ s = .int .i64 ((ls.take k).flatten.length : Nat) /\ Below w.heap.size w wr) (fun _ i _ => ls.length - (intOf i).toNat)
  case atStart => exact ⟨0, Nat.zero_le _, rfl, rfl, Below.refl _ _⟩
  case round =>
    obtain ⟨k, hk, rfl, rfl, b0⟩ := hrel
    by_cases hlt : k < ls.length
    . obtain ⟨ad, x, rfl, hc, hr⟩ := (HV.out.below b0).at_ k hlt
      obtain ⟨xa, xc, rfl, _⟩ := hr.shape
      have hle := HTL.out k hlt
      obtain ⟨A, hA⟩ : ∃ A, A = (ls.take k).flatten.length := ⟨_, rfl⟩
      obtain ⟨m, hm⟩ : ∃ m, m = ls[k].length := ⟨_, rfl⟩
      rw [<- hA, <- hm] at hle
      rw [<- hm] at hc hr
      rw [<- hA]
      have HA := Lib.hid (show A + m = (ls.take (k + 1)).flatten.length by rw [<- flat_take ls k hlt, List.length_append, hA, hm])
      have aw : IntKind.i64.wrap ((A : Int) + (m : Int)) = ((A + m : Nat) : Int) := by rw [IntKind.wrap_i64]; omega
      have hs0 : ¬ ((A + m : Nat) : Int) < 0 := by omega
      have B0 := Lib.hid b0
      clear hA hm hr b0
      go_wp2_with fail
      exact ⟨⟨k + 1, by omega, by go_num, by rw [<- HA.out, Int.natCast_add], B0.out⟩, by simp [intOf]; omega⟩
    . obtain rfl : k = ls.length := by omega
      have HS := Lib.hid (show ((ls.take ls.length).flatten.length : Nat) = T by rw [List.take_length, HT.out])
      rw [HS.out]
      have B0 := Lib.hid b0
      have HG := Lib.hid (fun W => grow_any T hn W)
      clear b0
      go_wp2_with (go_at_call 68; (with_reducible refine (HG.out _).mono ?_); rintro e w2 ⟨v2, rfl, o2, b2⟩; have W2 := Lib.hid (B0.out.on b2); have O2 := Lib.hid (o2.lower B0.out.size); clear o2 b2)
      go_loopw [6, 27] (fun s i wr => ∃ k : Nat, k <= ls.length /\ i = .int .i64 (k : Int) /\ Own wr w.heap.size s (ls.take k).flatten /\ Below w.heap.size w wr) (fun _ i _ => ls.length - (intOf i).toNat)
      case atStart => exact ⟨0, Nat.zero_le _, rfl, O2.out, W2.out⟩
      case round =>
        clear O2 W2
        obtain ⟨k, hk, rfl, ho, b1⟩ := hrel
        have O := Lib.hid ho
        have B1 := Lib.hid b1
        by_cases hlt : k < ls.length
        . obtain ⟨ad, x, rfl, hc, hr⟩ := (HV.out.below b1).at_ k hlt
          have R := Lib.hid hr
          have hle := Lib.hid (show (ls.take k).flatten.length + ls[k].length <= 140737488355328 from Nat.le_trans (HTL.out k hlt) hn)
          have hfl := Lib.hid (flat_take ls k hlt)
          clear hr ho b1
          go_wp2_with (refine wpList_app rfl (.tmp 31) (.tmp 32) rfl w.heap.size _ _ (ls.take k).flatten ls[k] rfl rfl O.out R.out hle.out B1.out.size ?_; intro v3 w3 o3 g3 k3; rw [hfl.out] at o3; have O3 := Lib.hid o3; have W3 := Lib.hid (B1.out.grown g3 B1.out.size (fun g hg => (O.out.from g hg).1)); clear o3 g3 k3)
          exact ⟨⟨k + 1, by omega, by go_num, O3.out, W3.out⟩, by simp [intOf]; omega⟩
        . obtain rfl : k = ls.length := by omega
          clear ho b1
          go_wp2_with fail
          go_ret
          exact ⟨_, rfl, by have h := O.out; rw [List.take_length] at h; exact h, B1.out⟩
end Go.Proofs.YtflnodkajhokhaaDoor
end

section
namespace Go.Proofs.YtflnodkajhokhaaDoor
open Go.ChangeShapes Go.WideShapes Go.ChangeAt Go.RowKit
namespace RT
structure Pg where
  at_ : Nat
  sum : List Nat
def pc (p : Pg) : List Value := .int .u32 (p.at_ : Int) :: row8 p.sum
def pcs (ps : List Pg) : List Value := (ps.map pc).flatten
def Pok (p : Pg) : Prop := p.at_ < 4294967296 /\ Bytes 32 p.sum
theorem pc_len {p : Pg} (h : Pok p) : (pc p).length = 33 := by unfold pc; rw [List.length_cons, row8_len, h.2.1]
theorem pcs_len {ps : List Pg} (h : ∀ p ∈ ps, Pok p) : (pcs ps).length = ps.length * 33 := by
  unfold pcs
  induction ps with
  | nil => rfl
  | cons a r ih =>
    rw [List.map_cons, List.flatten_cons, List.length_append, pc_len (h a (by simp)), ih (fun p hp => h p (by simp [hp])), List.length_cons]
    omega
theorem pcs_one (p : Pg) : pcs [p] = pc p := by unfold pcs; simp
theorem pcs_get {ps : List Pg} (h : ∀ p ∈ ps, Pok p) {j : Nat} (hj : j < ps.length) {i : Nat} (hi : i < 33) : (pcs ps)[j * 33 + i]? = (pc ps[j])[i]? := by
  induction ps generalizing j with
  | nil => simp at hj
  | cons a r ih =>
    have ha := pc_len (h a (by simp))
    have e : pcs (a :: r) = pc a ++ pcs r := by unfold pcs; rw [List.map_cons, List.flatten_cons]
    rw [e]
    cases j with
    | zero =>
      rw [Nat.zero_mul, Nat.zero_add, List.getElem?_append_left (by omega)]
      rfl
    | succ j =>
      rw [List.getElem?_append_right (by omega), ha, show (j + 1) * 33 + i - 33 = j * 33 + i by omega]
      exact ih (fun p hp => h p (by simp [hp])) (by simpa using hj)
theorem pcs_one' (ps : List Pg) : ∀ u ∈ pcs ps, u.oneCell' = true := fun u hu => by
  unfold pcs at hu
  obtain ⟨l, hl, hul⟩ := List.mem_flatten.1 hu
  obtain ⟨p, _, rfl⟩ := List.mem_map.1 hl
  unfold pc at hul
  rcases List.mem_cons.1 hul with rfl | q
  . rfl
  . exact row8_one' _ u q
def one (p : Pg) : List Nat := be p.at_ 4 ++ p.sum
def ones (ps : List Pg) : List Nat := (ps.map one).flatten
theorem one_len {p : Pg} (h : Pok p) : (one p).length = 36 := by unfold one; rw [List.length_append, be_len, h.2.1]
theorem ones_len {ps : List Pg} (h : ∀ p ∈ ps, Pok p) : (ones ps).length = ps.length * 36 := by
  unfold ones
  induction ps with
  | nil => rfl
  | cons a r ih =>
    rw [List.map_cons, List.flatten_cons, List.length_append, one_len (h a (by simp)), ih (fun p hp => h p (by simp [hp])), List.length_cons]
    omega
theorem ones_app (ps qs : List Pg) : ones (ps ++ qs) = ones ps ++ ones qs := by unfold ones; rw [List.map_append, List.flatten_append]
theorem ones_take {ps : List Pg} {k : Nat} (hk : k < ps.length) : ones (ps.take (k + 1)) = ones (ps.take k) ++ one ps[k] := by
  rw [List.take_succ_eq_append_getElem hk, ones_app]
  congr 1
  unfold ones; simp
end RT
end Go.Proofs.YtflnodkajhokhaaDoor
end

section
namespace Go.Proofs.YtflnodkajhokhaaDoor
open Go.ChangeShapes Go.WideShapes Go.ChangeAt Go.RowKit
open RT
theorem infoRf : (Tryd.prog.info? 37).map (·.size) = some 33 := by kernel_rfl
theorem ex_load_part {P : Program} {o : Oper} {a : Act} {w : World} (ty : TypeId) (x : Operand) (ho : o.op = .load ty x) (b k : Nat) (hx : a.eval x = .pointer (some ⟨b, k, none⟩)) (cs : List Value) (d : TypeDesc) (hr : w.rangeAt b k cs) (hu : P.underlying ty = some d) (hd : d.isRow = true) (hi : (P.info? ty).map (·.size) = some cs.length) : (execOp a.eval o).run P w = .ok (.value (.agg cs.toArray)) w := by
  unfold execOp
  simp only [ho, hx, Instr.loadAt, Instr.sureAddr, Sem.run_bind, Sem.run_pure, Result.andThen_ok, run_loadVar_mid w b k _ _ _ hr hu hd hi]
end Go.Proofs.YtflnodkajhokhaaDoor
end

section
namespace Go.Proofs.YtflnodkajhokhaaDoor
open Go.ChangeShapes Go.WideShapes Go.ChangeAt Go.RowKit
section
variable {P : Program} {ops : List Oper} {Q : Exit -> Act -> World -> Prop} {o : Oper} {a : Act} {w : World} {I : Told -> World -> Prop} {tbl : List Fz} {r : Told} {i : Nat} {S : List Nat}
theorem doesZ_put (hi : i ∈ S) (hw : Region.wanted o (yielded ops.toArray a.tmps) = true) (ty : TypeId) (p x : Operand) (ho : o.op = .store ty p x) (b k : Nat) (cs : List Value) (hp : a.eval p = .pointer (some ⟨b, k, none⟩)) (hx : a.eval x = .agg cs.toArray) (t : TypeId) (cur : List Value) (hb : Blk w b t cur) (hk : k + cs.length <= cur.length)
    (hz : (P.info? ty).map (·.size) = some cs.length) (h1 : cs.toArray.all (·.oneCell') = true) (hT : tbl.getD i .any = .any) (hI : ∀ w', Blk w' b t (splice cur k cs) -> w.grownBy w' (some b) -> I (r.set i undef) w') :
    DoesK P ops Q o a w (fun v w' => I (if i ∈ S then r.set i v else r) w' /\ (tbl.getD i .any).holds (if i ∈ S then r.set i v else r) v) := by
  refine doesZ_turn hi hw fun K hK => ?_
  exact wp_store_mid ty p x ho b k cs.toArray hp hx (there_part hb k _ (by simpa using hk)) (by simpa using hz) h1 (hK _ _ (hI _ (setCells_mid b t cs k w cur hb hk) (only_setCells b cs k w (World.grownBy.refl w _))) (by rw [hT]; trivial))
theorem doesZ_ld (hi : i ∉ S) (hw : Region.wanted o (yielded ops.toArray a.tmps) = true) (ty : TypeId) (x : Operand) (ho : o.op = .load ty x) (c f : Nat) (hx : a.eval x = .pointer (some ⟨c, f, none⟩)) (cs : List Value) (hr : w.rangeAt c f cs) (d : TypeDesc) (hu : P.underlying ty = some d) (hd : d.isRow = true) (hn : (P.info? ty).map (·.size) = some cs.length) (hI : I r w) (hf : (tbl.getD i .any).holds r (.agg cs.toArray)) :
    DoesK P ops Q o a w (fun v w' => I (if i ∈ S then r.set i v else r) w' /\ (tbl.getD i .any).holds (if i ∈ S then r.set i v else r) v) := by
  simp only [if_neg hi]
  exact ⟨hw, fun K hK => wp_load_mid ty x ho c f hx cs d hr hu hd hn (hK _ _ ⟨hI, hf⟩)⟩
end
end Go.Proofs.YtflnodkajhokhaaDoor
end

section
namespace Go.Proofs.YtflnodkajhokhaaDoor
open Go.ChangeShapes Go.WideShapes Go.ChangeAt Go.RowKit
theorem rd_part {w : World} {b : Nat} {t : TypeId} {L : List Value} (h : Blk w b t L) {o n : Nat} {l : List Nat} (hl : Bytes n l) (he : (L.drop o).take n = row8 l) (hn : n <= 140737488355328) : Rd w (.slice (some ⟨b, o, none⟩) n n) l := by
  refine ⟨hl.2, by rw [hl.1]; exact hn, .inr ⟨_, n, by rw [hl.1], by rw [hl.1]; exact Nat.le_refl _, fun j hj => ?_⟩⟩
  rw [Addr.add_mid]
  refine h.cell (o + j) _ ?_
  have h1 := row8_val l j hj
  rw [<- he, List.getElem?_take, if_pos (by rw [<- hl.1]; exact hj), List.getElem?_drop] at h1
  exact h1
end Go.Proofs.YtflnodkajhokhaaDoor
namespace Go.Proofs.YtflnodkajhokhaaDoor
open Go.ChangeShapes Go.WideShapes Go.ChangeAt Go.RowKit
open RT
namespace ND
structure Nok (ns : List Pg) : Prop where
  len : ns.length = 8
  ok : ∀ p ∈ ns, Pok p
def zp : Pg := ⟨0, List.replicate 32 0⟩
theorem zp_ok : Pok zp := ⟨by decide, bytes_zero 32⟩
def zn : List Pg := List.replicate 8 zp
theorem zn_ok : Nok zn := ⟨by unfold zn; simp, fun p hp => by rw [List.eq_of_mem_replicate hp]; exact zp_ok⟩
theorem pcs_len8 {ns : List Pg} (h : Nok ns) : (pcs ns).length = 264 := by rw [pcs_len h.ok, h.len]
theorem ones_len8 {ns : List Pg} (h : Nok ns) : (ones ns).length = 288 := by rw [ones_len h.ok, h.len]
end ND
end Go.Proofs.YtflnodkajhokhaaDoor
namespace Go.Proofs.YtflnodkajhokhaaDoor
open Go.ChangeShapes Go.WideShapes Go.ChangeAt Go.RowKit
open SM
theorem zeroSmN (w : World) : (zeroValue 35).run Tryd.prog w = .ok (.agg (row8 (List.replicate 32 0)).toArray) w := by kernel_rfl
end Go.Proofs.YtflnodkajhokhaaDoor
end

section
namespace Go.Proofs.YtflnodkajhokhaaDoor
open Go.ChangeShapes Go.WideShapes Go.ChangeAt Go.RowKit
theorem fieldsGeo : ∃ f0 f1 : Field, (Tryd.prog.fieldsOf 33).toList = [f0, f1] /\ (f0.name ≠ "_" /\ f0.type = 3 /\ f0.offset = 0) /\ (f1.name ≠ "_" /\ f1.type = 3 /\ f1.offset = 1) := by
  simp only [Program.fieldsOf, Tryd.underlying33]
  exact ⟨_, _, rfl, ⟨by simp, rfl, rfl⟩, ⟨by simp, rfl, rfl⟩⟩
theorem equal_geo (w : World) (d : Nat) (C P X Y : Int) :
    (Op.equalIn (d + 3) 33 (.agg #[.int .i64 C, .int .i64 P]) (.agg #[.int .i64 X, .int .i64 Y])).run Tryd.prog w = .ok (decide (C = X /\ P = Y)) w := by
  have p0 : ∀ a b : Int, (part 3 [Value.int .i64 a, .int .i64 b].toArray 0).run Tryd.prog w = .ok (.int .i64 a) w := fun a b => part_cell w _ .i64 (.inr Tryd.underlying3) _ 0 _ rfl
  have p1 : ∀ a b : Int, (part 3 [Value.int .i64 a, .int .i64 b].toArray 1).run Tryd.prog w = .ok (.int .i64 b) w := fun a b => part_cell w _ .i64 (.inr Tryd.underlying3) _ 1 _ rfl
  have q : ∀ a b : Int, (Op.equalIn (d + 2) 3 (.int .i64 a) (.int .i64 b)).run Tryd.prog w = .ok (decide (a = b)) w := fun a b => run_equalIn_int (P := Tryd.prog) w (d + 1) 3 .i64 .i64 a b Tryd.underlying3
  rw [run_equalIn_agg w (d + 2) 33 _ _ (by kernel_rfl) (by kernel_rfl)]
  obtain ⟨f0, f1, hL, h0, h1⟩ := fieldsGeo
  rw [hL, eqFields_step w (d + 2) _ _ f0 _ _ _ h0 _ _ _ (p0 C P) (p0 X Y) (q C X), eqFields_step w (d + 2) _ _ f1 _ _ _ h1 _ _ _ (p1 C P) (p1 X Y) (q P Y)]
  simp only [Op.eqFields, Sem.run_pure]
  by_cases e0 : C = X <;> by_cases e1 : P = Y <;> simp [e0, e1]
theorem run_eql_geo (w : World) (C P X Y : Int) : (binOp .eql 33 (.agg #[.int .i64 C, .int .i64 P]) (.agg #[.int .i64 X, .int .i64 Y])).run Tryd.prog w = .ok (.bool (decide (C = X /\ P = Y))) w := by
  rw [run_eql_struct, equal_geo w 9997]; rfl
theorem eqTypeGeo : Tryd.prog.eqGuardType Tryd.prog.depth 33 = false := by kernel_rfl
theorem infoGeo : (Tryd.prog.info? 33).map (·.size) = some 2 := by kernel_rfl
theorem ex_geo {o : Oper} {a : Act} {w : World} {x : Operand} {b : Nat} {C P : Int} (ho : o.op = .load 33 x) (hx : a.eval x = .pointer (some ⟨b, 0, none⟩)) (h : Blk w b 33 [.int .i64 C, .int .i64 P]) : (execOp a.eval o).run Tryd.prog w = .ok (.value (.agg #[.int .i64 C, .int .i64 P])) w := by
  unfold execOp
  simp only [ho, hx, Instr.loadAt, Instr.sureAddr, Sem.run_bind, Sem.run_pure, Result.andThen_ok, run_loadVar_mid w b 0 _ _ _ h.range Tryd.underlying33 rfl infoGeo]
end Go.Proofs.YtflnodkajhokhaaDoor
end

section
namespace Go.Proofs.YtflnodkajhokhaaDoor
open Go.ChangeShapes Go.WideShapes Go.ChangeAt Go.RowKit
namespace SU
def may (C P : Int) : Bool := decide (1 <= C /\ C <= 64 /\ 1 <= P /\ P <= 2)
theorem may_iff {C P : Int} : may C P = true ↔ (1 <= C /\ C <= 64 /\ 1 <= P /\ P <= 2) := decide_eq_true_iff
def near (m C : Int) : Int := if C < 1 then 1 else if m < C then m else C
theorem near_may (C P : Int) : decide (C = near 64 C /\ P = near 2 P) = may C P := by
  unfold may near
  congr 1
  apply propext
  constructor
  . rintro ⟨h1, h2⟩; split at h1 <;> split at h2 <;> (try split at h1) <;> (try split at h2) <;> omega
  . rintro ⟨h1, h2, h3, h4⟩; rw [if_neg (by omega), if_neg (by omega), if_neg (by omega), if_neg (by omega)]; exact ⟨rfl, rfl⟩
def place (C P : Int) (n : Nat) : Int := if may C P = true /\ n <= 65535 then 4096 + n * (P * 512) else -1
end SU
open SU
theorem near_lt {m C : Int} (h : C < 1) : near m C = 1 := if_pos h
theorem near_gt {m C : Int} (h0 : 1 <= C) (h : m < C) : near m C = m := by unfold near; rw [if_neg (by omega), if_pos h]
theorem near_in {m C : Int} (h0 : 1 <= C) (h : C <= m) : near m C = C := by unfold near; rw [if_neg (by omega), if_neg (by omega)]
set_option maxHeartbeats 400000 in
theorem sunear_any (C P : Int) (w : World) : Calls Tryd.prog 67 #[.agg #[.int .i64 C, .int .i64 P]] w fun e w' => e = .returned (.agg #[.int .i64 (near 64 C), .int .i64 (near 2 P)]) /\ Below w.heap.size w w' := by
  go_enter Tryd.func67, Tryd.ntmps67
  go_wp2_with fail
  all_goals
    refine bodyPost_ret (results_mid rfl _ _ (w.heap.size + 1) [_, _] _ rfl (Blk.new _ _ _ _ (by simp)).range Tryd.underlying33 rfl infoGeo) rfl ?_
    refine ⟨?_, ((Below.refl _ _).alloc (Nat.le_refl _) _).alloc (by simp) _⟩
    first
      | rw [near_lt (by assumption), near_lt (by assumption)]
      | rw [near_lt (by assumption), near_gt (by assumption) (by assumption)]
      | rw [near_lt (by assumption), near_in (by assumption) (by assumption)]
      | rw [near_gt (by assumption) (by assumption), near_lt (by assumption)]
      | rw [near_gt (by assumption) (by assumption), near_gt (by assumption) (by assumption)]
      | rw [near_gt (by assumption) (by assumption), near_in (by assumption) (by assumption)]
      | rw [near_in (by assumption) (by assumption), near_lt (by assumption)]
      | rw [near_in (by assumption) (by assumption), near_gt (by assumption) (by assumption)]
      | rw [near_in (by assumption) (by assumption), near_in (by assumption) (by assumption)]
set_option maxHeartbeats 400000 in
theorem susize_any (C P : Int) (hP : 1 <= P /\ P <= 2) (w : World) : Calls Tryd.prog 58 #[.agg #[.int .i64 C, .int .i64 P]] w fun e w' => e = .returned (.int .i64 (P * 512)) /\ Below w.heap.size w w' := by
  have aw : IntKind.i64.wrap (P * 512) = P * 512 := by rw [IntKind.wrap_i64]; omega
  go_enter Tryd.func58, Tryd.ntmps58
  go_wp2_with fail
  go_ret
  exact ⟨rfl, (Below.refl _ _).alloc (Nat.le_refl _) _⟩
end Go.Proofs.YtflnodkajhokhaaDoor
end

section
namespace Go.Proofs.YtflnodkajhokhaaDoor
open RT XM AM
namespace SP
structure Sp where
  cl : Nat
  per : Nat
  one : List Nat
  two : List Nat
  tag : List Nat
structure Ok (s : Sp) : Prop where
  cl : 1 <= s.cl /\ s.cl <= 64
  per : 1 <= s.per /\ s.per <= 2
  one : Bytes 32 s.one
  two : Bytes 32 s.two
  tag : Bytes 32 s.tag
def size (s : Sp) : Nat := 512 * s.per
def place (s : Sp) (n : Nat) : Nat := 4096 + n * (s.per * 512)
def sect (s : Sp) (n : Nat) : Nat := 8 + n * s.per
theorem place_sect (s : Sp) (n : Nat) : place s n / 512 = sect s n := by
  unfold place sect
  rw [show 4096 + n * (s.per * 512) = 512 * (8 + n * s.per) by rw [Nat.mul_add, <- Nat.mul_assoc]; omega]
  exact Nat.mul_div_cancel_left _ (by decide)
theorem sect_lt {s : Sp} (h : Ok s) {n : Nat} (hn : n <= 65535) : sect s n < 2 ^ 64 := by
  unfold sect
  have h1 : n * s.per <= 65535 * 2 := Nat.mul_le_mul hn h.per.2
  omega
theorem place_le {s : Sp} (h : Ok s) {n : Nat} (hn : n <= 65535) : place s n <= 67112960 := by
  unfold place
  have h1 : n * (s.per * 512) <= 65535 * (2 * 512) := Nat.mul_le_mul hn (Nat.mul_le_mul_right _ h.per.2)
  omega
theorem su_place {s : Sp} (h : Ok s) {n : Nat} (hn : n <= 65535) : SU.place (s.cl : Int) (s.per : Int) n = (place s n : Int) := by
  unfold SU.place place
  have hc := h.cl
  have hp := h.per
  rw [if_pos ⟨SU.may_iff.2 (by omega), hn⟩]
  simp only [Int.natCast_add, Int.natCast_mul, Int.cast_ofNat_Int]
def told (e : Int) : Int := if e = 43 then 40 else e
def sealed (s : Sp) (n : Nat) (b : List Nat) : List Nat := xseal (keys s.one) (keys s.two) (sect s n) b
def opened (s : Sp) (n : Nat) (b : List Nat) : List Nat := xopen (keys s.one) (keys s.two) (sect s n) b
def leaf (s : Sp) (at_ : Nat) (b : List Nat) : List Nat := SM.mac s.tag ([108, 101, 97, 102] ++ be at_ 4 ++ b)
def nsum (b : List Nat) : List Nat := SM.sha ([110, 111, 100, 101] ++ b)
def psum (b : List Nat) : List Nat := SM.sha ([112, 97, 103, 101] ++ b)
def lay (s : Sp) (d : DM.DS) (n : Nat) (b : List Nat) : DM.DS × Int := ((DM.write d (place s n) b).1, told (DM.write d (place s n) b).2)
def put (s : Sp) (d : DM.DS) (n : Nat) (b sum : List Nat) : DM.DS × Pg × Int :=
  if 65535 < n then (d, ND.zp, 2)
  else if (lay s d n b).2 = 0 then ((lay s d n b).1, ⟨n + 1, sum⟩, 0) else ((lay s d n b).1, ND.zp, (lay s d n b).2)
def putData (s : Sp) (d : DM.DS) (n : Nat) (b : List Nat) : DM.DS × Pg × Int :=
  if 65535 < n \/ b.length ≠ size s then (d, ND.zp, 2) else put s d n (sealed s n b) (leaf s (n + 1) (sealed s n b))
def nodeBytes (s : Sp) (x : List Pg) : List Nat := padTo (ones x) (size s)
def putNode (s : Sp) (d : DM.DS) (n : Nat) (x : List Pg) : DM.DS × Pg × Int := put s d n (nodeBytes s x) (nsum (nodeBytes s x))
def putPage (s : Sp) (d : DM.DS) (n : Nat) (b : List Nat) : DM.DS × Pg × Int :=
  if size s < b.length then (d, ND.zp, 2) else put s d n (padTo b (size s)) (psum (padTo b (size s)))
def raw (s : Sp) (d : DM.DS) (r : Pg) : List Nat × Int :=
  if r.at_ = 0 \/ 65536 < r.at_ then ([], 2) else ((DM.read d (place s (r.at_ - 1)) (size s)).1, told (DM.read d (place s (r.at_ - 1)) (size s)).2)
def data (s : Sp) (d : DM.DS) (r : Pg) : List Nat × Int :=
  if (raw s d r).2 ≠ 0 then ([], (raw s d r).2)
  else if leaf s r.at_ (raw s d r).1 ≠ r.sum then ([], 40) else (opened s (r.at_ - 1) (raw s d r).1, 0)
theorem raw_at {s : Sp} {d : DM.DS} {r : Pg} (he : (raw s d r).2 = 0) : 1 <= r.at_ /\ r.at_ <= 65536 := by
  unfold raw at he
  by_cases c : r.at_ = 0 \/ 65536 < r.at_
  . rw [if_pos c] at he; cases he
  . omega
theorem raw_len {s : Sp} (_h : Ok s) {d : DM.DS} {r : Pg} (he : (raw s d r).2 = 0) : (raw s d r).1.length = size s := by
  unfold raw at he ⊢
  by_cases c : r.at_ = 0 \/ 65536 < r.at_
  . rw [if_pos c] at he; cases he
  . rw [if_neg c] at he ⊢
    simp only at he ⊢
    unfold DM.read at he ⊢
    split at he
    . exact absurd he (by decide)
    . rename_i h1
      rw [if_neg h1]
      split at he
      . exact absurd he (by decide)
      . rename_i h2
        rw [if_neg h2]
        simp only [List.length_take, List.length_drop]
        omega
end SP
end Go.Proofs.YtflnodkajhokhaaDoor
end

section
namespace Go.Proofs.YtflnodkajhokhaaDoor
open Go.ChangeShapes Go.WideShapes Go.ChangeAt Go.RowKit
structure Turn (F : Nat -> Prop) (w w' : World) : Prop where
  os : w'.os = w.os
  tape : w'.tape = w.tape
  output : w'.output = w.output
  size : w.heap.size <= w'.heap.size
  block : ∀ k, k < w.heap.size -> ¬ F k -> w'.heap[k]? = w.heap[k]?
theorem Turn.of_below {F : Nat -> Prop} {w w' : World} (h : Below w.heap.size w w') : Turn F w w' := ⟨h.os, h.tape, h.output, h.size, fun k hk _ => h.block k hk⟩
theorem Turn.of_grown {F : Nat -> Prop} {w w' : World} {g : Nat} (h : w.grownBy w' (some g)) (hF : F g) : Turn F w w' := ⟨h.os, h.tape, h.output, h.size, fun k hk hn => h.block k hk (fun e => hn (by rw [Option.some.inj e]; exact hF))⟩
theorem Turn.refl (F : Nat -> Prop) (w : World) : Turn F w w := Turn.of_below (Below.refl _ _)
theorem Turn.trans {F G : Nat -> Prop} {a b c : World} (h : Turn F a b) (k : Turn G b c) (hG : ∀ i, G i -> F i \/ a.heap.size <= i) : Turn F a c :=
  ⟨k.os.trans h.os, k.tape.trans h.tape, k.output.trans h.output, Nat.le_trans h.size k.size, fun i hi hn => (k.block i (Nat.lt_of_lt_of_le hi h.size) (fun g => (hG i g).elim hn (fun q => absurd hi (Nat.not_lt.2 q)))).trans (h.block i hi hn)⟩
structure Kept (B : Nat) (A : Nat -> Prop) (w w' : World) : Prop where
  os : w'.os = w.os
  tape : w'.tape = w.tape
  output : w'.output = w.output
  size : w.heap.size <= w'.heap.size
  block : ∀ k, k < w.heap.size -> k < B \/ A k -> w'.heap[k]? = w.heap[k]?
theorem Kept.of_below {B : Nat} {A : Nat -> Prop} {w w' : World} (h : Below w.heap.size w w') : Kept B A w w' := ⟨h.os, h.tape, h.output, h.size, fun k hk _ => h.block k hk⟩
theorem Kept.trans {B : Nat} {A : Nat -> Prop} {a b c : World} (h : Kept B A a b) (k : Kept B A b c) : Kept B A a c :=
  ⟨k.os.trans h.os, k.tape.trans h.tape, k.output.trans h.output, Nat.le_trans h.size k.size, fun i hi q => (k.block i (Nat.lt_of_lt_of_le hi h.size) q).trans (h.block i hi q)⟩
theorem Kept.below {B : Nat} {A : Nat -> Prop} {a w w' : World} (h : Kept B A w w') (hb : Below B a w) (hB : B <= w.heap.size) : Below B a w' :=
  ⟨h.os.trans hb.os, h.tape.trans hb.tape, h.output.trans hb.output, Nat.le_trans hb.size h.size, fun k hk => (h.block k (by omega) (.inl hk)).trans (hb.block k hk)⟩
theorem Rd.kept {B : Nat} {A : Nat -> Prop} {w w' : World} {v : Value} {l : List Nat} (h : Rd w v l) (k : Kept B A w w') (hne : ∀ g, v.ownBlock = some g -> g < B \/ A g) : Rd w' v l := h.keep fun g hg hl => k.block g hl (hne g hg)
theorem Blk.kept {B : Nat} {A : Nat -> Prop} {w w' : World} {b : Nat} {t : TypeId} {vs : List Value} (h : Blk w b t vs) (k : Kept B A w w') (hne : b < B \/ A b) : Blk w' b t vs := by
  unfold Blk; rw [k.block b h.lt hne]; exact h
theorem own_kept {B : Nat} {A : Nat -> Prop} {w w' : World} {base : Nat} {v : Value} {l : List Nat} (h : Own w base v l) (k : Kept B A w w') (hne : ∀ g, v.ownBlock = some g -> g < B \/ A g) : Own w' base v l := by
  refine ⟨?_, h.2⟩
  have ho := h.1
  refine ⟨ho.1, ?_⟩
  rcases ho.2 with q | ⟨g, cap, cur, e, hB, hh, rest⟩
  . exact .inl q
  . refine .inr ⟨g, cap, cur, e, hB, ?_, rest⟩
    have hlt : g < w.heap.size := (World.ownsRow.lt ho g (by rw [e]; rfl)).2
    rw [k.block g hlt (hne g (by rw [e]; rfl))]; exact hh
end Go.Proofs.YtflnodkajhokhaaDoor
end

section
namespace Go.Proofs.YtflnodkajhokhaaDoor
namespace DM
theorem many_le (a n : Nat) : many a n <= n / 512 + 2 := by unfold many; split <;> omega
theorem Ok.new (m : Int) : Ok (new m) := ⟨by show (max 0 (min m 16777216)).toNat <= 16777216; omega, Nat.zero_le _, Nat.zero_le _, fun k => by show gb [] k < 256; rw [gb_nil]; omega, fun k => by show gb [] k < 256; rw [gb_nil]; omega, fun x hx => by cases (show x ∈ ([] : List LW) from hx)⟩
theorem gb_take (l : List Nat) (n k : Nat) (h : ∀ k, gb l k < 256) : gb (l.take n) k < 256 := by
  unfold gb; rw [List.getD_eq_getElem?_getD, List.getElem?_take]
  split
  . have := h k; unfold gb at this; rwa [List.getD_eq_getElem?_getD] at this
  . simp
theorem gb_drop (l : List Nat) (n k : Nat) (h : ∀ k, gb l k < 256) : gb (l.drop n) k < 256 := by
  unfold gb; rw [List.getD_eq_getElem?_getD, List.getElem?_drop]
  have := h (n + k); unfold gb at this; rwa [List.getD_eq_getElem?_getD] at this
theorem many_pos {a n j : Nat} (h : j < many a n) : 0 < n /\ (a / 512 + j) * 512 < a + n := by
  unfold many at h
  by_cases hn : n = 0
  . rw [if_pos hn] at h; omega
  . rw [if_neg hn] at h; omega
theorem laid_to (s : List Nat) (a : Nat) (b : List Nat) (h : b.length ≠ 0) : a + b.length <= (laid s a b).length := by
  rw [laid_len s a b (fun e => h (by rw [e]; rfl))]; omega
theorem Ok.wrote {d : DS} (h : Ok d) (a : Nat) (b : List Nat) (hab : a + b.length <= d.most) (hb : ∀ k, gb b k < 256) : Ok (wrote d a b) := by
  have hl := laid_le d.seen a b d.most h.seen hab
  have hy := laid_byte d.seen a b h.bseen hb
  refine ⟨h.most, hl, h.safe, hy, h.bsafe, fun x hx => ?_⟩
  unfold DM.wrote at hx
  simp only [List.mem_append, List.mem_map, List.mem_range] at hx
  rcases hx with q | ⟨j, hj, rfl⟩
  . exact h.loose x q
  . obtain ⟨hn, hlt⟩ := many_pos hj
    have h2 := laid_to d.seen a b (by omega)
    refine ⟨fun k => gb_drop _ _ _ fun k => gb_take _ _ _ hy, ?_, ?_⟩
    . show (List.drop _ (List.take _ _)).length <= 512
      rw [List.length_drop, List.length_take]; omega
    . show (a / 512 + j) * 512 + (List.drop _ (List.take _ _)).length <= d.most
      rw [List.length_drop, List.length_take]; omega
theorem Ok.step {d x : DS} (h : Ok d) (k : Ok x) (_hm : x.most = d.most) : Ok (step d x).1 := by
  unfold DM.step
  split
  . exact ⟨k.most, k.seen, k.safe, k.bseen, k.bsafe, k.loose⟩
  . split
    . exact ⟨k.most, k.seen, k.safe, k.bseen, k.bsafe, k.loose⟩
    . show Ok { (if d.done then x else d) with steps := _, down := true, told := false }
      split
      . exact ⟨k.most, k.seen, k.safe, k.bseen, k.bsafe, k.loose⟩
      . exact ⟨h.most, h.seen, h.safe, h.bseen, h.bsafe, h.loose⟩
theorem Ok.write {d : DS} (h : Ok d) (a : Int) (b : List Nat) (hb : ∀ k, gb b k < 256) : Ok (write d a b).1 := by
  unfold DM.write
  split
  . exact h
  . split
    . exact h
    . split
      . exact h
      . exact h.step (h.wrote a.toNat b (by omega) hb) rfl
theorem Ok.load {d : DS} (h : Ok d) (b : List Nat) (hb : ∀ k, gb b k < 256) : Ok (load d b) := by
  unfold DM.load
  split
  . exact h
  . exact ⟨h.most, by show b.length <= d.most; omega, by show b.length <= d.most; omega, hb, hb, fun x hx => by simp at hx⟩
theorem step_steps (d x : DS) (h : x.steps = d.steps) : (step d x).1.steps = d.steps + 1 := by
  unfold DM.step
  split
  . show x.steps + 1 = _; rw [h]
  . split
    . show x.steps + 1 = _; rw [h]
    . rfl
theorem step_loose (d x : DS) (n : Nat) (h1 : d.loose.length <= n) (h2 : x.loose.length <= n) : (step d x).1.loose.length <= n := by
  unfold DM.step
  split
  . exact h2
  . split
    . exact h2
    . show ({ (if d.done then x else d) with steps := _, down := true, told := false } : DS).loose.length <= n
      split
      . exact h2
      . exact h1
theorem write_steps (d : DS) (a : Int) (b : List Nat) : (write d a b).1.steps <= d.steps + 1 := by
  unfold DM.write
  split
  . exact Nat.le_succ _
  . split
    . exact Nat.le_succ _
    . split
      . exact Nat.le_succ _
      . rw [step_steps d _ (by rfl)]; exact Nat.le_refl _
theorem write_loose (d : DS) (a : Int) (b : List Nat) : (write d a b).1.loose.length <= d.loose.length + (b.length / 512 + 2) := by
  unfold DM.write
  split
  . exact Nat.le_add_right _ _
  . split
    . exact Nat.le_add_right _ _
    . split
      . exact Nat.le_add_right _ _
      . refine step_loose d _ _ (Nat.le_add_right _ _) ?_
        show (d.loose ++ List.map _ _).length <= _
        rw [List.length_append, List.length_map, List.length_range]
        have := many_le a.toNat b.length
        omega
end DM
end Go.Proofs.YtflnodkajhokhaaDoor
end

section
namespace Go.Proofs.YtflnodkajhokhaaDoor
open Go.RowKit
theorem ex_cut_l {o : Oper} {a : Act} {w : World} {x y : Operand} {b n cap k : Nat} (ho : o.op = .slice 25 x (some y) none none) (hx : a.eval x = .slice (some ⟨b, 0, none⟩) n cap) (hy : a.eval y = .int .i64 (k : Int)) (hk : k <= n) (hc : k < cap) :
    (execOp a.eval o).run Tryd.prog w = .ok (.value (.slice (some ⟨b, k, none⟩) (n - k) (cap - k))) w := by
  have q : (k : Int) <= (n : Int) := by omega
  have q2 : cap ≠ k := by omega
  unfold execOp
  rw [ho]
  simp only [Option.map_some, Option.map_none, hx, hy]
  go_simp
end Go.Proofs.YtflnodkajhokhaaDoor
namespace Go.Proofs.YtflnodkajhokhaaDoor
open Go.ChangeShapes Go.WideShapes Go.ChangeAt Go.RowKit
open DM
theorem preach_any (base : Nat) (v : Value) (l : List Nat) (n : Nat) (w : World) (ho : Own w base v l) (hb : base <= w.heap.size) (hn : n <= 33554432) (hl : l.length <= 33554432) : Calls Tryd.prog 89 #[v, .int .i64 (n : Int)] w fun e w' =>
    ∃ v', e = .returned v' /\ Own w' base v' (padTo l n) /\ w.grownBy w' v.ownBlock /\ (v'.ownBlock = v.ownBlock \/ v'.ownBlock = some w.heap.size) := by
  obtain ⟨ao, cap, rfl, hcap⟩ := ho.rd.shape
  obtain ⟨c, hc⟩ : ∃ c, c = l.length := ⟨_, rfl⟩
  have HO := Lib.hid ho
  have HB := Lib.hid hb
  have HPL := Lib.hid (show padTo l n = l ++ List.replicate (n - c) 0 by rw [hc]; rfl)
  have hc2 : c <= 33554432 := by omega
  have HL := Lib.hid (show l.length + (n - c) <= 140737488355328 by omega)
  have HW := Lib.hid (show (if (n : Int) - (c : Int) < 0 then (0 : Int) else (n : Int) - (c : Int)) = ((n - c : Nat) : Int) by split <;> omega)
  rw [<- hc] at hcap ho ⊢
  have HO2 := Lib.hid ho
  clear ho hc hl hcap hb HO
  go_enter Tryd.func89, Tryd.ntmps89
  go_wp2_with (at_builtin; refine wpList_app0 rfl (.tmp 5) (.tmp 10) rfl base (.slice ao c cap) l (n - c) rfl (congrArg (Value.int .i64) HW.out) HO2.out HL.out HB.out ?_; intro v1 w1 o1 g1 k1; rw [<- HPL.out] at o1; have O1 := Lib.hid o1; have G1 := Lib.hid g1; have K1 := Lib.hid k1; clear o1 g1 k1)
  all_goals (go_ret; exact ⟨_, rfl, O1.out, G1.out, K1.out⟩)
def lay (s : List Nat) (a : Nat) (b : List Nat) : List Nat := (padTo s (a + b.length)).take a ++ b ++ (padTo s (a + b.length)).drop (a + b.length)
theorem lay_laid (s : List Nat) (a : Nat) (b : List Nat) (hb : b ≠ []) : lay s a b = laid s a b := by
  unfold lay laid
  rw [if_neg hb]
  unfold padTo
  have hbl : 0 < b.length := List.length_pos_iff.2 hb
  congr 1
  . congr 1
    apply List.ext_getElem?
    intro k
    simp only [List.getElem?_take]
    split
    . simp only [List.getElem?_append, List.getElem?_replicate]
      split
      . rfl
      . rw [if_pos (by omega), if_pos (by omega)]
    . rfl
  . rw [List.drop_append]
    have h1 : (List.replicate (a + b.length - s.length) 0).drop (a + b.length - s.length) = ([] : List Nat) := List.drop_eq_nil_of_le (by rw [List.length_replicate]; exact Nat.le_refl _)
    rw [h1, List.append_nil]
theorem lay_none (s : List Nat) (a : Nat) (ha : a <= s.length) : lay s a [] = s := by
  unfold lay padTo
  rw [show a + ([] : List Nat).length - s.length = 0 by simp; omega]
  simp
theorem lay_eq (s : List Nat) (a : Nat) (b : List Nat) (ha : a <= s.length) : lay s a b = laid s a b := by
  by_cases hb : b = []
  . subst hb; rw [lay_none s a ha, laid_nil]
  . exact lay_laid s a b hb
theorem only_new {a b c : World} {row : Option Nat} (h : a.grownBy b row) (k : b.grownBy c (some a.heap.size)) : a.grownBy c row :=
  ⟨k.os.trans h.os, k.tape.trans h.tape, k.output.trans h.output, Nat.le_trans h.size k.size, fun i hi hne => (k.block i (Nat.lt_of_lt_of_le hi h.size) (fun e => by have := Option.some.inj e; omega)).trans (h.block i hi hne)⟩
theorem own_piece {w : World} {base fl cap : Nat} {ao : Option Addr} {F : List Nat} (h : Own w base (.slice ao fl cap) F) (n k : Nat) (hn : n + k <= cap) : ∀ g, (Value.slice ao fl cap).ownBlock = some g -> 0 < k -> (if cap = n then ao else ao.map (·.add n)) = some ⟨g, n, none⟩ := by
  intro g hg hk
  rw [if_neg (by omega)]
  rcases h.1.2 with ⟨e, _⟩ | ⟨g', cap', cur, e, _⟩
  . rw [e] at hg; cases hg
  . injection e with e1 _ _
    subst e1
    obtain rfl : g' = g := Option.some.inj hg
    show some ((⟨g', 0, none⟩ : Addr).add n) = _
    rw [Addr.add_lit, Nat.zero_add]
theorem play_any (base : Nat) (v : Value) (l : List Nat) (n : Nat) (y : Value) (m : List Nat) (w : World) (ho : Own w base v l) (hy : Rd w y m) (hne : 0 < m.length -> ∀ g, y.ownBlock = some g -> v.ownBlock ≠ some g) (hb : base <= w.heap.size) (hn : n <= 16777216) (hm : m.length <= 16777216) (hl : l.length <= 33554432) : Calls Tryd.prog 75 #[v, .int .i64 (n : Int), y] w fun e w' =>
    ∃ v', e = .returned v' /\ Own w' base v' (lay l n m) /\ w.grownBy w' v.ownBlock /\ (v'.ownBlock = v.ownBlock \/ v'.ownBlock = some w.heap.size) := by
  obtain ⟨ao, cap, rfl, hcap⟩ := hy.shape
  obtain ⟨c, hc⟩ : ∃ c, c = m.length := ⟨_, rfl⟩
  have hr := preach_any base v l (n + c) w ho hb (by omega) hl
  rw [show ((n + c : Nat) : Int) = (n : Int) + (c : Int) from rfl] at hr
  obtain ⟨F, hF⟩ : ∃ F, F = padTo l (n + c) := ⟨_, rfl⟩
  rw [<- hF] at hr
  have HFL := Lib.hid (show n + c <= F.length by rw [hF, padTo_len]; omega)
  have HFM := Lib.hid (show F.length <= 33554432 by rw [hF, padTo_len]; omega)
  have HLAY := Lib.hid (show lay l n m = F.take n ++ m ++ F.drop (n + c) by rw [hF, hc]; rfl)
  have HC := Lib.hid hc
  rw [<- hc] at hcap hy hm hne ⊢
  have HHY := Lib.hid hy
  have HNE := Lib.hid hne
  obtain ⟨vo, vcap, rfl, hvc⟩ := ho.rd.shape
  have HR := Lib.hid hr
  have HMT := Lib.hid (show m.take c = m by rw [hc]; exact List.take_length)
  clear hy hne ho hF hl hr hb hc hvc
  go_enter Tryd.func75, Tryd.ntmps75
  go_upto_region 2 with (go_at_call 89; (with_reducible refine HR.out.mono ?_); rintro e w1 ⟨v1, rfl, o1, g1, k1⟩; obtain ⟨ao1, cap1, rfl, hc1⟩ := o1.rd.shape; have O1 := Lib.hid o1; have G1 := Lib.hid g1; have K1 := Lib.hid k1; clear o1 g1 k1)
  have HHY1 := Lib.hid (HHY.out.turned G1.out (by rw [<- HC.out]; exact fun h g hg => HNE.out h g hg))
  have hfl := HFL.out
  have hfm := HFM.out
  have HPC := Lib.hid (own_piece O1.out n c (by omega))
  have HKC := Lib.hid (show c = min m.length (F.length - n) by rw [<- HC.out]; omega)
  obtain ⟨f, hf⟩ : ∃ f, f = F.length := ⟨_, rfl⟩
  have HFF := Lib.hid hf
  rw [<- hf] at hc1 hfl hfm O1 HKC HPC ⊢
  rw [<- hf] at K1
  clear hf
  by_cases hcn : cap1 = n
  . subst hcn
    go_wp2_with ((with_reducible show wpList _ _ _ _ _ _); refine wpList_copy_own rfl (.tmp 15) (.tmp 16) 25 25 rfl Tryd.underlying25 base (.slice ao1 f cap1) F O1.out cap1 0 0 _ rfl _ rfl m HHY1.out (by have := HFF.out; omega) c (by have := HKC.out; omega) (fun g hg hk => absurd hk (by omega)) ?_; intro w2 o2 g2; rw [HMT.out, <- HLAY.out] at o2; have O2 := Lib.hid o2; have G2 := Lib.hid g2; clear o2 g2)
    go_ret
    refine ⟨_, rfl, O2.out, ?_, K1.out⟩
    have g2 := G2.out
    rcases K1.out with q | q
    . rw [q] at g2; exact only_trans G1.out g2
    . rw [q] at g2; exact only_new G1.out g2
  . have HPD := Lib.hid (show ∀ g, (Value.slice ao1 f cap1).ownBlock = some g -> 0 < c -> ao1.map (fun x => x.add n) = some ⟨g, n, none⟩ from fun g hg hk => by have := HPC.out g hg hk; rw [if_neg hcn] at this; exact this)
    go_wp2_with ((with_reducible show wpList _ _ _ _ _ _); refine wpList_copy_own rfl (.tmp 15) (.tmp 16) 25 25 rfl Tryd.underlying25 base (.slice ao1 f cap1) F O1.out n (f - n) (cap1 - n) _ rfl _ rfl m HHY1.out (by rw [HFF.out]) c HKC.out HPD.out ?_; intro w2 o2 g2; rw [HMT.out, <- HLAY.out] at o2; have O2 := Lib.hid o2; have G2 := Lib.hid g2; clear o2 g2)
    go_ret
    refine ⟨_, rfl, O2.out, ?_, K1.out⟩
    have g2 := G2.out
    rcases K1.out with q | q
    . rw [q] at g2; exact only_trans G1.out g2
    . rw [q] at g2; exact only_new G1.out g2
theorem pclone_any (v : Value) (l : List Nat) (w : World) (h : Rd w v l) : Calls Tryd.prog 13 #[v] w fun e w' =>
    ∃ y, e = .returned y /\ Own w' w.heap.size y l /\ Below w.heap.size w w' /\ ∀ g, y.ownBlock = some g -> w.heap.size <= g := by
  rcases h.form with ⟨rfl, rfl⟩ | ⟨ad, cap, rfl, hc, _⟩
  . have hq := Lib.run_eql_slice_nil (P := Tryd.prog) w 25 5 none 0 0 0 0 Tryd.underlying25
    go_enter Tryd.func13, Tryd.ntmps13
    go_wp2_with fail
    go_ret
    exact ⟨_, rfl, own_nil w, Below.refl _ _, fun g hg => by cases hg⟩
  . have HH := Lib.hid h
    have hf := h.fits
    have HF := Lib.hid (show ([] : List Nat).length + l.length <= 140737488355328 by simp; exact hf)
    have hq := Lib.run_eql_slice_nil (P := Tryd.prog) w 25 5 (some ad) l.length cap 0 0 Tryd.underlying25
    clear h hf
    go_enter Tryd.func13, Tryd.ntmps13
    go_wp2_with (at_builtin; refine wpList_app rfl (.tmp 5) (.tmp 6) rfl w.heap.size (.slice (some ⟨w.heap.size, 0, none⟩) 0 0) _ [] l rfl rfl (own_empty w rfl (Nat.le_refl _)) (HH.out.alloc _) HF.out (by simp) ?_; intro v1 w1 o1 g1 k1; rw [List.nil_append] at o1; have O1 := Lib.hid o1; have G1 := Lib.hid (((Below.refl w.heap.size w).alloc (Nat.le_refl _) (.cells #[] 5)).grown g1 (by simp) (fun k hk => ((own_empty w rfl (Nat.le_refl _)).from k hk).1)); clear o1 g1 k1)
    go_ret
    exact ⟨_, rfl, O1.out, G1.out, fun g hg => (O1.out.from g hg).1⟩
end Go.Proofs.YtflnodkajhokhaaDoor
namespace Go.Proofs.YtflnodkajhokhaaDoor
open Go.ChangeShapes Go.WideShapes Go.ChangeAt Go.RowKit
open DM
def lwc (x : LW) : List Value := .int .i64 ((x.at_ / 512 : Nat) : Int) :: .int .i64 (x.bytes.length : Int) :: row8 (padTo x.bytes 512)
def lwcs (l : List LW) : List Value := (l.map lwc).flatten
structure Wr (x : LW) : Prop where
  at_ : x.at_ % 512 = 0
  pos : 0 < x.bytes.length
  len : x.bytes.length <= 512
  size : x.size = x.at_ + x.bytes.length
theorem lwc_len {x : LW} (h : x.bytes.length <= 512) : (lwc x).length = 514 := by
  unfold lwc
  rw [List.length_cons, List.length_cons, row8_len, padTo_len]; omega
theorem lwcs_app (l m : List LW) : lwcs (l ++ m) = lwcs l ++ lwcs m := by unfold lwcs; simp
theorem lwc_one (x : LW) : ∀ u ∈ lwc x, u.oneCell' = true := by
  intro u hu
  unfold lwc at hu
  rcases List.mem_cons.1 hu with rfl | hu
  . rfl
  rcases List.mem_cons.1 hu with rfl | hu
  . rfl
  exact row8_one' _ u hu
def dvc (S : DS) (sv fv lv : Value) (t : Bool) : List Value := [.int .i64 (S.most : Int), sv, fv, lv, .int .i64 (S.steps : Int), .bool S.down, .bool t, .int .i64 (S.after : Int), .bool S.done]
structure Mem (w : World) (d : Nat) (S : DS) (sv fv lv : Value) (t : Bool) : Prop where
  blk : Blk w d 52 (dvc S sv fv lv t)
  seen : Own w 0 sv S.seen
  safe : Own w 0 fv S.safe
  loose : w.ownsRow 0 135 514 lv S.loose.length (lwcs S.loose)
  tl : S.down = false -> t = S.told
  ns : sv.ownBlock ≠ some d
  nf : fv.ownBlock ≠ some d
  nl : lv.ownBlock ≠ some d
  sf : ∀ g, sv.ownBlock = some g -> fv.ownBlock ≠ some g
  sl : ∀ g, sv.ownBlock = some g -> lv.ownBlock ≠ some g
  fl : ∀ g, fv.ownBlock = some g -> lv.ownBlock ≠ some g
def Blks (d : Nat) (sv fv lv : Value) (k : Nat) : Prop := k = d \/ sv.ownBlock = some k \/ fv.ownBlock = some k \/ lv.ownBlock = some k
theorem Mem.lt {w : World} {d : Nat} {S : DS} {sv fv lv : Value} {t : Bool} (h : Mem w d S sv fv lv t) : ∀ k, Blks d sv fv lv k -> k < w.heap.size := by
  rintro k (rfl | q | q | q)
  . exact h.blk.lt
  . exact (h.seen.from k q).2
  . exact (h.safe.from k q).2
  . exact (h.loose.lt k q).2
theorem Mem.keep {w w' : World} {d : Nat} {S : DS} {sv fv lv : Value} {t : Bool} (h : Mem w d S sv fv lv t) (hg : ∃ B A, Kept B A w w' /\ ∀ k, Blks d sv fv lv k -> k < B \/ A k) : Mem w' d S sv fv lv t := by
  obtain ⟨B, A, hk, hA⟩ := hg
  refine ⟨h.blk.kept hk (hA d (.inl rfl)), own_kept h.seen hk (fun g q => hA g (.inr (.inl q))), own_kept h.safe hk (fun g q => hA g (.inr (.inr (.inl q)))), ?_, h.tl, h.ns, h.nf, h.nl, h.sf, h.sl, h.fl⟩
  refine ⟨h.loose.1, ?_⟩
  rcases h.loose.2 with q | ⟨g, cap, cur, e, hB, hh, rest⟩
  . exact .inl q
  . refine .inr ⟨g, cap, cur, e, hB, ?_, rest⟩
    have ho : lv.ownBlock = some g := by rw [e]; rfl
    rw [hk.block g (h.loose.lt g ho).2 (hA g (.inr (.inr (.inr ho))))]; exact hh
theorem Mem.below {w w' : World} {d : Nat} {S : DS} {sv fv lv : Value} {t : Bool} (h : Mem w d S sv fv lv t) (hb : Below w.heap.size w w') : Mem w' d S sv fv lv t :=
  h.keep ⟨w.heap.size, fun _ => False, Kept.of_below hb, fun k hk => .inl (h.lt k hk)⟩
structure Move (w : World) (A : Nat -> Prop) (w' : World) (A' : Nat -> Prop) : Prop where
  turn : Turn A w w'
  into : ∀ k, A' k -> A k \/ w.heap.size <= k
theorem Move.refl (w : World) (A : Nat -> Prop) : Move w A w A := ⟨Turn.refl _ _, fun _ h => .inl h⟩
theorem Move.trans {a b c : World} {A B C : Nat -> Prop} (h : Move a A b B) (k : Move b B c C) : Move a A c C :=
  ⟨h.turn.trans k.turn h.into, fun i hi => (k.into i hi).elim (h.into i) (fun q => .inr (Nat.le_trans h.turn.size q))⟩
theorem Move.below {a b : World} {A : Nat -> Prop} (h : Below a.heap.size a b) : Move a A b A := ⟨Turn.of_below h, fun _ h => .inl h⟩
theorem Mem.field {w : World} {d : Nat} {S S' : DS} {sv fv lv : Value} {t t' : Bool} (h : Mem w d S sv fv lv t) (j : Nat) (u : Value) (he : (dvc S sv fv lv t).set j u = dvc S' sv fv lv t') (h1 : S'.seen = S.seen) (h2 : S'.safe = S.safe) (h3 : S'.loose = S.loose) (ht : S'.down = false -> t' = S'.told) : Mem (w.setCell ⟨d, j, none⟩ u) d S' sv fv lv t' /\ Move w (Blks d sv fv lv) (w.setCell ⟨d, j, none⟩ u) (Blks d sv fv lv) := by
  have hg : w.grownBy (w.setCell ⟨d, j, none⟩ u) (some d) := grownBy_cell w d j u
  have hne : ∀ {v : Value}, v.ownBlock ≠ some d -> v.ownBlock = none \/ v.ownBlock ≠ some d := fun h => .inr h
  refine ⟨⟨he ▸ h.blk.set j u, by rw [h1]; exact h.seen.keep hg (hne h.ns), by rw [h2]; exact h.safe.keep hg (hne h.nf), by rw [h3]; exact World.ownsRow.kept h.loose hg (hne h.nl), ht, h.ns, h.nf, h.nl, h.sf, h.sl, h.fl⟩, Turn.of_grown hg (.inl rfl), fun _ h => .inl h⟩
section
variable (w : World) (d : Nat) (S : DS) (sv fv lv : Value) (t : Bool) (h : Mem w d S sv fv lv t)
include h
theorem Mem.c0 : w.cell? ⟨d, 0, none⟩ = some (.int .i64 (S.most : Int)) := h.blk.cell 0 _ rfl
theorem Mem.c1 : w.cell? ⟨d, 1, none⟩ = some sv := h.blk.cell 1 _ rfl
theorem Mem.c3 : w.cell? ⟨d, 3, none⟩ = some lv := h.blk.cell 3 _ rfl
theorem Mem.c4 : w.cell? ⟨d, 4, none⟩ = some (.int .i64 (S.steps : Int)) := h.blk.cell 4 _ rfl
theorem Mem.c5 : w.cell? ⟨d, 5, none⟩ = some (.bool S.down) := h.blk.cell 5 _ rfl
theorem Mem.c6 : w.cell? ⟨d, 6, none⟩ = some (.bool t) := h.blk.cell 6 _ rfl
theorem Mem.c7 : w.cell? ⟨d, 7, none⟩ = some (.int .i64 (S.after : Int)) := h.blk.cell 7 _ rfl
theorem Mem.c8 : w.cell? ⟨d, 8, none⟩ = some (.bool S.done) := h.blk.cell 8 _ rfl
theorem pdready_any : Calls Tryd.prog 54 #[.pointer (some ⟨d, 0, none⟩)] w fun e w' => e = .returned (.int .i64 (if S.down then 20 else 0)) /\ w' = w := by
  have c5 := h.c5
  clear h
  cases hd : S.down with
  | true =>
    rw [hd] at c5
    go_enter Tryd.func54, Tryd.ntmps54
    go_wp2_with fail
    go_ret
    exact ⟨rfl, rfl⟩
  | false =>
    rw [hd] at c5
    go_enter Tryd.func54, Tryd.ntmps54
    go_wp2_with fail
    go_ret
    exact ⟨rfl, rfl⟩
theorem pdbytes_any : Calls Tryd.prog 5 #[.pointer (some ⟨d, 0, none⟩)] w fun e w' => ∃ y, e = .returned y /\ Own w' w.heap.size y S.seen /\ Below w.heap.size w w' := by
  have c1 := h.c1
  have HC := Lib.hid (pclone_any sv S.seen w h.seen.rd)
  obtain ⟨ao, cap, rfl, hc⟩ := h.seen.rd.shape
  clear h
  go_enter Tryd.func5, Tryd.ntmps5
  go_wp2_with (go_at_call 13; (with_reducible refine HC.out.mono ?_); rintro e w1 ⟨y, rfl, o1, b1, _⟩; have O1 := Lib.hid o1; have B1 := Lib.hid b1; clear o1 b1)
  go_ret
  exact ⟨_, rfl, O1.out, B1.out⟩
end
end Go.Proofs.YtflnodkajhokhaaDoor
end

section
namespace Go.Proofs.YtflnodkajhokhaaDoor
open Go.ChangeShapes Go.WideShapes Go.ChangeAt Go.RowKit
set_option maxRecDepth 20000
open DM
def counted (S : DS) (dn : Bool) (af : Nat) : DS := { S with steps := S.steps + 1, down := dn, after := af }
def Gone (w : World) (d : Nat) (sv fv lv : Value) (S : DS) (w' : World) : Prop := ∃ sv' fv' lv' t', Mem w' d S sv' fv' lv' t' /\ Move w (Blks d sv fv lv) w' (Blks d sv' fv' lv')
theorem Gone.after {w w1 w2 : World} {d : Nat} {sv fv lv : Value} {S : DS} (h : Move w (Blks d sv fv lv) w1 (Blks d sv fv lv)) (k : Gone w1 d sv fv lv S w2) : Gone w d sv fv lv S w2 := by
  obtain ⟨sv', fv', lv', t', hm, hv⟩ := k
  exact ⟨sv', fv', lv', t', hm, h.trans hv⟩
set_option maxHeartbeats 1000000 in
theorem pstep_write_a (w : World) (d : Nat) (S S2 : DS) (sv fv lv : Value) (p1 p2 p3 : Nat) (h : Mem w d S sv fv lv false) (hd : S.down = false) (hs : S.steps < 9223372036854775807) (hS : S.after = 0) (h2 : S2.down = false)
    (H : ∀ w1, Mem w1 d (counted S false 0) sv fv lv false -> Move w (fun k => k = d) w1 (fun k => k = d) -> Calls Tryd.prog 56 #[.pointer (some ⟨p1, 0, none⟩), .pointer (some ⟨p2, 0, none⟩), .pointer (some ⟨p3, 0, none⟩)] w1 fun e w' => e = .returned (.tuple #[]) /\ Gone w1 d sv fv lv S2 w') :
    Calls Tryd.prog 55 #[.pointer (some ⟨d, 0, none⟩), .func (.func 56) #[] #[.pointer (some ⟨p1, 0, none⟩), .pointer (some ⟨p2, 0, none⟩), .pointer (some ⟨p3, 0, none⟩)]] w fun e w' => e = .returned (.int .i64 0) /\ Gone w d sv fv lv S2 w' := by
  have htl := h.tl hd
  have c4 := h.c4
  have c5 := h.c5
  have c6 := h.c6
  have c7 := h.c7
  have c8 := h.c8
  have f4 := h.blk.free 4
  have f5 := h.blk.free 5
  have f7 := h.blk.free 7
  rw [hd] at c5
  rw [hS] at c7
  obtain ⟨s, hsv⟩ : ∃ s, s = S.steps := ⟨_, rfl⟩
  rw [<- hsv] at c4 hs
  have hw : IntKind.i64.wrap ((s : Int) + 1) = (s : Int) + 1 := by rw [IntKind.wrap_i64]; omega
  have m1 := h.field 4 (.int .i64 ((s : Int) + 1)) (S' := { S with steps := S.steps + 1 }) (t' := false) (by rw [hsv]; rfl) rfl rfl rfl (fun _ => htl)
  have m2 := m1.1.field 5 (.bool false) (S' := { S with steps := S.steps + 1, down := false }) (t' := false) rfl rfl rfl rfl (fun _ => htl)
  have HM := Lib.hid (show Mem _ d (counted S false 0) sv fv lv false from by have := m2.1; unfold counted; rw [<- hS]; exact this)
  have HV := Lib.hid (m1.2.trans m2.2)
  have HT := Lib.hid (show Move w (fun k => k = d) ((w.setCell ⟨d, 4, none⟩ (.int .i64 ((s : Int) + 1))).setCell ⟨d, 5, none⟩ (.bool false)) (fun k => k = d) from ⟨Turn.of_grown (only_trans (grownBy_cell _ _ _ _) (grownBy_cell _ _ _ _)) rfl, fun _ h => .inl h⟩)
  have HC := Lib.hid (H _ HM.out HT.out)
  have H2 := Lib.hid h2
  clear H m1 m2 h hsv htl h2 hS
  go_enter Tryd.func55, Tryd.ntmps55
  go_wp2_with (first
    | (go_at_call 56; (with_reducible refine HC.out.mono ?_); rintro e w1 ⟨rfl, g1⟩; have G1 := Lib.hid g1; have HR := Lib.hid (show Calls Tryd.prog 54 #[.pointer (some ⟨d, 0, none⟩)] w1 fun e w' => e = .returned (.int .i64 0) /\ w' = w1 from by obtain ⟨_, _, _, _, hm, _⟩ := g1; have hr := pdready_any _ _ _ _ _ _ _ hm; rw [H2.out] at hr; exact hr); clear g1)
    | (go_at_call 54; (with_reducible refine HR.out.mono ?_); rintro e w2 ⟨rfl, hq⟩; rw [hq]; clear hq w2))
  go_ret
  exact ⟨rfl, Gone.after HV.out G1.out⟩
set_option maxHeartbeats 1000000 in
theorem pstep_write_b (w : World) (d : Nat) (S S2 : DS) (sv fv lv : Value) (p1 p2 p3 : Nat) (h : Mem w d S sv fv lv true) (hd : S.down = false) (hs : S.steps < 9223372036854775807) (af : Nat) (hS : S.after = af + 1) (haf : af < 9223372036854775807) (h2 : S2.down = false)
    (H : ∀ w1, Mem w1 d (counted S false af) sv fv lv true -> Move w (fun k => k = d) w1 (fun k => k = d) -> Calls Tryd.prog 56 #[.pointer (some ⟨p1, 0, none⟩), .pointer (some ⟨p2, 0, none⟩), .pointer (some ⟨p3, 0, none⟩)] w1 fun e w' => e = .returned (.tuple #[]) /\ Gone w1 d sv fv lv S2 w') :
    Calls Tryd.prog 55 #[.pointer (some ⟨d, 0, none⟩), .func (.func 56) #[] #[.pointer (some ⟨p1, 0, none⟩), .pointer (some ⟨p2, 0, none⟩), .pointer (some ⟨p3, 0, none⟩)]] w fun e w' => e = .returned (.int .i64 0) /\ Gone w d sv fv lv S2 w' := by
  have htl := h.tl hd
  have c4 := h.c4
  have c5 := h.c5
  have c6 := h.c6
  have c7 := h.c7
  have c8 := h.c8
  have f4 := h.blk.free 4
  have f5 := h.blk.free 5
  have f7 := h.blk.free 7
  rw [hd] at c5
  rw [hS] at c7
  obtain ⟨s, hsv⟩ : ∃ s, s = S.steps := ⟨_, rfl⟩
  rw [<- hsv] at c4 hs
  have hw : IntKind.i64.wrap ((s : Int) + 1) = (s : Int) + 1 := by rw [IntKind.wrap_i64]; omega
  have m1 := h.field 4 (.int .i64 ((s : Int) + 1)) (S' := { S with steps := S.steps + 1 }) (t' := true) (by rw [hsv]; rfl) rfl rfl rfl (fun _ => htl)
  obtain ⟨A, hA⟩ : ∃ A, A = af + 1 := ⟨_, rfl⟩
  have hA0 : ((A : Int) == 0) = false := by rw [beq_eq_false_iff_ne]; omega
  have m2 := m1.1.field 5 (.bool ((A : Int) == 0)) (S' := { S with steps := S.steps + 1, down := false }) (t' := true) (by rw [hA0]; rfl) rfl rfl rfl (fun _ => htl)
  rw [<- hA] at c7
  have hA2 : (A : Int) - 1 = (af : Int) := by omega
  have m3 := m2.1.field 7 (.int .i64 ((A : Int) - 1)) (S' := counted S false af) (t' := true) (by rw [hA2]; rfl) rfl rfl rfl (fun _ => htl)
  have hw2 : IntKind.i64.wrap ((A : Int) - 1) = (A : Int) - 1 := by rw [IntKind.wrap_i64]; omega
  have hw4 : (0 : Int) < (A : Int) := by omega
  have hw5 : ¬ (A : Int) = 0 := by omega
  clear hA2 hA0
  have HM := Lib.hid m3.1
  have HV := Lib.hid (m1.2.trans (m2.2.trans m3.2))
  have HT := Lib.hid (show Move w (fun k => k = d) (((w.setCell ⟨d, 4, none⟩ (.int .i64 ((s : Int) + 1))).setCell ⟨d, 5, none⟩ (.bool ((A : Int) == 0))).setCell ⟨d, 7, none⟩ (.int .i64 ((A : Int) - 1))) (fun k => k = d) from ⟨Turn.of_grown (only_trans (only_trans (grownBy_cell _ _ _ _) (grownBy_cell _ _ _ _)) (grownBy_cell _ _ _ _)) rfl, fun _ h => .inl h⟩)
  have HC := Lib.hid (H _ HM.out HT.out)
  have H2 := Lib.hid h2
  clear H m1 m2 m3 hA h hsv htl h2 hS
  go_enter Tryd.func55, Tryd.ntmps55
  go_wp2_with (first
    | (go_at_call 56; (with_reducible refine HC.out.mono ?_); rintro e w1 ⟨rfl, g1⟩; have G1 := Lib.hid g1; have HR := Lib.hid (show Calls Tryd.prog 54 #[.pointer (some ⟨d, 0, none⟩)] w1 fun e w' => e = .returned (.int .i64 0) /\ w' = w1 from by obtain ⟨_, _, _, _, hm, _⟩ := g1; have hr := pdready_any _ _ _ _ _ _ _ hm; rw [H2.out] at hr; exact hr); clear g1)
    | (go_at_call 54; (with_reducible refine HR.out.mono ?_); rintro e w2 ⟨rfl, hq⟩; rw [hq]; clear hq w2))
  go_ret
  exact ⟨rfl, Gone.after HV.out G1.out⟩
set_option maxHeartbeats 1000000 in
theorem pstep_write_c (w : World) (d : Nat) (S S2 : DS) (sv fv lv : Value) (p1 p2 p3 : Nat) (h : Mem w d S sv fv lv true) (hd : S.down = false) (hs : S.steps < 9223372036854775807) (hS : S.after = 0) (hD : S.done = true) (h2 : S2.down = true)
    (H : ∀ w1, Mem w1 d (counted S true 0) sv fv lv true -> Move w (fun k => k = d) w1 (fun k => k = d) -> Calls Tryd.prog 56 #[.pointer (some ⟨p1, 0, none⟩), .pointer (some ⟨p2, 0, none⟩), .pointer (some ⟨p3, 0, none⟩)] w1 fun e w' => e = .returned (.tuple #[]) /\ Gone w1 d sv fv lv S2 w') :
    Calls Tryd.prog 55 #[.pointer (some ⟨d, 0, none⟩), .func (.func 56) #[] #[.pointer (some ⟨p1, 0, none⟩), .pointer (some ⟨p2, 0, none⟩), .pointer (some ⟨p3, 0, none⟩)]] w fun e w' => e = .returned (.int .i64 20) /\ Gone w d sv fv lv S2 w' := by
  have htl := h.tl hd
  have c4 := h.c4
  have c5 := h.c5
  have c6 := h.c6
  have c7 := h.c7
  have c8 := h.c8
  have f4 := h.blk.free 4
  have f5 := h.blk.free 5
  have f7 := h.blk.free 7
  rw [hd] at c5
  rw [hS] at c7
  rw [hD] at c8
  obtain ⟨s, hsv⟩ : ∃ s, s = S.steps := ⟨_, rfl⟩
  rw [<- hsv] at c4 hs
  have hw : IntKind.i64.wrap ((s : Int) + 1) = (s : Int) + 1 := by rw [IntKind.wrap_i64]; omega
  have m1 := h.field 4 (.int .i64 ((s : Int) + 1)) (S' := { S with steps := S.steps + 1 }) (t' := true) (by rw [hsv]; rfl) rfl rfl rfl (fun _ => htl)
  have m2 := m1.1.field 5 (.bool true) (S' := { S with steps := S.steps + 1, down := true }) (t' := true) rfl rfl rfl rfl (fun _ => htl)
  have HM := Lib.hid (show Mem _ d (counted S true 0) sv fv lv true from by have := m2.1; unfold counted; rw [<- hS]; exact this)
  have HV := Lib.hid (m1.2.trans m2.2)
  have HT := Lib.hid (show Move w (fun k => k = d) ((w.setCell ⟨d, 4, none⟩ (.int .i64 ((s : Int) + 1))).setCell ⟨d, 5, none⟩ (.bool true)) (fun k => k = d) from ⟨Turn.of_grown (only_trans (grownBy_cell _ _ _ _) (grownBy_cell _ _ _ _)) rfl, fun _ h => .inl h⟩)
  have HC := Lib.hid (H _ HM.out HT.out)
  have H2 := Lib.hid h2
  clear H m1 m2 h hsv htl h2 hS hD
  go_enter Tryd.func55, Tryd.ntmps55
  go_wp2_with (first
    | (go_at_call 56; (with_reducible refine HC.out.mono ?_); rintro e w1 ⟨rfl, g1⟩; have G1 := Lib.hid g1; have HR := Lib.hid (show Calls Tryd.prog 54 #[.pointer (some ⟨d, 0, none⟩)] w1 fun e w' => e = .returned (.int .i64 20) /\ w' = w1 from by obtain ⟨_, _, _, _, hm, _⟩ := g1; have hr := pdready_any _ _ _ _ _ _ _ hm; rw [H2.out] at hr; exact hr); clear g1)
    | (go_at_call 54; (with_reducible refine HR.out.mono ?_); rintro e w2 ⟨rfl, hq⟩; rw [hq]; clear hq w2))
  go_ret
  exact ⟨rfl, Gone.after HV.out G1.out⟩
set_option maxHeartbeats 1000000 in
theorem pstep_write_d (w : World) (d : Nat) (S : DS) (sv fv lv : Value) (p1 p2 p3 : Nat) (h : Mem w d S sv fv lv true) (hd : S.down = false) (hs : S.steps < 9223372036854775807) (hS : S.after = 0) (hD : S.done = false) :
    Calls Tryd.prog 55 #[.pointer (some ⟨d, 0, none⟩), .func (.func 56) #[] #[.pointer (some ⟨p1, 0, none⟩), .pointer (some ⟨p2, 0, none⟩), .pointer (some ⟨p3, 0, none⟩)]] w fun e w' => e = .returned (.int .i64 20) /\ Gone w d sv fv lv (counted S true 0) w' := by
  have htl := h.tl hd
  have c4 := h.c4
  have c5 := h.c5
  have c6 := h.c6
  have c7 := h.c7
  have c8 := h.c8
  have f4 := h.blk.free 4
  have f5 := h.blk.free 5
  rw [hd] at c5
  rw [hS] at c7
  rw [hD] at c8
  obtain ⟨s, hsv⟩ : ∃ s, s = S.steps := ⟨_, rfl⟩
  rw [<- hsv] at c4 hs
  have hw : IntKind.i64.wrap ((s : Int) + 1) = (s : Int) + 1 := by rw [IntKind.wrap_i64]; omega
  have m1 := h.field 4 (.int .i64 ((s : Int) + 1)) (S' := { S with steps := S.steps + 1 }) (t' := true) (by rw [hsv]; rfl) rfl rfl rfl (fun _ => htl)
  have m2 := m1.1.field 5 (.bool true) (S' := { S with steps := S.steps + 1, down := true }) (t' := true) rfl rfl rfl rfl (fun _ => htl)
  have HM := Lib.hid (show Mem _ d (counted S true 0) sv fv lv true from by have := m2.1; unfold counted; rw [<- hS]; exact this)
  have HV := Lib.hid (m1.2.trans m2.2)
  have HR := Lib.hid (pdready_any _ _ _ _ _ _ _ HM.out)
  clear m1 m2 h hsv htl hS hD
  go_enter Tryd.func55, Tryd.ntmps55
  go_wp2_with (go_at_call 54; (with_reducible refine HR.out.mono ?_); rintro e w2 ⟨rfl, hq⟩; rw [hq]; clear hq w2)
  go_ret
  exact ⟨rfl, _, _, _, _, HM.out, HV.out⟩
end Go.Proofs.YtflnodkajhokhaaDoor
end

section
namespace Go.Proofs.YtflnodkajhokhaaDoor
open Go.ChangeShapes Go.WideShapes Go.ChangeAt Go.RowKit
open DM
theorem built_dev (n : Int) : Tryd.prog.built 52 [(0, .int .i64 n)] = some #[.int .i64 n, .slice none 0 0, .slice none 0 0, .slice none 0 0, .int .i64 0, .bool false, .bool false, .int .i64 0, .bool false] := by kernel_rfl
structure Inv (S : DS) : Prop where
  short : S.safe.length <= S.seen.length
  wr : ∀ x ∈ S.loose, Wr x /\ x.size <= S.seen.length
  same : ∀ k, k < S.seen.length -> (∀ x ∈ S.loose, x.at_ / 512 ≠ k / 512) -> gb S.safe k = gb S.seen k
  told : S.told = false -> S.after = 0
theorem Mem.told {w : World} {d : Nat} {S S' : DS} {sv fv lv : Value} {t : Bool} (h : Mem w d S sv fv lv t) (hd : S'.down = true) (b : Bool) (he : S' = { S with told := b }) : Mem w d S' sv fv lv t := by
  subst he
  exact ⟨h.blk, h.seen, h.safe, h.loose, fun q => (by rw [hd] at q; cases q), h.ns, h.nf, h.nl, h.sf, h.sl, h.fl⟩
structure DoesD (f : DS -> DS) (S : DS) : Prop where
  at_ : ∀ dn af, f (counted S dn af) = { f S with steps := S.steps + 1, down := dn, after := af }
  steps : (f S).steps = S.steps
  down : (f S).down = S.down
  after : (f S).after = S.after
  told : (f S).told = S.told
theorem does_wrote (S : DS) (a : Nat) (b : List Nat) : DoesD (fun S => wrote S a b) S := ⟨fun _ _ => rfl, rfl, rfl, rfl, rfl⟩
theorem ds_a (X : DS) (n : Nat) (h1 : X.down = false) (h2 : X.after = 0) : ({ X with steps := n, down := false, after := 0 } : DS) = { X with steps := n } := by
  obtain ⟨_, _, _, _, _, _, _, _, _⟩ := X
  simp only at h1 h2
  subst h1 h2; rfl
theorem ds_b (X : DS) (n k : Nat) (h1 : X.down = false) : ({ X with steps := n, down := false, after := k } : DS) = { X with steps := n, after := k } := by
  obtain ⟨_, _, _, _, _, _, _, _, _⟩ := X
  simp only at h1
  subst h1; rfl
theorem ds_c (X : DS) (n : Nat) (b : Bool) (h2 : X.after = 0) : ({ X with steps := n, down := true, after := 0, told := b } : DS) = { X with steps := n, down := true, told := b } := by
  obtain ⟨_, _, _, _, _, _, _, _, _⟩ := X
  simp only at h2
  subst h2; rfl
theorem pstep_write (w : World) (d : Nat) (S : DS) (f : DS -> DS) (sv fv lv : Value) (t : Bool) (p1 p2 p3 : Nat) (hm : Mem w d S sv fv lv t) (hd : S.down = false) (hs : S.steps < 9223372036854775807) (ha : S.after <= 9223372036854775807) (h0 : S.told = false -> S.after = 0) (hf : DoesD f S)
    (H : ∀ dn af w1, af <= 9223372036854775807 -> (S.told = false -> af = 0) -> Mem w1 d (counted S dn af) sv fv lv t -> Move w (fun k => k = d) w1 (fun k => k = d) -> Calls Tryd.prog 56 #[.pointer (some ⟨p1, 0, none⟩), .pointer (some ⟨p2, 0, none⟩), .pointer (some ⟨p3, 0, none⟩)] w1 fun e w' => e = .returned (.tuple #[]) /\ Gone w1 d sv fv lv (f (counted S dn af)) w') :
    Calls Tryd.prog 55 #[.pointer (some ⟨d, 0, none⟩), .func (.func 56) #[] #[.pointer (some ⟨p1, 0, none⟩), .pointer (some ⟨p2, 0, none⟩), .pointer (some ⟨p3, 0, none⟩)]] w fun e w' => e = .returned (.int .i64 (DM.step S (f S)).2) /\ Gone w d sv fv lv (DM.step S (f S)).1 w' := by
  have htl := hm.tl hd
  have hfd : (f S).down = false := hf.down.trans hd
  subst htl
  unfold DM.step
  cases ht : S.told with
  | false =>
    have hz := h0 ht
    have hza : (f S).after = 0 := hf.after.trans hz
    rw [ht] at hm H
    rw [if_pos rfl]
    have hr := pstep_write_a w d S (f (counted S false 0)) sv fv lv p1 p2 p3 hm hd hs hz (by rw [hf.at_]) (fun w1 h1 h2 => H false 0 w1 (by omega) (fun _ => rfl) h1 h2)
    rw [hf.at_, ds_a _ _ hfd hza, <- hf.steps] at hr
    exact hr
  | true =>
    rw [ht] at hm H
    rw [if_neg (by decide)]
    by_cases hp : 0 < S.after
    . obtain ⟨af, haf⟩ : ∃ af, S.after = af + 1 := ⟨S.after - 1, by omega⟩
      rw [if_pos hp]
      have hr := pstep_write_b w d S (f (counted S false af)) sv fv lv p1 p2 p3 hm hd hs af haf (by omega) (by rw [hf.at_]) (fun w1 h1 h2 => H false af w1 (by omega) (fun q => by cases q) h1 h2)
      rw [hf.at_, ds_b _ _ _ hfd, <- hf.steps, show af = (f S).after - 1 by rw [hf.after]; omega] at hr
      exact hr
    . have hz : S.after = 0 := by omega
      have hza : (f S).after = 0 := hf.after.trans hz
      rw [if_neg hp]
      cases hD : S.done with
      | true =>
        have hr := pstep_write_c w d S (f (counted S true 0)) sv fv lv p1 p2 p3 hm hd hs hz hD (by rw [hf.at_]) (fun w1 h1 h2 => H true 0 w1 (by omega) (fun _ => rfl) h1 h2)
        rw [hf.at_] at hr
        refine hr.mono fun e w' hh => ⟨hh.1, ?_⟩
        obtain ⟨sv', fv', lv', t', m', v'⟩ := hh.2
        rw [if_pos rfl]
        refine ⟨sv', fv', lv', t', m'.told rfl false ?_, v'⟩
        show ({ f S with steps := S.steps + 1, down := true, told := false } : DS) = _
        rw [<- ds_c _ _ _ hza]
      | false =>
        have hr := pstep_write_d w d S sv fv lv p1 p2 p3 hm hd hs hz hD
        refine hr.mono fun e w' hh => ⟨hh.1, ?_⟩
        obtain ⟨sv', fv', lv', t', m', v'⟩ := hh.2
        rw [if_neg (by decide)]
        refine ⟨sv', fv', lv', t', m'.told rfl false ?_, v'⟩
        show ({ S with steps := S.steps + 1, down := true, told := false } : DS) = _
        rw [<- ds_c _ _ _ hz]
        rfl
section
variable (w : World) (d : Nat) (S : DS) (sv fv lv : Value) (t : Bool) (h : Mem w d S sv fv lv t)
include h
theorem Gone.same : Gone w d sv fv lv S w := ⟨sv, fv, lv, t, h, Move.refl _ _⟩
set_option maxHeartbeats 1000000 in
theorem pdread_any (a n : Int) (ha : -9223372036854775808 <= a /\ a <= 9223372036854775807) (hn : -9223372036854775808 <= n /\ n <= 9223372036854775807) (hl : S.seen.length <= 16777216) : Calls Tryd.prog 65 #[.pointer (some ⟨d, 0, none⟩), .int .i64 a, .int .i64 n] w fun e w' => ∃ y, e = .returned (.tuple #[y, .int .i64 (DM.read S a n).2]) /\ Own w' w.heap.size y (DM.read S a n).1 /\ Below w.heap.size w w' := by
  have HR := Lib.hid (pdready_any w d S sv fv lv t h)
  have c1 := h.c1
  have hsr := h.seen.rd
  obtain ⟨ao, cap, rfl, hc⟩ := h.seen.rd.shape
  clear h
  unfold DM.read
  cases hd : S.down with
  | true =>
    rw [hd] at HR
    go_enter Tryd.func65, Tryd.ntmps65
    go_wp2_with (go_at_call 54; (with_reducible refine HR.out.mono ?_); rintro e w1 ⟨rfl, hq⟩; rw [hq]; clear hq w1)
    go_ret2
    exact ⟨_, rfl, own_nil w, Below.refl _ _⟩
  | false =>
    rw [hd] at HR
    obtain ⟨s, hs⟩ : ∃ s, s = S.seen.length := ⟨_, rfl⟩
    have HS := Lib.hid hs
    rw [<- hs] at c1 hc hl ⊢
    by_cases h1 : a < 0
    . have HE := Lib.hid (show (if (false = true) then (([] : List Nat), (20 : Int)) else if a < 0 \/ n < 0 \/ (s : Int) < a \/ (s : Int) - a < n then ([], 43) else ((S.seen.drop a.toNat).take n.toNat, 0)) = ([], 43) by rw [if_neg (by decide), if_pos (.inl h1)])
      rw [HE.out]
      go_enter Tryd.func65, Tryd.ntmps65
      go_wp2_with (go_at_call 54; (with_reducible refine HR.out.mono ?_); rintro e w1 ⟨rfl, hq⟩; rw [hq]; clear hq w1)
      go_ret2
      exact ⟨_, rfl, own_nil w, Below.refl _ _⟩
    . by_cases h2 : n < 0
      . have HE := Lib.hid (show (if (false = true) then (([] : List Nat), (20 : Int)) else if a < 0 \/ n < 0 \/ (s : Int) < a \/ (s : Int) - a < n then ([], 43) else ((S.seen.drop a.toNat).take n.toNat, 0)) = ([], 43) by rw [if_neg (by decide), if_pos (.inr (.inl h2))])
        rw [HE.out]
        go_enter Tryd.func65, Tryd.ntmps65
        go_wp2_with (go_at_call 54; (with_reducible refine HR.out.mono ?_); rintro e w1 ⟨rfl, hq⟩; rw [hq]; clear hq w1)
        go_ret2
        exact ⟨_, rfl, own_nil w, Below.refl _ _⟩
      . have hw : IntKind.i64.wrap ((s : Int) - a) = (s : Int) - a := by rw [IntKind.wrap_i64]; omega
        by_cases h3 : (s : Int) - a < n
        . have HE := Lib.hid (show (if (false = true) then (([] : List Nat), (20 : Int)) else if a < 0 \/ n < 0 \/ (s : Int) < a \/ (s : Int) - a < n then ([], 43) else ((S.seen.drop a.toNat).take n.toNat, 0)) = ([], 43) by rw [if_neg (by decide), if_pos (.inr (.inr (.inr h3)))])
          rw [HE.out]
          go_enter Tryd.func65, Tryd.ntmps65
          go_wp2_with (go_at_call 54; (with_reducible refine HR.out.mono ?_); rintro e w1 ⟨rfl, hq⟩; rw [hq]; clear hq w1)
          go_ret2
          exact ⟨_, rfl, own_nil w, Below.refl _ _⟩
        . have HE := Lib.hid (show (if (false = true) then (([] : List Nat), (20 : Int)) else if a < 0 \/ n < 0 \/ (s : Int) < a \/ (s : Int) - a < n then ([], 43) else ((S.seen.drop a.toNat).take n.toNat, 0)) = ((S.seen.drop a.toNat).take n.toNat, 0) by rw [if_neg (by decide), if_neg (by omega)])
          rw [HE.out]
          obtain ⟨A, rfl⟩ : ∃ A : Nat, a = (A : Int) := ⟨a.toNat, by omega⟩
          obtain ⟨m, rfl⟩ : ∃ m : Nat, n = (m : Int) := ⟨n.toNat, by omega⟩
          simp only [Int.toNat_natCast]
          have hp := (hsr.drop A (by omega)).take m (by rw [List.length_drop]; omega)
          by_cases hcn : cap = A
          . rw [if_pos hcn, hcn, Nat.sub_self] at hp
            have HC := Lib.hid (pclone_any _ _ w hp)
            clear hp hsr hs
            subst hcn
            go_enter Tryd.func65, Tryd.ntmps65
            go_wp2_with (first
              | (go_at_call 54; (with_reducible refine HR.out.mono ?_); rintro e w1 ⟨rfl, hq⟩; rw [hq]; clear hq w1)
              | (go_at_call 13; (with_reducible refine HC.out.mono ?_); rintro e w1 ⟨y, rfl, o1, b1, _⟩; have O1 := Lib.hid o1; have B1 := Lib.hid b1; clear o1 b1))
            go_ret2
            exact ⟨_, rfl, O1.out, B1.out⟩
          . rw [if_neg hcn] at hp
            have HC := Lib.hid (pclone_any _ _ w hp)
            clear hp hsr hs
            go_enter Tryd.func65, Tryd.ntmps65
            go_wp2_with (first
              | (go_at_call 54; (with_reducible refine HR.out.mono ?_); rintro e w1 ⟨rfl, hq⟩; rw [hq]; clear hq w1)
              | (go_at_call 13; (with_reducible refine HC.out.mono ?_); rintro e w1 ⟨y, rfl, o1, b1, _⟩; have O1 := Lib.hid o1; have B1 := Lib.hid b1; clear o1 b1))
            go_ret2
            exact ⟨_, rfl, O1.out, B1.out⟩
end
end Go.Proofs.YtflnodkajhokhaaDoor
namespace Go.Proofs.YtflnodkajhokhaaDoor
open Go.ChangeShapes Go.WideShapes Go.ChangeAt Go.RowKit
open DM
theorem gone_of {w W : World} {d : Nat} {S S' : DS} {sv fv lv sv' fv' lv' : Value} {t t' : Bool} (h : Mem w d S sv fv lv t) (T : Turn (Blks d sv fv lv) w W) (hb : Blk W d 52 (dvc S' sv' fv' lv' t')) (o1 : Own W 0 sv' S'.seen) (o2 : Own W 0 fv' S'.safe) (o3 : W.ownsRow 0 135 514 lv' S'.loose.length (lwcs S'.loose)) (ht : S'.down = false -> t' = S'.told)
    (n1 : ∀ g, sv'.ownBlock = some g -> sv.ownBlock = some g \/ w.heap.size <= g) (n2 : ∀ g, fv'.ownBlock = some g -> fv.ownBlock = some g \/ w.heap.size <= g) (n3 : ∀ g, lv'.ownBlock = some g -> lv.ownBlock = some g \/ w.heap.size <= g)
    (x1 : ∀ g, w.heap.size <= g -> sv'.ownBlock = some g -> fv'.ownBlock ≠ some g) (x2 : ∀ g, w.heap.size <= g -> sv'.ownBlock = some g -> lv'.ownBlock ≠ some g) (x3 : ∀ g, w.heap.size <= g -> fv'.ownBlock = some g -> lv'.ownBlock ≠ some g) :
    Mem W d S' sv' fv' lv' t' /\ Move w (Blks d sv fv lv) W (Blks d sv' fv' lv') := by
  have hl := h.lt
  have hd := hl d (.inl rfl)
  refine ⟨⟨hb, o1, o2, o3, ht, fun e => ?_, fun e => ?_, fun e => ?_, fun g e q => ?_, fun g e q => ?_, fun g e q => ?_⟩, T, ?_⟩
  . rcases n1 d e with z | z
    . exact h.ns z
    . omega
  . rcases n2 d e with z | z
    . exact h.nf z
    . omega
  . rcases n3 d e with z | z
    . exact h.nl z
    . omega
  . rcases n1 g e with z | z
    . rcases n2 g q with y | y
      . exact h.sf g z y
      . have := hl g (.inr (.inl z)); omega
    . exact x1 g z e q
  . rcases n1 g e with z | z
    . rcases n3 g q with y | y
      . exact h.sl g z y
      . have := hl g (.inr (.inl z)); omega
    . exact x2 g z e q
  . rcases n2 g e with z | z
    . rcases n3 g q with y | y
      . exact h.fl g z y
      . have := hl g (.inr (.inr (.inl z))); omega
    . exact x3 g z e q
  . rintro k (rfl | e | e | e)
    . exact .inl (.inl rfl)
    . exact (n1 k e).imp (fun z => .inr (.inl z)) id
    . exact (n2 k e).imp (fun z => .inr (.inr (.inl z))) id
    . exact (n3 k e).imp (fun z => .inr (.inr (.inr z))) id
theorem mem_new (w : World) (m : Nat) (cs : List Value) (hcs : cs = dvc (DM.new (m : Int)) (.slice none 0 0) (.slice none 0 0) (.slice none 0 0) false) (b : Nat) (hb : b = w.heap.size) : Mem (w.alloc (.cells cs.toArray 52)) b (DM.new (m : Int)) (.slice none 0 0) (.slice none 0 0) (.slice none 0 0) false := by
  subst hcs
  refine ⟨Blk.new w _ _ b hb, (own_nil _).lower (Nat.zero_le _), (own_nil _).lower (Nat.zero_le _), owned_none _ _ _ _, fun _ => rfl, fun e => (by cases e), fun e => (by cases e), fun e => (by cases e), fun g e => (by cases e), fun g e => (by cases e), fun g e => (by cases e)⟩
theorem pdnew_any (n : Int) (w : World) : Calls Tryd.prog 12 #[.int .i64 n] w fun e w' => ∃ d, d = w.heap.size /\ e = .returned (.pointer (some ⟨d, 0, none⟩)) /\ Mem w' d (DM.new n) (.slice none 0 0) (.slice none 0 0) (.slice none 0 0) false /\ Below w.heap.size w w' := by
  obtain ⟨m, hm, hn⟩ : ∃ m : Nat, DM.new n = DM.new (m : Int) /\ (n < 0 /\ m = 0 \/ ¬ n < 0 /\ 16777216 < n /\ m = 16777216 \/ ¬ n < 0 /\ ¬ 16777216 < n /\ n = (m : Int)) := by
    by_cases h1 : n < 0
    . exact ⟨0, by unfold DM.new; rw [show (max 0 (min n 16777216)).toNat = (max 0 (min ((0 : Nat) : Int) 16777216)).toNat by omega], .inl ⟨h1, rfl⟩⟩
    . by_cases h2 : 16777216 < n
      . exact ⟨16777216, by unfold DM.new; rw [show (max 0 (min n 16777216)).toNat = (max 0 (min ((16777216 : Nat) : Int) 16777216)).toNat by omega], .inr (.inl ⟨h1, h2, rfl⟩)⟩
      . exact ⟨n.toNat, by rw [show ((n.toNat : Nat) : Int) = n by omega], .inr (.inr ⟨h1, h2, by omega⟩)⟩
  rw [hm]
  have HB := Lib.hid ((Below.refl w.heap.size w).alloc (Nat.le_refl _) (.cells #[.int .i64 (m : Int), .slice none 0 0, .slice none 0 0, .slice none 0 0, .int .i64 0, .bool false, .bool false, .int .i64 0, .bool false] 52))
  have hbd := built_dev (m : Int)
  rcases hn with ⟨h1, rfl⟩ | ⟨h1, h2, rfl⟩ | ⟨h1, h2, rfl⟩
  . have HM := Lib.hid (mem_new w 0 _ rfl _ rfl)
    go_enter Tryd.func12, Tryd.ntmps12
    go_wp2_with fail
    go_ret
    first | exact ⟨_, rfl, rfl, HM.out, HB.out⟩ | exact ⟨rfl, HM.out, HB.out⟩
  . have HM := Lib.hid (mem_new w 16777216 _ rfl _ rfl)
    go_enter Tryd.func12, Tryd.ntmps12
    go_wp2_with fail
    go_ret
    first | exact ⟨_, rfl, rfl, HM.out, HB.out⟩ | exact ⟨rfl, HM.out, HB.out⟩
  . have HM := Lib.hid (mem_new w m [.int .i64 (m : Int), .slice none 0 0, .slice none 0 0, .slice none 0 0, .int .i64 0, .bool false, .bool false, .int .i64 0, .bool false] (by unfold dvc DM.new; rw [show (max 0 (min (m : Int) 16777216)).toNat = m by omega]; rfl) _ rfl)
    clear hm
    go_enter Tryd.func12, Tryd.ntmps12
    go_wp2_with fail
    go_ret
    first | exact ⟨_, rfl, rfl, HM.out, HB.out⟩ | exact ⟨rfl, HM.out, HB.out⟩
section
variable (w : World) (d : Nat) (S : DS) (sv fv lv : Value) (t : Bool) (h : Mem w d S sv fv lv t)
include h
theorem pdload_any (v : Value) (l : List Nat) (hv : Rd w v l) (hne : 0 < l.length -> ∀ g, v.ownBlock = some g -> ¬ Blks d sv fv lv g) (_hm : S.most <= 16777216) : Calls Tryd.prog 6 #[.pointer (some ⟨d, 0, none⟩), v] w fun e w' => e = .returned (.tuple #[]) /\ Gone w d sv fv lv (DM.load S l) w' := by
  have c0 := h.c0
  have hshape := hv.shape
  unfold DM.load
  by_cases hlm : S.most < l.length
  . rw [if_pos hlm]
    obtain ⟨ao, cap, rfl, hc⟩ := hshape
    have HG := Lib.hid (Gone.same w d S sv fv lv t h)
    have hq : (S.most : Int) < (l.length : Int) := by omega
    clear h hv hne
    go_enter Tryd.func6, Tryd.ntmps6
    go_wp2_with fail
    exact bodyPost_ret (results_none rfl _ _ _) rfl ⟨rfl, HG.out⟩
  . rw [if_neg hlm]
    have HC := Lib.hid (fun W (hW : Rd W v l) => pclone_any v l W hW)
    have HV := Lib.hid hv
    have H := Lib.hid h
    obtain ⟨ao, cap, rfl, hc⟩ := hshape
    have hq : ¬ ((S.most : Int) < (l.length : Int)) := by omega
    clear h hv hne
    go_enter Tryd.func6, Tryd.ntmps6
    go_wp2_with (first
      | (go_at_call 13; (with_reducible refine (HC.out _ (HV.out)).mono ?_); rintro e w1 ⟨y1, rfl, o1, b1, n1⟩; obtain ⟨a1, c1, rfl, _⟩ := o1.rd.shape; have O1 := Lib.hid o1; have B1 := Lib.hid b1; have N1 := Lib.hid n1; clear o1 b1 n1)
      | (go_at_call 13; (with_reducible refine (HC.out _ (HV.out.below B1.out)).mono ?_); rintro e w2 ⟨y2, rfl, o2, b2, n2⟩; obtain ⟨a2, c2, rfl, _⟩ := o2.rd.shape; have B12 := Lib.hid (B1.out.on b2); have D2 := Lib.hid (H.out.blk.below B12.out H.out.blk.lt); have k1 := D2.out.cell 1 _ rfl; have k2 := D2.out.cell 2 _ rfl; have k3 := D2.out.cell 3 _ rfl; have g1 := D2.out.free 1; have g2 := D2.out.free 2; have g3 := D2.out.free 3; have O2 := Lib.hid o2; have B2 := Lib.hid b2; have N2 := Lib.hid n2; clear o2 b2 n2))
    obtain ⟨y1, hy1⟩ : ∃ y, y = Value.slice a1 l.length c1 := ⟨_, rfl⟩
    obtain ⟨y2, hy2⟩ : ∃ y, y = Value.slice a2 l.length c2 := ⟨_, rfl⟩
    rw [<- hy1] at O1 N1 ⊢
    rw [<- hy2] at O2 N2 ⊢
    have r1 := O1.out.below B2.out
    have hlt : ∀ g, y1.ownBlock = some g -> g < w1.heap.size := fun g q => (O1.out.from g q).2
    have hd := H.out.blk.lt
    have hs1 := B1.out.size
    have hs2 := B2.out.size
    obtain ⟨W, hW⟩ : ∃ W, W = ((w2.setCell ⟨d, 1, none⟩ y1).setCell ⟨d, 2, none⟩ y2).setCell ⟨d, 3, none⟩ (.slice none 0 0) := ⟨_, rfl⟩
    have hg : w2.grownBy W (some d) := by rw [hW]; exact only_trans (only_trans (grownBy_cell _ _ _ _) (grownBy_cell _ _ _ _)) (grownBy_cell _ _ _ _)
    have hne1 : y1.ownBlock = none \/ y1.ownBlock ≠ some d := .inr fun q => by have := N1.out d q; omega
    have hne2 : y2.ownBlock = none \/ y2.ownBlock ≠ some d := .inr fun q => by have := N2.out d q; omega
    have hB : Blk W d 52 (dvc { S with seen := l, safe := l, loose := [] } y1 y2 (.slice none 0 0) t) := by rw [hW]; exact ((D2.out.set 1 y1).set 2 y2).set 3 _
    have hr := gone_of H.out (S' := { S with seen := l, safe := l, loose := [] }) (t' := t) ((Turn.of_below B12.out).trans (Turn.of_grown (F := Blks d sv fv lv) hg (.inl rfl)) (fun _ q => .inl q)) hB ((r1.lower (Nat.zero_le _)).keep hg hne1) ((O2.out.lower (Nat.zero_le _)).keep hg hne2) (owned_none _ _ _ _) H.out.tl
      (fun g q => .inr (N1.out g q)) (fun g q => .inr (by have := N2.out g q; omega)) (fun g q => by cases q) (fun g _ q e => by have := hlt g q; have := N2.out g e; omega) (fun g _ _ e => by cases e) (fun g _ _ e => by cases e)
    exact bodyPost_end (results_none rfl _ _ _) rfl ⟨rfl, _, _, _, _, by rw [<- hW]; exact hr.1, by rw [<- hW]; exact hr.2⟩
end
end Go.Proofs.YtflnodkajhokhaaDoor
namespace Go.Proofs.YtflnodkajhokhaaDoor
open Go.ChangeShapes Go.WideShapes Go.ChangeAt Go.RowKit
open DM
def zlw : List Value := .int .i64 0 :: .int .i64 0 :: row8 (List.replicate 512 0)
theorem zlw_len : zlw.length = 514 := by unfold zlw; rw [List.length_cons, List.length_cons, row8_len, List.length_replicate]
theorem infoDW : (Tryd.prog.info? 135).map (fun i => (i.zero, i.size, i.bytes)) = some (some (.agg zlw.toArray), 514, 528) := by kernel_rfl
theorem undW : Tryd.prog.underlying 48 = some (.slice 135) := by kernel_rfl
end Go.Proofs.YtflnodkajhokhaaDoor
end

section
namespace Go.Proofs.YtflnodkajhokhaaDoor
open Go.ChangeShapes Go.WideShapes Go.ChangeAt Go.RowKit
open DM
theorem Turn.of_row {F : Nat -> Prop} {w w' : World} {row : Option Nat} (h : w.grownBy w' row) (hF : ∀ g, row = some g -> F g) : Turn F w w' := ⟨h.os, h.tape, h.output, h.size, fun k hk hn => h.block k hk (fun e => hn (hF k e.symm))⟩
def Newer (v fv : Value) (n : Nat) : Prop := ∀ g, v.ownBlock = some g -> fv.ownBlock = some g \/ n <= g
theorem newer {v fv : Value} {n : Nat} (k : v.ownBlock = fv.ownBlock \/ v.ownBlock = some n) : Newer v fv n := fun g e => by
  rcases k with k | k
  . exact .inl (k ▸ e)
  . rw [k] at e; have := Option.some.inj e; right; omega
section
variable {w W : World} {d : Nat} {S : DS} {sv fv lv : Value} {t : Bool} {v : Value} {F : List Nat}
theorem Mem.seenTo (h : Mem w d S sv fv lv t) (o : Own W 0 v F) (g : w.grownBy W sv.ownBlock) (k : Newer v sv w.heap.size) : Mem (W.setCell ⟨d, 1, none⟩ v) d { S with seen := F } v fv lv t /\ Move w (Blks d sv fv lv) (W.setCell ⟨d, 1, none⟩ v) (Blks d v fv lv) := by
  have hl := h.lt
  have hg2 := grownBy_cell W d 1 v
  have nv : v.ownBlock ≠ some d := fun q => by
    rcases k d q with z | z
    . exact h.ns z
    . have := hl d (.inl rfl); omega
  have nf : fv.ownBlock = none \/ fv.ownBlock ≠ sv.ownBlock := by
    cases e : fv.ownBlock with
    | none => exact .inl rfl
    | some g => exact .inr (fun q => h.sf g q.symm e)
  have nl : lv.ownBlock = none \/ lv.ownBlock ≠ sv.ownBlock := by
    cases e : lv.ownBlock with
    | none => exact .inl rfl
    | some g => exact .inr (fun q => h.sl g q.symm e)
  refine gone_of h ((Turn.of_row g (fun j e => .inr (.inl e))).trans (Turn.of_grown (F := Blks d sv fv lv) hg2 (.inl rfl)) (fun _ q => .inl q)) ((h.blk.grown g (fun e => h.ns e.symm)).set 1 v) (o.keep hg2 (.inr nv)) ((h.safe.keep g nf).keep hg2 (.inr h.nf)) (World.ownsRow.kept (World.ownsRow.kept h.loose g nl) hg2 (.inr h.nl)) h.tl
    (fun j e => k j e) (fun j e => .inl e) (fun j e => .inl e) (fun j hj e q => ?_) (fun j hj e q => ?_) (fun j hj e => ?_)
  . have := hl j (.inr (.inr (.inl q))); omega
  . have := hl j (.inr (.inr (.inr q))); omega
  . have := hl j (.inr (.inr (.inl e))); omega
end
def CS (c : Nat) (w0 : World) (P1 : Value -> World -> Prop) (b k : Nat) : Nat -> Told -> World -> Prop
  | 0, _, w => w = w0
  | 1, r, w => ∃ v, r c = some v /\ P1 v w
  | _, r, w => ∃ v W, r c = some v /\ P1 v W /\ w = W.setCell ⟨b, k, none⟩ v
end Go.Proofs.YtflnodkajhokhaaDoor
namespace Go.Proofs.YtflnodkajhokhaaDoor
open Go.ChangeShapes Go.WideShapes Go.ChangeAt Go.RowKit
open DM
theorem Rd.turnF {w W : World} {F : Nat -> Prop} {y : Value} {l : List Nat} (h : Rd w y l) (T : Turn F w W) (hne : 0 < l.length -> ∀ g, y.ownBlock = some g -> ¬ F g) : Rd W y l := by
  rcases Nat.eq_zero_or_pos l.length with q | q
  . obtain rfl := List.eq_nil_of_length_eq_zero q
    exact rd_empty h
  . exact h.keep fun g hg hlt => T.block g hlt (hne q g hg)
end Go.Proofs.YtflnodkajhokhaaDoor
end

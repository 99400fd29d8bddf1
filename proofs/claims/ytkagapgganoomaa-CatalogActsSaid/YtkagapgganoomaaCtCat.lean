/- slices.Clone, slices.Grow, slices.Concat of snapshots: contracts. Own work. -/
import Derived.Test.YtkagapgganoomaaCtEq
import Derived.Test.YtkagapgganoomaaPutX
import Derived.Lib.AppendZerosOnto
import Derived.Deep.SlicePairs
namespace Go.Proofs.Ytkagapgganoomaa
open Go.ChangeShapes Go.WideShapes Go.ChangeAt Go.RowKit
open RT CT
set_option maxHeartbeats 400000 in
theorem cloneT_any (l : List Sn) (v : Value) (w : World) (h : RdT 34 w v l.length (sncs l)) (hn : l.length ≤ 2513169434916) : Calls Try.prog 55 #[v] w fun e w' => ∃ v', e = .returned v' ∧ w'.ownsRow w.heap.size 60 34 v' l.length (sncs l) ∧ Below w.heap.size w w' := by
  rcases h.form with ⟨rfl, hq⟩ | ⟨ad, cap, rfl, hc, hs⟩
  · obtain rfl : l = [] := List.eq_nil_of_length_eq_zero hq
    have hq := fun w => Lib.run_eql_slice_nil (P := Try.prog) w 27 60 none 0 0 0 0 Try.underlying27
    go_enter Try.func55, Try.ntmps55
    go_wp2_with fail
    go_ret
    exact ⟨_, rfl, owned_none _ _ _ _, Below.refl _ _⟩
  · obtain ⟨n, hnn⟩ : ∃ n, n = l.length := ⟨_, rfl⟩
    obtain ⟨CS, hCS⟩ : ∃ n, n = sncs l := ⟨_, rfl⟩
    have H1 := Lib.hid (sncs_one' l)
    rw [← hnn, ← hCS] at h ⊢
    rw [← hnn] at hn
    rw [← hCS] at H1
    have hq := fun w => Lib.run_eql_slice_nil (P := Try.prog) w 27 60 (some ad) n cap 0 0 Try.underlying27
    have H := Lib.hid (h.below ((Below.refl w.heap.size w).alloc (Nat.le_refl _) (.cells #[] 60)))
    have E2 := Lib.hid (ownT_empty w 60 34 (b := w.heap.size) rfl (B := w.heap.size) (Nat.le_refl _))
    have W2 := Lib.hid ((Below.refl w.heap.size w).alloc (Nat.le_refl _) (.cells #[] 60))
    clear h hs hnn hCS hc
    go_enter Try.func55, Try.ntmps55
    go_wp2_with (refine wpList_appTw rfl (.tmp 5) (.tmp 6) 27 60 34 56 zsn rfl Try.underlying27 infoSn rfl (by decide) w.heap.size (.slice (some ⟨w.heap.size, 0, none⟩) 0 0) (.slice (some ad) n cap) 0 n [] CS rfl rfl E2.out H.out H1.out (by omega) (by omega) W2.out.size ?_; intro v3 w3 o3 g3 k3; rw [List.nil_append, Nat.zero_add] at o3; have O3 := Lib.hid o3; have W3 := Lib.hid (W2.out.grown g3 W2.out.size (fun g hg => Nat.le_of_eq (Option.some.inj hg))); clear o3 g3 k3)
    go_ret
    exact ⟨_, rfl, O3.out, W3.out⟩
theorem run_growT (w : World) (ty : TypeId) (n : Nat) (h0 : 0 < n) (hn : n ≤ 1000000) :
    ∃ cap w', (Builtin.append_ #[27, 3] ty #[.slice none 0 0, .int .i64 (n : Int)]).run Try.prog w = .ok (.slice (some ⟨w.heap.size, 0, none⟩) n cap) w' ∧ n ≤ cap ∧ w'.ownsRow w.heap.size 60 34 (.slice (some ⟨w.heap.size, 0, none⟩) 0 cap) 0 [] ∧ Below w.heap.size w w' := by
  obtain ⟨i0, hi, hz0, hz1, hz2⟩ := info_parts infoSn
  have ht := Try.underlying27
  have htn := Try.underlying3
  have hr := Lib.run_append_grow_zeros (P := Try.prog) w 27 3 ty 60 i0 _ .i64 .i64 ht htn hi hz0 none 0 0 [] (by simp [Builtin.firstCells]) n h0 (by rw [hz1]; omega) (by omega) (by omega) (by rw [hz2]; omega) (growslice_fits (by omega) (by rw [hz2]; omega))
  rw [Nat.zero_add] at hr
  have hge := grownCap_ge w n 0 60
  have hcm : grownCap w n 0 60 ≤ maxLen := grownCap_le_maxLen w n 0 60 (by unfold maxLen; omega)
  refine ⟨_, _, hr, hge, ⟨rfl, .inr ⟨w.heap.size, _, _, rfl, Nat.le_refl _, heap_alloc_new w.drew _, Nat.zero_le _, hcm, ?_, by simp⟩⟩, ((Below.refl w.heap.size w).drew).alloc (by simp) _⟩
  have e2 : (Value.agg zsn.toArray).cells.size = 34 := by decide
  simp only [Array.size_append, List.size_toArray, size_zeroCells, e2, List.length_nil]
  omega
theorem wpList_growT {ops : Array Oper} {rest : List Oper} {o : Oper} {a : Act} {w : World} {Q : Exit → Act → World → Prop} (hgd : o.guard = none) (s x : Operand) (ho : o.op = .call { callee := .builtin .append, args := #[s, x], argTypes := #[27, 3] })
    (n : Nat) (h0 : 0 < n) (hn : n ≤ 1000000) (hs : a.eval s = .slice none 0 0) (hx : a.eval x = .int .i64 (n : Int))
    (h : ∀ cap w', n ≤ cap → w'.ownsRow w.heap.size 60 34 (.slice (some ⟨w.heap.size, 0, none⟩) 0 cap) 0 [] → Below w.heap.size w w' → wpList Try.prog ops Q rest (a.put o.dst (.slice (some ⟨w.heap.size, 0, none⟩) n cap)) w') : wpList Try.prog ops Q (o :: rest) a w := by
  obtain ⟨cap, w', hrun, h2, h3, h4⟩ := run_growT w o.type n h0 hn
  refine wpList_plain hgd fun _ hK => ?_
  unfold Oper.wp
  simp only [execOp, ho, resolve, invoke, builtin, Sem.run_bind, Sem.run_pure, Result.andThen_ok, List.map_toArray, List.map_cons, List.map_nil, hs, hx, hrun]
  exact hK _ _ (h cap w' h2 h3 h4)
set_option maxHeartbeats 400000 in
theorem growT_any (n : Nat) (hn : n ≤ 1000000) (w : World) : Calls Try.prog 70 #[.slice none 0 0, .int .i64 (n : Int)] w fun e w' => ∃ v, e = .returned v ∧ w'.ownsRow w.heap.size 60 34 v 0 [] ∧ Below w.heap.size w w' := by
  have hn0 : ¬ (n : Int) < 0 := by omega
  have aw : IntKind.i64.wrap (n : Int) = (n : Int) := by rw [IntKind.wrap_i64]; omega
  by_cases h0 : 0 < n
  · have h0' : (0 : Int) < (n : Int) := by omega
    go_enter Try.func70, Try.ntmps70
    go_wp2_with (refine wpList_growT rfl (.tmp 20) (.tmp 21) rfl n h0 hn rfl rfl ?_; intro cap w1 hge ho hb; have O1 := Lib.hid ho; have W1 := Lib.hid hb; clear ho hb)
    go_ret
    exact ⟨_, rfl, O1.out, W1.out⟩
  · obtain rfl : n = 0 := by omega
    go_enter Try.func70, Try.ntmps70
    go_wp2_with fail
    go_ret
    exact ⟨_, rfl, owned_none _ _ _ _, Below.refl _ _⟩
/-- A slice of slices of snapshots. -/
structure RdsT (w : World) (v : Value) (ls : List (List Sn)) : Prop where
  fits : ls.length ≤ 140737488355328
  form : ∃ ad cap, v = .slice (some ad) ls.length cap ∧ ls.length ≤ cap ∧ ∀ j l, ls[j]? = some l → ∃ x, w.cell? (ad.add j) = some x ∧ RdT 34 w x l.length (sncs l)
theorem RdsT.below {w w' : World} {v : Value} {ls : List (List Sn)} (h : RdsT w v ls) (hb : Below w.heap.size w w') : RdsT w' v ls := by
  refine ⟨h.fits, ?_⟩
  obtain ⟨ad, cap, e, hc, hs⟩ := h.form
  refine ⟨ad, cap, e, hc, fun j l hj => ?_⟩
  obtain ⟨x, h1, h2⟩ := hs j l hj
  exact ⟨x, cell_below h1 hb, h2.below hb⟩
theorem sncs_flat_take (ls : List (List Sn)) (k : Nat) (hk : k < ls.length) : sncs (ls.take k).flatten ++ sncs ls[k] = sncs (ls.take (k + 1)).flatten := by
  rw [← sncs_app, List.take_succ_eq_append_getElem hk, List.flatten_append]; simp
theorem len_flat_take (ls : List (List Sn)) (k : Nat) (hk : k < ls.length) : (ls.take k).flatten.length + ls[k].length = (ls.take (k + 1)).flatten.length := by
  rw [← List.length_append, List.take_succ_eq_append_getElem hk, List.flatten_append]; simp
theorem len_flat_le (ls : List (List Sn)) (k : Nat) : (ls.take k).flatten.length ≤ ls.flatten.length := by
  conv => rhs; rw [← List.take_append_drop k ls, List.flatten_append, List.length_append]
  omega
set_option maxRecDepth 100000 in
set_option maxHeartbeats 1000000 in
theorem concatT_any (ls : List (List Sn)) (hn : ls.flatten.length ≤ 1000000) (v : Value) (w : World) (hv : RdsT w v ls) :
    Calls Try.prog 52 #[v] w fun e w' => ∃ v', e = .returned v' ∧ w'.ownsRow w.heap.size 60 34 v' ls.flatten.length (sncs ls.flatten) ∧ Below w.heap.size w w' := by
  have HV := Lib.hid hv
  have HFI := hv.fits
  obtain ⟨ad, cap, rfl, hcap, -⟩ := hv.form
  have HTL := Lib.hid (fun k (hk : k < ls.length) => show (ls.take k).flatten.length + ls[k].length ≤ ls.flatten.length from by rw [len_flat_take ls k hk]; exact len_flat_le ls _)
  obtain ⟨T, hT⟩ : ∃ T, T = ls.flatten.length := ⟨_, rfl⟩
  rw [← hT] at HTL hn
  have HT := Lib.hid hT
  clear hv
  rw [← hT]
  clear hT
  go_enter Try.func52, Try.ntmps52
  go_wp2_with fail
  go_loopw [3, 11] (fun s i wr => ∃ k : Nat, k ≤ ls.length ∧ i = .int .i64 (k : Int) ∧ s = .int .i64 ((ls.take k).flatten.length : Nat) ∧ Below w.heap.size w wr) (fun _ i _ => ls.length - (intOf i).toNat)
  case atStart => exact ⟨0, Nat.zero_le _, rfl, rfl, Below.refl _ _⟩
  case round =>
    obtain ⟨k, hk, rfl, rfl, b0⟩ := hrel
    by_cases hlt : k < ls.length
    · obtain ⟨ad', cap', he, -, hcs⟩ := (HV.out.below b0).form
      cases he
      obtain ⟨x, hc, hr⟩ := hcs k _ (List.getElem?_eq_getElem hlt)
      obtain ⟨xa, xc, rfl, _⟩ := hr.shape
      have hle := HTL.out k hlt
      obtain ⟨A, hA⟩ : ∃ A, A = (ls.take k).flatten.length := ⟨_, rfl⟩
      obtain ⟨m, hm⟩ : ∃ m, m = ls[k].length := ⟨_, rfl⟩
      rw [← hA, ← hm] at hle
      rw [← hm] at hc hr
      rw [← hA]
      have HA := Lib.hid (show A + m = (ls.take (k + 1)).flatten.length by rw [← len_flat_take ls k hlt, hA, hm])
      have aw : IntKind.i64.wrap ((A : Int) + (m : Int)) = ((A + m : Nat) : Int) := by rw [IntKind.wrap_i64]; omega
      have hs0 : ¬ ((A + m : Nat) : Int) < 0 := by omega
      have B0 := Lib.hid b0
      clear hA hm hr b0 hcs
      go_wp2_with fail
      exact ⟨⟨k + 1, by omega, by go_num, by rw [← HA.out, Int.natCast_add], B0.out⟩, by simp [intOf]; omega⟩
    · obtain rfl : k = ls.length := by omega
      have HS := Lib.hid (show ((ls.take ls.length).flatten.length : Nat) = T by rw [List.take_length, HT.out])
      rw [HS.out]
      have B0 := Lib.hid b0
      have HG := Lib.hid (fun W => growT_any T hn W)
      clear b0
      go_wp2_with (go_at_call 70; (with_reducible refine (HG.out _).mono ?_); rintro e w2 ⟨v2, rfl, o2, b2⟩; have W2 := Lib.hid (B0.out.on b2); have O2 := Lib.hid (ownT_lower o2 B0.out.size); clear o2 b2)
      go_loopw [6, 27] (fun s i wr => ∃ k : Nat, k ≤ ls.length ∧ i = .int .i64 (k : Int) ∧ wr.ownsRow w.heap.size 60 34 s (ls.take k).flatten.length (sncs (ls.take k).flatten) ∧ Below w.heap.size w wr) (fun _ i _ => ls.length - (intOf i).toNat)
      case atStart => exact ⟨0, Nat.zero_le _, rfl, O2.out, W2.out⟩
      case round =>
        clear O2 W2
        obtain ⟨k, hk, rfl, ho, b1⟩ := hrel
        have O := Lib.hid ho
        have B1 := Lib.hid b1
        by_cases hlt : k < ls.length
        · obtain ⟨ad', cap', he, -, hcs⟩ := (HV.out.below b1).form
          cases he
          obtain ⟨x, hc, hr⟩ := hcs k _ (List.getElem?_eq_getElem hlt)
          obtain ⟨xa, xc, rfl, _⟩ := hr.shape
          have R := Lib.hid hr
          have hle := Lib.hid (show (ls.take k).flatten.length + ls[k].length ≤ 1000000 from Nat.le_trans (HTL.out k hlt) hn)
          have hfl := Lib.hid (sncs_flat_take ls k hlt)
          have hll := Lib.hid (len_flat_take ls k hlt)
          have H1 := Lib.hid (sncs_one' ls[k])
          obtain ⟨A, hA⟩ : ∃ A, A = (ls.take k).flatten.length := ⟨_, rfl⟩
          obtain ⟨m, hm⟩ : ∃ m, m = ls[k].length := ⟨_, rfl⟩
          obtain ⟨cA, hcA⟩ : ∃ A, A = sncs (ls.take k).flatten := ⟨_, rfl⟩
          obtain ⟨cm, hcm⟩ : ∃ A, A = sncs ls[k] := ⟨_, rfl⟩
          rw [← hA, ← hm] at hle hll
          rw [← hA, ← hcA] at O
          rw [← hm, ← hcm] at R
          rw [← hm] at hc
          rw [← hcA, ← hcm] at hfl
          rw [← hcm] at H1
          clear hr ho b1 hcs hA hm hcA hcm
          go_wp2_with (refine wpList_appTw rfl (.tmp 31) (.tmp 32) 27 60 34 56 zsn rfl Try.underlying27 infoSn rfl (by decide) w.heap.size _ _ A m cA cm rfl rfl O.out R.out H1.out (by have := hle.out; omega) (by have := hle.out; omega) B1.out.size ?_; intro v3 w3 o3 g3 k3; rw [hfl.out, hll.out] at o3; have O3 := Lib.hid o3; have W3 := Lib.hid (B1.out.grown g3 B1.out.size (fun g hg => (World.ownsRow.lt O.out g hg).1)); clear o3 g3 k3)
          exact ⟨⟨k + 1, by omega, by go_num, O3.out, W3.out⟩, by simp [intOf]; omega⟩
        · obtain rfl : k = ls.length := by omega
          clear ho b1
          go_wp2_with fail
          go_ret
          exact ⟨_, rfl, by have h := O.out; rw [List.take_length, ← HT.out] at h; exact h, B1.out⟩
end Go.Proofs.Ytkagapgganoomaa

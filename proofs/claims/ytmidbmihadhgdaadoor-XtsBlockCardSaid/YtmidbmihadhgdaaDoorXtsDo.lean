/- Sectors one by one, and both keys, as the document has them: contracts. Own work. -/
import Derived.Test.YtmidbmihadhgdaaDoorXtsSec
import Derived.Test.YtmidbmihadhgdaaDoorAesKeysW
import Derived.Deep.DeepCutAuto
namespace Go.Proofs.YtmidbmihadhgdaaDoor
open Go.ChangeShapes Go.WideShapes Go.ChangeAt Go.RowKit
open AM FM XM
theorem fold_off (off : Nat) : ∀ (L : List Value) (k : Nat) (A : List Value), off + k + L.length ≤ A.length → ((L.zipIdx k).foldl (fun cs (p : Value × Nat) => cs.setIfInBounds (off + p.2) p.1) A.toArray).toList = A.take (off + k) ++ L ++ A.drop (off + k + L.length)
  | [], k, A, _ => by simp
  | x :: L, k, A, h => by
    simp only [List.length_cons] at h
    have e := fold_off off L (k + 1) (A.set (off + k) x) (by rw [List.length_set]; omega)
    rw [List.zipIdx_cons, List.foldl_cons]
    have e2 : (A.toArray.setIfInBounds (off + k) x) = (A.set (off + k) x).toArray := by simp
    show (List.foldl _ (A.toArray.setIfInBounds (off + k) x) _).toList = _
    rw [e2, e]
    have h3 := splice_cons A (off + k) x L (by omega)
    unfold splice at h3
    rw [List.append_assoc, List.append_assoc, ← Nat.add_assoc, h3]
theorem fill_two (place : Nat → Option (Nat × Nat)) (n m : Nat) (h0 : place 0 = some (0, n)) (h1 : place 1 = some (n, m)) (Z : List Value) (hZ : Z.length = n + m) (A B : List Value) (hA : A.length = n) (hB : B.length = m) : Instr.fill place Z.toArray [(0, .agg A.toArray), (1, .agg B.toArray)] = some (A ++ B).toArray := by
  have cA : (Value.agg A.toArray).cells = A.toArray := rfl
  have cB : (Value.agg B.toArray).cells = B.toArray := rfl
  have eA := fold_off 0 A 0 Z (by omega)
  rw [Nat.zero_add, Nat.zero_add, List.take_zero, List.nil_append, hA] at eA
  have eA2 : A.toArray.zipIdx.foldl (fun cs (p : Value × Nat) => cs.setIfInBounds (0 + p.2) p.1) Z.toArray = (A ++ Z.drop n).toArray := by
    apply Array.ext'
    rw [← Array.foldl_toList, Array.toList_zipIdx]
    exact eA
  have eB := fold_off n B 0 (A ++ Z.drop n) (by rw [List.length_append, List.length_drop]; omega)
  have hdz : (A ++ Z.drop n).drop (n + B.length) = [] := List.drop_of_length_le (by rw [List.length_append, List.length_drop]; omega)
  rw [Nat.add_zero, hdz, List.take_append_of_le_length (by omega), List.take_of_length_le (by omega), List.append_nil] at eB
  have eB2 : B.toArray.zipIdx.foldl (fun cs (p : Value × Nat) => cs.setIfInBounds (n + p.2) p.1) (A ++ Z.drop n).toArray = (A ++ B).toArray := by
    apply Array.ext'
    rw [← Array.foldl_toList, Array.toList_zipIdx]
    exact eB
  unfold Instr.fill
  rw [h0]
  simp only [cA]
  rw [if_neg (by simp; omega)]
  show Instr.fill place (A.toArray.zipIdx.foldl (fun cs (p : Value × Nat) => cs.setIfInBounds (0 + p.2) p.1) Z.toArray) _ = _
  rw [eA2]
  unfold Instr.fill
  rw [h1]
  simp only [cB]
  rw [if_neg (by simp; omega)]
  show Instr.fill place (B.toArray.zipIdx.foldl (fun cs (p : Value × Nat) => cs.setIfInBounds (n + p.2) p.1) (A ++ Z.drop n).toArray) _ = _
  rw [eB2]
  rfl
theorem built_xts (A B : List Value) (hA : A.length = 240) (hB : B.length = 240) : Tryd.prog.built 38 [(0, .agg A.toArray), (1, .agg B.toArray)] = some (A ++ B).toArray := by
  have e : Tryd.prog.built 38 [(0, .agg A.toArray), (1, .agg B.toArray)] = Instr.fill (#[(0, 240), (240, 240)][·]?) (row8 (List.replicate 480 0)).toArray [(0, .agg A.toArray), (1, .agg B.toArray)] := by kernel_rfl
  rw [e]
  exact fill_two _ 240 240 rfl rfl _ (by rw [row8_len, List.length_replicate]) A B hA hB
theorem infoKeyR : (Tryd.prog.info? 23).map (·.size) = some 32 := by kernel_rfl
theorem zeroX (w : World) : (zeroValue 38).run Tryd.prog w = .ok (.agg (row8 (List.replicate 480 0)).toArray) w := by kernel_rfl
set_option maxRecDepth 100000 in
set_option maxHeartbeats 1000000 in
theorem xref_new (K L : List Nat) (hK : Bytes 32 K) (hL : Bytes 32 L) (w : World) (ht : TabA w) :
    Calls Tryd.prog 12 #[.agg (row8 K).toArray, .agg (row8 L).toArray] w fun e w' => e = .returned (.agg (row8 (sched K ++ sched L)).toArray) ∧ Below w.heap.size w w' := by
  obtain ⟨SA, hSA⟩ : ∃ S, S = sched K := ⟨_, rfl⟩
  obtain ⟨SB, hSB⟩ : ∃ S, S = sched L := ⟨_, rfl⟩
  have bA : Bytes 240 SA := by rw [hSA]; exact sched_bytes hK.2
  have bB : Bytes 240 SB := by rw [hSB]; exact sched_bytes hL.2
  obtain ⟨C0, hC0⟩ : ∃ C0, C0 = row8 (List.replicate 480 0) := ⟨_, rfl⟩
  have hz : ∀ w, (zeroValue 38).run Tryd.prog w = .ok (.agg C0.toArray) w := by rw [hC0]; exact zeroX
  have hc0 : C0.length = 480 := by rw [hC0, row8_len, List.length_replicate]
  obtain ⟨wr, hwr⟩ : ∃ W, W = ((w.alloc (.cells (row8 K).toArray 23)).alloc (.cells (row8 L).toArray 23)).alloc (.cells C0.toArray 38) := ⟨_, rfl⟩
  have w1 := (Below.refl w.heap.size w).alloc (Nat.le_refl _) (.cells (row8 K).toArray 23)
  have w2 := w1.alloc w1.size (.cells (row8 L).toArray 23)
  have w3 := w2.alloc w2.size (.cells C0.toArray 38)
  have N1 := Lib.hid (((Blk.new w 23 (row8 K) _ rfl).alloc (.cells (row8 L).toArray 23)).alloc (.cells C0.toArray 38))
  have M1 := Lib.hid ((Blk.new (w.alloc (.cells (row8 K).toArray 23)) 23 (row8 L) (w.heap.size + 1) (by simp)).alloc (.cells C0.toArray 38))
  have R1 := Lib.hid (Blk.new ((w.alloc (.cells (row8 K).toArray 23)).alloc (.cells (row8 L).toArray 23)) 38 C0 (w.heap.size + 1 + 1) (by simp))
  rw [← hwr] at w3 N1 M1 R1
  have B1 := Lib.hid w3
  have HWR := Lib.hid hwr
  have HX := Lib.hid (ht.below w3)
  have HC1 := Lib.hid (fun W (hW : Below wr.heap.size wr W) => asched_any K hK W (HX.out.below hW))
  have HC2 := Lib.hid (fun W (hW : Below wr.heap.size wr W) => asched_any L hL W (HX.out.below hW))
  rw [← hSA] at HC1 ⊢
  rw [← hSB] at HC2 ⊢
  have HBD := Lib.hid (built_xts (row8 SA) (row8 SB) (by rw [row8_len]; exact bA.1) (by rw [row8_len]; exact bB.1))
  obtain ⟨M, hM⟩ : ∃ M, M = SA ++ SB := ⟨_, rfl⟩
  rw [← row8_app, ← hM] at HBD
  rw [← hM]
  have M480 := Lib.hid (show (row8 M).length = 480 by rw [hM, row8_len, List.length_append, bA.1, bB.1])
  have K32 := Lib.hid (show (row8 K).length = 32 by rw [row8_len]; exact hK.1)
  have L32 := Lib.hid (show (row8 L).length = 32 by rw [row8_len]; exact hL.1)
  clear hC0 w1 w2 w3 hwr ht hK hL hM bA bB hSA hSB
  go_enter Tryd.func12, Tryd.ntmps12
  go_upto_region 1 with (fail)
  rw [← HWR.out]
  refine wp_region_g (by kernel_rfl) 5 (by decide) (by kernel_rfl) (by kernel_rfl) (by kernel_rfl) wr.heap.size (Nat.le_refl _) [.val (.agg (row8 K).toArray), .val (.agg (row8 SA).toArray), .val (.agg (row8 L).toArray), .val (.agg (row8 SB).toArray), .val (.agg (row8 M).toArray)] (fun _ => 6) ?_ ?_
  · refine ⟨?_, ?_, ?_, ?_, ?_, trivial⟩
    · intro a w' hF hB hd
      have e2 : a.eval (.tmp 2) = .pointer (some ⟨w.heap.size, 0, none⟩) := hF 2 (by decide +kernel)
      exact doesG_wp rfl rfl fun K' hK' => wp_load_mid 23 (.tmp 2) rfl w.heap.size 0 e2 (row8 K) _ (N1.out.below hB N1.out.lt).range Tryd.underlying23 rfl (by rw [K32.out]; exact infoKeyR) (hK' _ _ rfl (Below.refl _ _))
    · intro a w' hF hB hd
      have e5 : a.eval (.tmp 5) = .agg (row8 K).toArray := hd 0 (by decide +kernel) (.inr (by decide))
      exact doesG_call rfl (ex_call (vs := #[.agg (row8 K).toArray]) rfl (by simp only [List.map_toArray, List.map_cons, List.map_nil, e5]) (by go_simp)) rfl ((HC1.out w' hB).mono fun e w2 hh => ⟨_, hh.1, rfl, hh.2⟩)
    · intro a w' hF hB hd
      have e3 : a.eval (.tmp 3) = .pointer (some ⟨w.heap.size + 1, 0, none⟩) := hF 3 (by decide +kernel)
      exact doesG_wp rfl rfl fun K' hK' => wp_load_mid 23 (.tmp 3) rfl (w.heap.size + 1) 0 e3 (row8 L) _ (M1.out.below hB M1.out.lt).range Tryd.underlying23 rfl (by rw [L32.out]; exact infoKeyR) (hK' _ _ rfl (Below.refl _ _))
    · intro a w' hF hB hd
      have e7 : a.eval (.tmp 7) = .agg (row8 L).toArray := hd 2 (by decide +kernel) (.inr (by decide))
      exact doesG_call rfl (ex_call (vs := #[.agg (row8 L).toArray]) rfl (by simp only [List.map_toArray, List.map_cons, List.map_nil, e7]) (by go_simp)) rfl ((HC2.out w' hB).mono fun e w2 hh => ⟨_, hh.1, rfl, hh.2⟩)
    · intro a w' hF hB hd
      have e6 : a.eval (.tmp 6) = .agg (row8 SA).toArray := hd 1 (by decide +kernel) (.inr (by decide))
      have e8 : a.eval (.tmp 8) = .agg (row8 SB).toArray := hd 3 (by decide +kernel) (.inr (by decide))
      refine doesG_val rfl (v := .agg (row8 M).toArray) ?_ rfl rfl
      unfold execOp
      simp only [List.map_toArray, List.map_cons, List.map_nil, e6, e8, Sem.run_bind, run_build w' 38 #[(0, .agg (row8 SA).toArray), (1, .agg (row8 SB).toArray)] _ HBD.out, Result.andThen_ok, Sem.run_pure]
  · intro vs w7 hB hv hap
    have er : vs 4 = .agg (row8 M).toArray := hv 4 (by decide) (by decide)
    simp only [List.take_succ_cons, List.take_zero, List.drop_succ_cons, List.drop_zero, putOps, Act.put, List.setIfInBounds_toArray, List.set_cons_zero, List.set_cons_succ, er]
    have R7 := Lib.hid (R1.out.below hB R1.out.lt)
    have B7 := Lib.hid (B1.out.on hB)
    clear hv hap er hB N1 M1 R1 B1
    generalize vs 0 = v0 at *
    generalize vs 1 = v1 at *
    generalize vs 2 = v2 at *
    generalize vs 3 = v3 at *
    go_wp2_with (refine wpList_store_mid rfl 38 (.tmp 4) (.tmp 9) rfl (w.heap.size + 1 + 1) 0 (row8 M).toArray rfl rfl (R7.out.there _ (by rw [List.size_toArray, M480.out, hc0])) (by rw [List.size_toArray, M480.out]; exact info480) (row8_one _) ?_)
    have fin := R7.out.whole (row8 M) (by rw [M480.out, hc0])
    exact bodyPost_ret (v := .agg (row8 M).toArray) (results_mid rfl _ _ (w.heap.size + 1 + 1) (row8 M) _ rfl fin.range Tryd.underlying38 rfl (by rw [M480.out]; exact info480)) rfl ⟨rfl, below_setCells (w.heap.size + 1 + 1) (by omega) _ 0 _ B7.out⟩
theorem xsec_any (op : Bool) (KA KB : List Nat) (hA : Bytes 240 KA) (hB : Bytes 240 KB) (n : Nat) (hn : n < 2 ^ 64) (v : Value) (b : List Nat) (hbl : b.length = 512) (w : World) (hv : Rd w v b) (ht : TabA w) :
    Calls Tryd.prog 30 #[.agg (row8 (KA ++ KB)).toArray, .int .u64 (n : Int), v, .bool op] w fun e w' => ∃ y, e = .returned y ∧ Own w' w.heap.size y (sec op (rk KA) (rk KB) n b) ∧ Below w.heap.size w w' := by
  cases op
  · exact xsec_seal KA KB hA hB n hn v b hbl w hv ht
  · exact xsec_open KA KB hA hB n hn v b hbl w hv ht
/-- A piece of a slice. -/
theorem Rd.piece {w : World} {ad : Addr} {n cap : Nat} {l : List Nat} (h : Rd w (.slice (some ad) n cap) l) (o m c : Nat) (hm : o + m ≤ l.length) (hc : m ≤ c) : Rd w (.slice (some (ad.add o)) m c) ((l.drop o).take m) := by
  have e1 : ((l.drop o).take m).length = m := by rw [List.length_take, List.length_drop]; omega
  refine ⟨gb_take_byte _ m (fun j => by rw [gb_drop]; exact h.byte _), by rw [e1]; have := h.fits; omega, .inr ⟨ad.add o, c, by rw [e1], by rw [e1]; exact hc, fun j hj => ?_⟩⟩
  rw [gb_take _ m j (by omega), gb_drop, add_of_add]
  obtain ⟨ad', e, hcell⟩ := h.at_ (o + j) (by omega)
  cases e
  exact hcell
theorem ex_slice_lh {o : Oper} {a : Act} {w : World} {x y z : Operand} {ad : Addr} {n cap k h : Nat} (ho : o.op = .slice 26 x (some y) (some z) none) (hx : a.eval x = .slice (some ad) n cap) (hy : a.eval y = .int .i64 (k : Int)) (hz : a.eval z = .int .i64 (h : Int)) (hkh : k ≤ h) (hh : h ≤ cap) (hc : k < cap) :
    (execOp a.eval o).run Tryd.prog w = .ok (.value (.slice (some (ad.add k)) (h - k) (cap - k))) w := by
  have q : (k : Int) ≤ (h : Int) := by omega
  have q3 : (h : Int) ≤ (cap : Int) := by omega
  have q2 : cap ≠ k := by omega
  unfold execOp
  rw [ho]
  simp only [Option.map_some, Option.map_none, hx, hy, hz]
  go_simp
theorem secs_len (op : Bool) {k1 k2 : Nat → List Nat} (_ : ∀ n, Bytes 16 (k1 n)) (_ : ∀ n, Bytes 16 (k2 n)) (n : Nat) (b : List Nat) (j : Nat) : (secs op k1 k2 n b j).length = 512 * j := by
  unfold secs openTo sealTo
  cases op
  · rw [if_neg (by decide), bw_len _ fun q _ => row_len _]; omega
  · rw [if_pos rfl, bw_len _ fun q _ => row_len _]; omega
theorem sec_len (op : Bool) (k1 k2 : Nat → List Nat) (n : Nat) (b : List Nat) : (sec op k1 k2 n b).length = 512 := by
  unfold sec
  cases op
  · rw [if_neg (by decide), bw_len _ fun q _ => row_len _]
  · rw [if_pos rfl, bw_len _ fun q _ => row_len _]
set_option maxRecDepth 100000 in
set_option maxHeartbeats 4000000 in
theorem xdo_any (op : Bool) (KA KB : List Nat) (hA : Bytes 240 KA) (hB : Bytes 240 KB) (n : Nat) (hn : n < 2 ^ 64) (v : Value) (b : List Nat) (w : World) (hv : Rd w v b) (ht : TabA w) :
    Calls Tryd.prog 21 #[.agg (row8 (KA ++ KB)).toArray, .int .u64 (n : Int), v, .bool op] w fun e w' => ∃ y, e = .returned (.tuple #[y, .int .i64 (xerr b.length)]) ∧ Rd w' y (if xerr b.length = 0 then secs op (rk KA) (rk KB) n b (b.length / 512) else []) ∧ Below w.heap.size w w' := by
  obtain ⟨ab, cb, rfl, hcb⟩ := hv.shape
  obtain ⟨X, hX⟩ : ∃ X, X = KA ++ KB := ⟨_, rfl⟩
  have X480 := Lib.hid (show (row8 X).length = 480 by rw [hX, row8_len, List.length_append, hA.1, hB.1])
  have B1 := Lib.hid ((Below.refl w.heap.size w).alloc (Nat.le_refl _) (.cells (row8 X).toArray 38))
  have X1 := Lib.hid (Blk.new w 38 (row8 X) _ rfl)
  have HSC := Lib.hid (fun q (hq : q < 2 ^ 64) (y : Value) (c : List Nat) (hc : c.length = 512) W (hW : Below w.heap.size w W) (hr : Rd W y c) => xsec_any op KA KB hA hB q hq y c hc W hr (ht.below hW))
  rw [← hX] at HSC ⊢
  have HV := Lib.hid (fun W (hW : Below w.heap.size w W) => hv.below hW)
  obtain ⟨k1, hk1⟩ : ∃ k, k = rk KA := ⟨_, rfl⟩
  obtain ⟨k2, hk2⟩ : ∃ k, k = rk KB := ⟨_, rfl⟩
  have HK1 := Lib.hid (show ∀ m, Bytes 16 (k1 m) by rw [hk1]; exact fun m => rk_bytes hA.2 m)
  have HK2 := Lib.hid (show ∀ m, Bytes 16 (k2 m) by rw [hk2]; exact fun m => rk_bytes hB.2 m)
  rw [← hk1, ← hk2] at HSC ⊢
  obtain ⟨m, hm⟩ : ∃ m, m = b.length := ⟨_, rfl⟩
  rw [← hm] at hcb ⊢
  have HM := Lib.hid hm
  clear hv ht hA hB hX hk1 hk2 hm
  by_cases h1 : m % 512 ≠ 0
  · have hx : xerr m = 2 := by unfold xerr; rw [if_pos (.inl h1)]
    rw [hx, if_neg (by decide)]
    have h1I : ((m : Int) % 512 == 0) = false := by simp; omega
    clear hx HSC
    go_enter Tryd.func21, Tryd.ntmps21
    go_wp2_with fail
    go_ret2
    exact ⟨.slice none 0 0, rfl, Rd.none_ _, B1.out⟩
  have h1I : ((m : Int) % 512 == 0) = true := by simp; omega
  by_cases h2 : 65536 < m
  · have hx : xerr m = 2 := by unfold xerr; rw [if_pos (.inr h2)]
    rw [hx, if_neg (by decide)]
    have h2I : (65536 : Int) < (m : Int) := by omega
    clear hx HSC
    go_enter Tryd.func21, Tryd.ntmps21
    go_wp2_with fail
    go_ret2
    exact ⟨.slice none 0 0, rfl, Rd.none_ _, B1.out⟩
  have h2I : ¬ (65536 : Int) < (m : Int) := by omega
  have hx : xerr m = 0 := by unfold xerr; rw [if_neg (by omega)]
  obtain ⟨N, hN⟩ : ∃ N, m = 512 * N := ⟨m / 512, by omega⟩
  have hN128 : N ≤ 128 := by omega
  rw [hx, if_pos rfl, show m / 512 = N by omega]
  have HNN := Lib.hid hN
  clear hx hN
  go_enter Tryd.func21, Tryd.ntmps21
  go_upto_region 5 with (fail)
  go_loopw [10, 11] (fun x i wr => ∃ j : Nat, j ≤ N ∧ i = .int .i64 (512 * (j : Int)) ∧ Own wr (w.heap.size + 1) x (secs op k1 k2 n b j) ∧ Blk wr w.heap.size 38 (row8 X) ∧ Below w.heap.size w wr ∧ w.heap.size + 1 ≤ wr.heap.size) (fun _ i _ => m - (intOf i).toNat)
  case atStart => exact ⟨0, by omega, rfl, by rw [secs_zero]; exact Own.none_ _ _, X1.out, B1.out, by simp⟩
  case round =>
    clear X1 B1
    obtain ⟨j, hj, rfl, y0, x0, b0, s0⟩ := hrel
    have hyl := secs_len op HK1.out HK2.out n b j
    obtain ⟨yo, yc, hys, hyc⟩ := y0.rd.shape
    rw [hyl] at hys hyc
    subst hys
    by_cases hlt : j < N
    · have hltI : 512 * (j : Int) < (m : Int) := by have := HNN.out; omega
      obtain ⟨ad, had, _⟩ := (HV.out wr b0).at_ 0 (by rw [← HM.out]; have := HNN.out; omega)
      subst had
      obtain ⟨c, hc⟩ : ∃ c, c = (b.drop (512 * j)).take 512 := ⟨_, rfl⟩
      have hcl : c.length = 512 := by rw [hc, List.length_take, List.length_drop, ← HM.out]; have := HNN.out; omega
      obtain ⟨q, hq⟩ : ∃ q, q = (n + j) % 2 ^ 64 := ⟨_, rfl⟩
      have hq64 : q < 2 ^ 64 := by rw [hq]; exact Nat.mod_lt _ (by decide)
      have hst := secs_step op k1 k2 n b j
      rw [← hc, ← hq] at hst
      obtain ⟨F, hF⟩ : ∃ F, F = sec op k1 k2 q c := ⟨_, rfl⟩
      rw [← hF] at hst
      have hFl : F.length = 512 := by rw [hF]; exact sec_len _ _ _ _ _
      have HST := Lib.hid hst
      have HPC := Lib.hid (fun W (hW : Below w.heap.size w W) => (show Rd W (.slice (some (ad.add (512 * j))) 512 (cb - 512 * j)) c from by rw [hc]; exact (HV.out W hW).piece (512 * j) 512 (cb - 512 * j) (by rw [← HM.out]; have := HNN.out; omega) (by have := HNN.out; omega)))
      have HCALL := Lib.hid (fun W (hW : Below wr.heap.size wr W) => HSC.out q hq64 (.slice (some (ad.add (512 * j))) 512 (cb - 512 * j)) c hcl W (b0.on hW) (HPC.out W (b0.on hW)))
      rw [← hF] at HCALL
      have hqI : ((n : Int) + (j : Int)) % 18446744073709551616 = (q : Int) := by rw [hq]; omega
      have HYF := Lib.hid (fun g (hg : (Value.slice yo (512 * j) yc).ownBlock = some g) => y0.from g hg)
      have f1 : (0 : Int) ≤ 512 * (j : Int) := by omega
      have f3 : 512 * (j : Int) + 512 ≤ (cb : Int) := by have := HNN.out; omega
      have f4 : (512 * (j : Int)).toNat = 512 * j := by omega
      have f5 : (512 * (j : Int) + 512).toNat = 512 * j + 512 := by omega
      have f6 : cb ≠ 512 * j := by omega
      have f7 : 512 * (j : Int) / 512 = (j : Int) := by omega
      have Y2 := Lib.hid y0
      have X2 := Lib.hid x0
      have B2 := Lib.hid b0
      have HYL := Lib.hid hyl
      clear hc hq hF hst y0 x0 b0 hyl hcl hq64
      go_upto_region 7 with (fail)
      refine wp_region_g (by kernel_rfl) 14 (by decide) (by kernel_rfl) (by kernel_rfl) (by kernel_rfl) wr.heap.size (Nat.le_refl _) [.val (.slice yo (512 * j) yc), .val (.agg (row8 X).toArray), .val (.int .u64 (n : Int)), .val (.int .i64 (512 * (j : Int))), .val (.int .i64 (j : Int)), .val (.int .u64 (j : Int)), .val (.int .u64 (q : Int)), .val (.slice (some ad) m cb), .val (.int .i64 (512 * (j : Int))), .val (.int .i64 (512 * (j : Int))), .val (.int .i64 (512 * (j : Int) + 512)), .val (.slice (some (ad.add (512 * j))) 512 (cb - 512 * j)), .val (.bool op), .rd F] (fun _ => 16) ?_ ?_
      · refine ⟨?_, ?_, ?_, ?_, ?_, ?_, ?_, ?_, ?_, ?_, ?_, ?_, ?_, ?_, trivial⟩
        · intro a w' hF hB hd
          have e10 : a.eval (.tmp 10) = .slice yo (512 * j) yc := hF 10 (by decide +kernel)
          exact doesG_val rfl (ex_move rfl e10) rfl rfl
        · intro a w' hF hB hd
          have e4 : a.eval (.tmp 4) = .pointer (some ⟨w.heap.size, 0, none⟩) := hF 4 (by decide +kernel)
          exact doesG_wp rfl rfl fun K' hK' => wp_load_mid 38 (.tmp 4) rfl w.heap.size 0 e4 (row8 X) _ (X2.out.below hB X2.out.lt).range Tryd.underlying38 rfl (by rw [X480.out]; exact info480) (hK' _ _ rfl (Below.refl _ _))
        · intro a w' hF hB hd
          have e1 : a.eval (.tmp 1) = .int .u64 (n : Int) := hF 1 (by decide +kernel)
          exact doesG_val rfl (ex_move rfl e1) rfl rfl
        · intro a w' hF hB hd
          have e11 : a.eval (.tmp 11) = .int .i64 (512 * (j : Int)) := hF 11 (by decide +kernel)
          exact doesG_val rfl (ex_move rfl e11) rfl rfl
        · intro a w' hF hB hd
          have e30 : a.eval (.tmp 30) = .int .i64 (512 * (j : Int)) := hd 3 (by decide +kernel) (.inr (by decide))
          exact doesG_val rfl (v := .int .i64 (j : Int)) (by unfold execOp; simp only [e30]; go_simp; try (rw [IntKind.wrap_i64] <;> omega)) rfl rfl
        · intro a w' hF hB hd
          have e31 : a.eval (.tmp 31) = .int .i64 (j : Int) := hd 4 (by decide +kernel) (.inr (by decide))
          exact doesG_val rfl (v := .int .u64 (j : Int)) (by unfold execOp; simp only [e31]; go_simp; rw [IntKind.wrap_u64]; omega) rfl rfl
        · intro a w' hF hB hd
          have e29 : a.eval (.tmp 29) = .int .u64 (n : Int) := hd 2 (by decide +kernel) (.inr (by decide))
          have e32 : a.eval (.tmp 32) = .int .u64 (j : Int) := hd 5 (by decide +kernel) (.inr (by decide))
          exact doesG_val rfl (v := .int .u64 (q : Int)) (by unfold execOp; simp only [e29, e32]; go_simp; rw [IntKind.wrap_u64]; exact hqI) rfl rfl
        · intro a w' hF hB hd
          have e2 : a.eval (.tmp 2) = .slice (some ad) m cb := hF 2 (by decide +kernel)
          exact doesG_val rfl (ex_move rfl e2) rfl rfl
        · intro a w' hF hB hd
          have e11 : a.eval (.tmp 11) = .int .i64 (512 * (j : Int)) := hF 11 (by decide +kernel)
          exact doesG_val rfl (ex_move rfl e11) rfl rfl
        · intro a w' hF hB hd
          have e11 : a.eval (.tmp 11) = .int .i64 (512 * (j : Int)) := hF 11 (by decide +kernel)
          exact doesG_val rfl (ex_move rfl e11) rfl rfl
        · intro a w' hF hB hd
          have e36 : a.eval (.tmp 36) = .int .i64 (512 * (j : Int)) := hd 9 (by decide +kernel) (.inr (by decide))
          exact doesG_val rfl (v := .int .i64 (512 * (j : Int) + 512)) (by unfold execOp; simp only [e36]; go_simp; rw [IntKind.wrap_i64] <;> omega) rfl rfl
        · intro a w' hF hB hd
          have e34 : a.eval (.tmp 34) = .slice (some ad) m cb := hd 7 (by decide +kernel) (.inr (by decide))
          have e35 : a.eval (.tmp 35) = .int .i64 (512 * (j : Int)) := hd 8 (by decide +kernel) (.inr (by decide))
          have e37 : a.eval (.tmp 37) = .int .i64 (512 * (j : Int) + 512) := hd 10 (by decide +kernel) (.inr (by decide))
          exact doesG_val rfl (v := .slice (some (ad.add (512 * j))) 512 (cb - 512 * j)) ((ex_slice_lh (k := 512 * j) (h := 512 * j + 512) rfl e34 (e35.trans (congrArg (Value.int .i64) (show 512 * (j : Int) = ((512 * j : Nat) : Int) by omega))) (e37.trans (congrArg (Value.int .i64) (show 512 * (j : Int) + 512 = ((512 * j + 512 : Nat) : Int) by omega))) (by omega) (by omega) (by omega)).trans (by rw [Nat.add_sub_cancel_left])) rfl rfl
        · intro a w' hF hB hd
          have e3 : a.eval (.tmp 3) = .bool op := hF 3 (by decide +kernel)
          exact doesG_val rfl (ex_move rfl e3) rfl rfl
        · intro a w' hF hB hd
          have e28 : a.eval (.tmp 28) = .agg (row8 X).toArray := hd 1 (by decide +kernel) (.inr (by decide))
          have e33 : a.eval (.tmp 33) = .int .u64 (q : Int) := hd 6 (by decide +kernel) (.inr (by decide))
          have e38 : a.eval (.tmp 38) = .slice (some (ad.add (512 * j))) 512 (cb - 512 * j) := hd 11 (by decide +kernel) (.inr (by decide))
          have e39 : a.eval (.tmp 39) = .bool op := hd 12 (by decide +kernel) (.inr (by decide))
          exact doesG_made rfl (ex_call (vs := #[.agg (row8 X).toArray, .int .u64 (q : Int), .slice (some (ad.add (512 * j))) 512 (cb - 512 * j), .bool op]) rfl (by simp only [List.map_toArray, List.map_cons, List.map_nil, e28, e33, e38, e39]) (by go_simp)) ((HCALL.out w' hB).mono fun e w2 hh => by
            obtain ⟨y, rfl, hy, hb⟩ := hh
            exact ⟨_, rfl, hy.rd, hb, fun g hg => hy.from g (own_held' hy.rd hg)⟩)
      · intro vs w6 hB hv hap
        have e27 : vs 0 = .slice yo (512 * j) yc := hv 0 (by decide) (by decide)
        have r6 : Rd w6 (vs 13) F := hv 13 (by decide) (by decide)
        obtain ⟨fo, fc, e40, _⟩ := r6.shape
        rw [e40] at r6
        simp only [List.take_succ_cons, List.take_zero, List.drop_succ_cons, List.drop_zero, putOps, Act.put, List.setIfInBounds_toArray, List.set_cons_zero, List.set_cons_succ, e27, e40]
        have R6 := Lib.hid r6
        have Y6 := Lib.hid (Y2.out.below hB)
        have X6 := Lib.hid (X2.out.below hB X2.out.lt)
        have B6 := Lib.hid (B2.out.on hB)
        have S6 := Lib.hid (Nat.le_trans s0 hB.size)
        clear hv hap e27 e40 hB Y2 X2 B2 r6 s0
        generalize vs 1 = v1 at *
        generalize vs 2 = v2 at *
        generalize vs 3 = v3 at *
        generalize vs 4 = v4 at *
        generalize vs 5 = v5 at *
        generalize vs 6 = v6 at *
        generalize vs 7 = v7 at *
        generalize vs 8 = v8 at *
        generalize vs 9 = v9 at *
        generalize vs 10 = v10 at *
        generalize vs 11 = v11 at *
        generalize vs 12 = v12 at *
        go_wp2_with ((with_reducible show wpList _ _ _ _ _ _); refine wpList_app rfl (.tmp 27) (.tmp 40) rfl (w.heap.size + 1) (.slice yo (512 * j) yc) (.slice fo F.length fc) (secs op k1 k2 n b j) F rfl rfl Y6.out R6.out (by rw [HYL.out, hFl]; omega) S6.out ?_; intro v' wc yc' gc hc'; rw [HST.out] at yc'; have Yc := Lib.hid yc'; have Xc := Lib.hid (X6.out.grown gc (fun q => by have := (HYF.out _ q.symm).1; omega)); have Bc := Lib.hid (B6.out.grown gc B6.out.size (fun q hq => by have := (HYF.out q hq).1; omega)); have Sc := Lib.hid (Nat.le_trans S6.out gc.size); clear yc' gc hc')
        exact ⟨⟨j + 1, by omega, by go_num, Yc.out, Xc.out, Bc.out, Sc.out⟩, by have := HNN.out; simp [intOf]; omega⟩
    · have hltI : ¬ 512 * (j : Int) < (m : Int) := by have := HNN.out; omega
      obtain rfl : j = N := by omega
      have Y1 := Lib.hid y0.rd
      have B1 := Lib.hid b0
      clear y0 x0 b0 hyl
      go_wp2_with fail
      go_ret2
      exact ⟨_, rfl, Y1.out, B1.out⟩
set_option maxRecDepth 100000 in
theorem xref_seal (KA KB : List Nat) (hA : Bytes 240 KA) (hB : Bytes 240 KB) (n : Nat) (hn : n < 2 ^ 64) (v : Value) (b : List Nat) (w : World) (hv : Rd w v b) (ht : TabA w) :
    Calls Tryd.prog 13 #[.agg (row8 (KA ++ KB)).toArray, .int .u64 (n : Int), v] w fun e w' => ∃ y, e = .returned (.tuple #[y, .int .i64 (xerr b.length)]) ∧ Rd w' y (if xerr b.length = 0 then xseal (rk KA) (rk KB) n b else []) ∧ Below w.heap.size w w' := by
  obtain ⟨X, hX⟩ : ∃ X, X = KA ++ KB := ⟨_, rfl⟩
  have X480 := Lib.hid (show (row8 X).length = 480 by rw [hX, row8_len, List.length_append, hA.1, hB.1])
  have B1 := (Below.refl w.heap.size w).alloc (Nat.le_refl _) (.cells (row8 X).toArray 38)
  have X1 := Lib.hid (Blk.new w 38 (row8 X) _ rfl)
  have HD := Lib.hid (xdo_any false KA KB hA hB n hn v b _ (hv.below B1) (ht.below B1))
  rw [← hX] at HD ⊢
  have HB1 := Lib.hid B1
  obtain ⟨z, hz⟩ : ∃ z, z = xerr b.length := ⟨_, rfl⟩
  obtain ⟨R, hR⟩ : ∃ R, R = (if xerr b.length = 0 then secs false (rk KA) (rk KB) n b (b.length / 512) else []) := ⟨_, rfl⟩
  have hR2 : R = (if xerr b.length = 0 then xseal (rk KA) (rk KB) n b else []) := by
    rw [hR]
    split
    · next h =>
      unfold xerr at h
      split at h
      · cases h
      · exact secs_all false _ _ n b _ (by omega)
    · rfl
  rw [← hR, ← hz] at HD
  rw [← hR2, ← hz]
  obtain ⟨ab, cb, rfl, _⟩ := hv.shape
  clear hX B1 hv ht hz hR hR2
  go_enter Tryd.func13, Tryd.ntmps13
  go_wp2_with (first
    | (refine wpList_load_mid rfl 38 (.tmp 3) rfl w.heap.size 0 rfl (row8 X) _ X1.out.range Tryd.underlying38 rfl (by rw [X480.out]; exact info480) ?_)
    | (go_at_call 21; (with_reducible refine HD.out.mono ?_); rintro e w4 ⟨y, rfl, r4, b4⟩; obtain ⟨a4, c4, rfl, _⟩ := r4.shape; have R4 := Lib.hid r4; have B4 := Lib.hid (HB1.out.on b4); clear r4 b4))
  go_ret2
  exact ⟨_, rfl, R4.out, B4.out⟩
set_option maxRecDepth 100000 in
theorem xref_open (KA KB : List Nat) (hA : Bytes 240 KA) (hB : Bytes 240 KB) (n : Nat) (hn : n < 2 ^ 64) (v : Value) (b : List Nat) (w : World) (hv : Rd w v b) (ht : TabA w) :
    Calls Tryd.prog 15 #[.agg (row8 (KA ++ KB)).toArray, .int .u64 (n : Int), v] w fun e w' => ∃ y, e = .returned (.tuple #[y, .int .i64 (xerr b.length)]) ∧ Rd w' y (if xerr b.length = 0 then xopen (rk KA) (rk KB) n b else []) ∧ Below w.heap.size w w' := by
  obtain ⟨X, hX⟩ : ∃ X, X = KA ++ KB := ⟨_, rfl⟩
  have X480 := Lib.hid (show (row8 X).length = 480 by rw [hX, row8_len, List.length_append, hA.1, hB.1])
  have B1 := (Below.refl w.heap.size w).alloc (Nat.le_refl _) (.cells (row8 X).toArray 38)
  have X1 := Lib.hid (Blk.new w 38 (row8 X) _ rfl)
  have HD := Lib.hid (xdo_any true KA KB hA hB n hn v b _ (hv.below B1) (ht.below B1))
  rw [← hX] at HD ⊢
  have HB1 := Lib.hid B1
  obtain ⟨z, hz⟩ : ∃ z, z = xerr b.length := ⟨_, rfl⟩
  obtain ⟨R, hR⟩ : ∃ R, R = (if xerr b.length = 0 then secs true (rk KA) (rk KB) n b (b.length / 512) else []) := ⟨_, rfl⟩
  have hR2 : R = (if xerr b.length = 0 then xopen (rk KA) (rk KB) n b else []) := by
    rw [hR]
    split
    · next h =>
      unfold xerr at h
      split at h
      · cases h
      · exact secs_all true _ _ n b _ (by omega)
    · rfl
  rw [← hR, ← hz] at HD
  rw [← hR2, ← hz]
  obtain ⟨ab, cb, rfl, _⟩ := hv.shape
  clear hX B1 hv ht hz hR hR2
  go_enter Tryd.func15, Tryd.ntmps15
  go_wp2_with (first
    | (refine wpList_load_mid rfl 38 (.tmp 3) rfl w.heap.size 0 rfl (row8 X) _ X1.out.range Tryd.underlying38 rfl (by rw [X480.out]; exact info480) ?_)
    | (go_at_call 21; (with_reducible refine HD.out.mono ?_); rintro e w4 ⟨y, rfl, r4, b4⟩; obtain ⟨a4, c4, rfl, _⟩ := r4.shape; have R4 := Lib.hid r4; have B4 := Lib.hid (HB1.out.on b4); clear r4 b4))
  go_ret2
  exact ⟨_, rfl, R4.out, B4.out⟩
end Go.Proofs.YtmidbmihadhgdaaDoor

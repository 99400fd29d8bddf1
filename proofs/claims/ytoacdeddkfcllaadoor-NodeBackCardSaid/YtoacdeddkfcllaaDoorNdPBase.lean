/- A node's refs in the program: a ref out of a node by value, may a ref be, is a node empty: contracts. Own work. -/
import Derived.Test.YtoacdeddkfcllaaDoorNdM
import Derived.Test.YtoacdeddkfcllaaDoorIdxPart
import Derived.Test.YtoacdeddkfcllaaDoorReg
namespace Go.Proofs.YtoacdeddkfcllaaDoor
open Go.ChangeShapes Go.WideShapes Go.ChangeAt Go.RowKit
open RT
theorem aggRfP (w : World) : (isAgg 26).run Tryd.prog w = .ok true w := by kernel_rfl
theorem infoNdP : (Tryd.prog.info? 28).map (·.size) = some 264 := by kernel_rfl
theorem builtRfP : Tryd.prog.built 26 [] = some (pc ND.zp).toArray := by kernel_rfl
theorem zeroRfP (w : World) : (zeroValue 26).run Tryd.prog w = .ok (.agg (pc ND.zp).toArray) w := by kernel_rfl
theorem zeroNdP (w : World) : (zeroValue 28).run Tryd.prog w = .ok (.agg (pcs ND.zn).toArray) w := by kernel_rfl
theorem builtNdP : Tryd.prog.built 28 [] = some (pcs ND.zn).toArray := by kernel_rfl
theorem pcs_part {ns : List Pg} (h : ∀ p ∈ ns, Pok p) {k : Nat} (hk : k < ns.length) : (pcs ns).toArray.extract (k * 33) (k * 33 + 33) = (pc ns[k]).toArray := by
  apply Array.ext'
  rw [Array.toList_extract]
  show ((pcs ns).drop (k * 33)).take (k * 33 + 33 - k * 33) = pc ns[k]
  rw [show k * 33 + 33 - k * 33 = 33 by omega]
  apply List.ext_getElem?
  intro i
  rw [List.getElem?_take, List.getElem?_drop]
  by_cases hi : i < 33
  · rw [if_pos hi, pcs_get h hk hi]
  · rw [if_neg hi, List.getElem?_eq_none (by rw [pc_len (h _ (List.getElem_mem hk))]; omega)]
/-- A ref out of a node by value. -/
theorem idx_node {ns : List Pg} (h : ND.Nok ns) {k : Nat} (hk : k < ns.length) (w : World) : (Instr.index 28 (.agg (pcs ns).toArray) (.int .i64 (k : Int))).run Tryd.prog w = .ok (.agg (pc ns[k]).toArray) w :=
  run_index_part (P := Tryd.prog) 28 26 8 33 (pcs ns).toArray _ k Tryd.underlying28 (by rw [← h.len]; exact hk) infoRf aggRfP (pcs_part h.ok hk) w
theorem one_pg (p : Pg) : ((pc p).toArray.all (·.oneCell')) = true := by
  rw [List.all_toArray, List.all_eq_true]
  intro u hu
  exact pcs_one' [p] u (by rw [pcs_one]; exact hu)
theorem pc_sum1 {p : Pg} (h : Pok p) : ((pc p).drop 1).take 32 = row8 p.sum := by
  unfold pc
  rw [List.drop_succ_cons, List.drop_zero, List.take_of_length_le (by rw [row8_len, h.2.1]; exact Nat.le_refl _)]
theorem ex_build0 {o : Oper} {a : Act} {w : World} {t : TypeId} {cells : Array Value} (ho : o.op = .build t #[]) (h : Tryd.prog.built t [] = some cells) : (execOp a.eval o).run Tryd.prog w = .ok (.value (.agg cells)) w := ex_build ho (by simpa using h)
set_option maxRecDepth 100000 in
set_option maxHeartbeats 1000000 in
theorem npmay_any (p : Pg) (hp : Pok p) (w : World) : Calls Tryd.prog 28 #[.agg (pc p).toArray] w fun e w' => e = .returned (.bool (ND.mayP p)) ∧ Below w.heap.size w w' := by
  obtain ⟨L, hL⟩ : ∃ L, L = pc p := ⟨_, rfl⟩
  have hb := Blk.new w 26 L _ rfl
  have c0 := hb.cell 0 _ (show L[0]? = some (.int .u32 (p.at_ : Int)) by rw [hL]; rfl)
  have X1 := Lib.hid hb
  have W1 := Lib.hid ((Below.refl w.heap.size w).alloc (Nat.le_refl _) (.cells L.toArray 26))
  have L33 := Lib.hid (show L.length = 33 by rw [hL]; exact pc_len hp)
  obtain ⟨E, hE⟩ : ∃ E, E = pgEq p ND.zp := ⟨_, rfl⟩
  have HC := Lib.hid (fun W => run_eql_ref hp ND.zp_ok W)
  rw [← hE, ← hL] at HC
  obtain ⟨Q, hQ⟩ : ∃ Q, Q = ND.mayP p := ⟨_, rfl⟩
  obtain ⟨x, hx⟩ : ∃ x, x = p.at_ := ⟨_, rfl⟩
  have hq : Q = (decide (x ≠ 0) || E) := by rw [hQ, hx, hE]; rfl
  have hbr := builtRfP
  obtain ⟨Zc, hZc⟩ : ∃ Z, Z = pc ND.zp := ⟨_, rfl⟩
  rw [← hZc] at HC hbr
  rw [← hx] at c0
  rw [← hL, ← hQ]
  clear hL hE hQ hx hp hb hZc
  by_cases h : x = 0
  · subst h
    obtain rfl : Q = E := by rw [hq]; simp
    clear hq
    go_enter Tryd.func28, Tryd.ntmps28
    go_wp2_with ((fail_if_success (with_reducible show bodyPost _ _ _ _ _ _)); first
      | ((with_reducible show wpList _ _ _ (Oper.mk _ (.load _ (.tmp 1)) _ _ _ _ :: _) _ _); refine wpList_loadW 26 (.tmp 1) rfl w.heap.size 0 rfl L _ X1.out.range Tryd.underlying26 rfl (by rw [L33.out]; exact infoRf) rfl ?_)
      | ((with_reducible show wpList _ _ _ (Oper.mk (some 8) (.build _ _) _ _ _ _ :: _) _ _); refine wpList_wanted rfl (.agg Zc.toArray) (ex_build0 rfl hbr) ?_)
      | ((with_reducible show wpList _ _ _ (Oper.mk _ (.binOp _ _ (.tmp 7) (.tmp 8) _) _ _ _ _ :: _) _ _); refine wpList_binW (.tmp 7) (.tmp 8) .eql 26 26 rfl (.agg L.toArray) (.agg Zc.toArray) _ rfl rfl (run_eqGuard_agg (P := Tryd.prog) (w := _) .eql 26 _ _ _ _ eqTypeRf) (HC.out _) rfl ?_))
    go_ret
    exact ⟨rfl, W1.out⟩
  · obtain rfl : Q = true := by rw [hq, decide_eq_true h]; rfl
    have hxe : ((x : Int) == 0) = false := by simpa using h
    clear hq
    go_enter Tryd.func28, Tryd.ntmps28
    go_wp2_with fail
    go_ret
    exact ⟨rfl, W1.out⟩
set_option maxRecDepth 100000 in
set_option maxHeartbeats 1000000 in
theorem npempty_any (ns : List Pg) (hn : ND.Nok ns) (w : World) : Calls Tryd.prog 10 #[.agg (pcs ns).toArray] w fun e w' => e = .returned (.bool (ND.empty ns)) ∧ Below w.heap.size w w' := by
  obtain ⟨L, hL⟩ : ∃ L, L = pcs ns := ⟨_, rfl⟩
  obtain ⟨R, hR⟩ : ∃ R, R = ND.empty ns := ⟨_, rfl⟩
  have W1 := Lib.hid ((Below.refl w.heap.size w).alloc (Nat.le_refl _) (.cells L.toArray 28))
  have X1 := Lib.hid (Blk.new w 28 L _ rfl)
  have L264 := Lib.hid (show L.length = 264 by rw [hL]; exact ND.pcs_len8 hn)
  have HIX := Lib.hid (fun k (hk : k < ns.length) => idx_node hn hk)
  have H8 := Lib.hid hn.len
  have HPK := Lib.hid hn.ok
  have HM := Lib.hid (ND.empty_iff (ns := ns))
  rw [← hL] at HIX
  rw [← hR] at HM
  rw [← hL, ← hR]
  have hzr := zeroRfP
  obtain ⟨Z, hZ⟩ : ∃ Z, Z = pc ND.zp := ⟨_, rfl⟩
  rw [← hZ] at hzr
  have ZL := Lib.hid (show Z.length = 33 by rw [hZ]; exact pc_len ND.zp_ok)
  clear hL hR hn hZ
  go_enter Tryd.func10, Tryd.ntmps10
  go_wp2_with ((with_reducible show wpList _ _ _ (Oper.mk _ (.load _ (.tmp 1)) _ _ _ _ :: _) _ _); refine wpList_load_mid rfl 28 (.tmp 1) rfl w.heap.size 0 rfl L _ X1.out.range Tryd.underlying28 rfl (by rw [L264.out]; exact infoNdP) ?_)
  go_loopw [6] (fun i wr => ∃ k : Nat, k ≤ 8 ∧ i = .int .i64 (k : Int) ∧ Below w.heap.size w wr ∧ ∀ j (hj : j < ns.length), j < k → ns[j].at_ = 0) (fun i _ => 8 - (intOf i).toNat)
  case atStart => exact ⟨0, by decide, rfl, W1.out, fun j _ h => absurd h (Nat.not_lt_zero j)⟩
  case round =>
    clear W1 X1
    obtain ⟨k, hk, rfl, hw, hz⟩ := hrel
    have HZ := Lib.hid hz
    have W2 := Lib.hid hw
    clear hz hw
    by_cases hlt : k < 8
    · have hkp : k < ns.length := by rw [H8.out]; exact hlt
      have hix := HIX.out k hkp
      have POK := HPK.out _ (List.getElem_mem hkp)
      have PL := Lib.hid (pc_len POK)
      have PG1 := Lib.hid (one_pg ns[k])
      have HPC0 := Lib.hid (show (pc ns[k])[0]? = some (.int .u32 (ns[k].at_ : Int)) from rfl)
      obtain ⟨PG, hPG⟩ : ∃ x, x = pc ns[k] := ⟨_, rfl⟩
      obtain ⟨x, hx⟩ : ∃ x, x = ns[k].at_ := ⟨_, rfl⟩
      rw [← hPG] at hix PL PG1 HPC0
      rw [← hx] at HPC0
      have HX := Lib.hid hx
      have hklt : (k : Int) < 8 := by omega
      have hk0 : (0 : Int) ≤ (k : Int) := by omega
      have hkt : ((k : Int)).toNat = k := Int.toNat_natCast k
      have P1 := Lib.hid (Blk.new wr 26 Z wr.heap.size rfl)
      have W6 := Lib.hid (W2.out.on ((Below.refl wr.heap.size wr).alloc (Nat.le_refl _) (.cells Z.toArray 26)))
      have WRS := Lib.hid W2.out.size
      clear hx HIX POK hPG
      by_cases hx0 : x = 0
      · subst hx0
        clear HM
        go_wp2_with ((with_reducible show wpList _ _ _ (Oper.mk _ (.store _ (.tmp 4) (.tmp 8)) _ _ _ _ :: _) _ _); refine wpList_store_blk rfl 26 (.tmp 4) (.tmp 8) rfl wr.heap.size 0 PG rfl rfl 26 Z P1.out (by have := PL.out; have := ZL.out; omega) (by rw [PL.out]; exact infoRf) PG1.out ?_; intro w7 b7 g7; rw [splice_all _ _ (by have := PL.out; have := ZL.out; omega)] at b7; have W7 := Lib.hid (W6.out.grown g7 W6.out.size (fun g hg => by have := WRS.out; have := Option.some.inj hg; omega)); have c0 := b7.cell 0 _ HPC0.out; clear b7 g7)
        exact ⟨⟨k + 1, by omega, by go_num, W7.out, fun j hj hjk => by
          rcases Nat.lt_or_ge j k with q | q
          · exact HZ.out j hj q
          · obtain rfl : j = k := by omega
            exact HX.out.symm⟩, by simp [intOf]; omega⟩
      · have hf : R = false := by
          cases R with
          | false => rfl
          | true => exact absurd (HM.out.1 rfl ns[k] (List.getElem_mem hkp)) (by rw [← HX.out]; exact hx0)
        have hxe : ((x : Int) == 0) = false := by simpa using hx0
        subst hf
        clear HM
        go_wp2_with ((with_reducible show wpList _ _ _ (Oper.mk _ (.store _ (.tmp 4) (.tmp 8)) _ _ _ _ :: _) _ _); refine wpList_store_blk rfl 26 (.tmp 4) (.tmp 8) rfl wr.heap.size 0 PG rfl rfl 26 Z P1.out (by have := PL.out; have := ZL.out; omega) (by rw [PL.out]; exact infoRf) PG1.out ?_; intro w7 b7 g7; rw [splice_all _ _ (by have := PL.out; have := ZL.out; omega)] at b7; have W7 := Lib.hid (W6.out.grown g7 W6.out.size (fun g hg => by have := WRS.out; have := Option.some.inj hg; omega)); have c0 := b7.cell 0 _ HPC0.out; clear b7 g7)
        go_ret
        exact ⟨rfl, W7.out⟩
    · obtain rfl : k = 8 := by omega
      have ht : R = true := HM.out.2 fun p hp => by
        obtain ⟨i, hi, rfl⟩ := List.getElem_of_mem hp
        exact HZ.out i hi (by have := H8.out; omega)
      subst ht
      clear HM
      go_wp2_with fail
      go_ret
      exact ⟨rfl, W2.out⟩
end Go.Proofs.YtoacdeddkfcllaaDoor

/- What the program lays of a node: contract. Own work. -/
import Derived.Test.YtoacdeddkfcllaaDoorNdPBase
import Derived.Test.YtoacdeddkfcllaaDoorRdPart
import Derived.Test.YtoacdeddkfcllaaDoorMake0
import Derived.Test.YtoacdeddkfcllaaDoorOct
namespace Go.Proofs.YtoacdeddkfcllaaDoor
open Go.ChangeShapes Go.WideShapes Go.ChangeAt Go.RowKit
open RT
set_option maxRecDepth 100000 in
set_option maxHeartbeats 2000000 in
theorem npput_any (ns : List Pg) (hn : ND.Nok ns) (w : World) : Calls Tryd.prog 8 #[.agg (pcs ns).toArray] w fun e w' => ∃ v, e = .returned v ∧ Own w' w.heap.size v (ones ns) ∧ Below w.heap.size w w' := by
  obtain ⟨L, hL⟩ : ∃ L, L = pcs ns := ⟨_, rfl⟩
  have W1 := Lib.hid ((Below.refl w.heap.size w).alloc (Nat.le_refl _) (.cells L.toArray 28))
  have X1 := Lib.hid (Blk.new w 28 L _ rfl)
  have L264 := Lib.hid (show L.length = 264 by rw [hL]; exact ND.pcs_len8 hn)
  have HIX := Lib.hid (fun k (hk : k < ns.length) => idx_node hn hk)
  have H8 := Lib.hid hn.len
  have HPK := Lib.hid hn.ok
  have HOL := Lib.hid (fun k (hk : k ≤ ns.length) => (show (ones (ns.take k)).length = k * 36 by rw [ones_len (fun p hp => hn.ok p (List.mem_of_mem_take hp)), List.length_take, Nat.min_eq_left hk]))
  rw [← hL] at HIX
  rw [← hL]
  have hzr := zeroRfP
  obtain ⟨Z, hZ⟩ : ∃ Z, Z = pc ND.zp := ⟨_, rfl⟩
  rw [← hZ] at hzr
  have ZL := Lib.hid (show Z.length = 33 by rw [hZ]; exact pc_len ND.zp_ok)
  clear hL hn hZ
  go_enter Tryd.func8, Tryd.ntmps8
  go_wp2_with (first
    | ((with_reducible show wpList _ _ _ (Oper.mk _ (.makeSlice _ _ _) _ _ _ _ :: _) _ _); refine wpList_make0 rfl (.const (.int .i64 0)) (.const (.int .i64 288)) rfl w.heap.size 288 (by decide) rfl rfl W1.out.size ?_; intro w2 o2 b2 l2; have O2 := Lib.hid o2; have W2 := Lib.hid (W1.out.on b2); have X2 := Lib.hid (X1.out.below b2 X1.out.lt); clear o2 b2 l2)
    | ((with_reducible show wpList _ _ _ (Oper.mk _ (.load _ (.tmp 1)) _ _ _ _ :: _) _ _); refine wpList_load_mid rfl 28 (.tmp 1) rfl w.heap.size 0 rfl L _ X2.out.range Tryd.underlying28 rfl (by rw [L264.out]; exact infoNdP) ?_))
  go_loopw [3, 8] (fun s i wr => ∃ k : Nat, k ≤ 8 ∧ i = .int .i64 (k : Int) ∧ Own wr w.heap.size s (ones (ns.take k)) ∧ Below w.heap.size w wr) (fun _ i _ => 8 - (intOf i).toNat)
  case atStart => exact ⟨0, by decide, rfl, by rw [show ones (ns.take 0) = [] from rfl]; have q := O2.out; simpa using q, W2.out⟩
  case round =>
    clear O2 W2 W1 X1 X2
    obtain ⟨k, hk, rfl, ho, hw⟩ := hrel
    have W5 := Lib.hid hw
    have O5 := Lib.hid ho
    clear ho hw
    obtain ⟨sa, sq, rfl, _⟩ := O5.out.rd.shape
    obtain ⟨M, hM⟩ : ∃ M, M = ones (ns.take k) := ⟨_, rfl⟩
    have HML := Lib.hid (show M.length ≤ 288 by rw [hM, HOL.out k (by rw [H8.out]; exact hk)]; omega)
    have HMM := Lib.hid hM
    rw [← hM] at O5 ⊢
    obtain ⟨ml, hml⟩ : ∃ x, x = M.length := ⟨_, rfl⟩
    rw [← hml] at O5 HML ⊢
    have HLL := Lib.hid hml
    clear hM hml
    by_cases hlt : k < 8
    · have hkp : k < ns.length := by rw [H8.out]; exact hlt
      have hix := HIX.out k hkp
      have POK := HPK.out _ (List.getElem_mem hkp)
      have PL := Lib.hid (pc_len POK)
      have PG1 := Lib.hid (one_pg ns[k])
      have hklt : (k : Int) < 8 := by omega
      have hk0 : (0 : Int) ≤ (k : Int) := by omega
      have HNX := Lib.hid (show ones (ns.take (k + 1)) = (M ++ be ns[k].at_ 4) ++ ns[k].sum by
        rw [ones_take hkp, HMM.out]; unfold one; simp only [List.append_assoc])
      have HP32 := Lib.hid (fun W => put32_any ns[k].at_ POK.1 W)
      have BSM := Lib.hid POK.2
      have HPC0 := Lib.hid (show (pc ns[k])[0]? = some (.int .u32 (ns[k].at_ : Int)) from rfl)
      have HPC1 := Lib.hid (pc_sum1 POK)
      obtain ⟨PG, hPG⟩ : ∃ x, x = pc ns[k] := ⟨_, rfl⟩
      obtain ⟨AT, hAT⟩ : ∃ x, x = ns[k].at_ := ⟨_, rfl⟩
      obtain ⟨SM_, hSM⟩ : ∃ x, x = ns[k].sum := ⟨_, rfl⟩
      rw [← hPG] at hix PL HPC0 HPC1 PG1
      rw [← hAT] at HNX HP32 HPC0
      rw [← hSM] at HNX BSM HPC1
      have P1 := Lib.hid (Blk.new wr 26 Z wr.heap.size rfl)
      have bA := (Below.refl wr.heap.size wr).alloc (Nat.le_refl _) (.cells Z.toArray 26)
      have W6 := Lib.hid (W5.out.on bA)
      have O6 := Lib.hid (O5.out.below bA)
      have OLT := Lib.hid (fun g (hg : (Value.slice sa ml sq).ownBlock = some g) => (O5.out.from g hg))
      have WRS := Lib.hid W5.out.size
      clear POK hPG hAT hSM bA O5 HIX
      go_wp2_with (first
        | ((with_reducible show wpList _ _ _ (Oper.mk _ (.store _ (.tmp 5) (.tmp 10)) _ _ _ _ :: _) _ _); refine wpList_store_blk rfl 26 (.tmp 5) (.tmp 10) rfl wr.heap.size 0 PG rfl rfl 26 Z P1.out (by have := PL.out; have := ZL.out; omega) (by rw [PL.out]; exact infoRf) PG1.out ?_; intro w7 b7 g7; rw [splice_all _ _ (by have := PL.out; have := ZL.out; omega)] at b7; have P7 := Lib.hid b7; have W7 := Lib.hid (W6.out.grown g7 W6.out.size (fun g hg => by have := WRS.out; have := Option.some.inj hg; omega)); have O7 := Lib.hid (O6.out.keep g7 (.inr (fun e => by have := (OLT.out _ e).2; omega))); have c0 := b7.cell 0 _ HPC0.out; clear b7 g7)
        | (go_at_call 23; (with_reducible refine (HP32.out _).mono ?_); rintro e w8 ⟨v8, rfl, o8, b8⟩; have R8 := Lib.hid o8.rd; have W8 := Lib.hid (W7.out.on b8); have O8 := Lib.hid (O7.out.below b8); have P8 := Lib.hid (P7.out.below b8 P7.out.lt); clear o8 b8)
        | ((with_reducible show wpList _ _ _ (Oper.mk (some 15) _ _ _ _ _ :: _) _ _); refine wpList_app rfl (.tmp 11) (.tmp 14) rfl w.heap.size _ _ M (be AT 4) rfl rfl O8.out R8.out (by rw [← HLL.out, be_len]; have := HML.out; omega) W8.out.size ?_; intro v9 w9 o9 g9 k9; have O9 := Lib.hid o9; have W9 := Lib.hid (W8.out.grown g9 W8.out.size (fun g hg => (OLT.out g hg).1)); have P9 := Lib.hid (P8.out.grown g9 (fun e => by have := (OLT.out _ e.symm).2; omega)); have R9 := Lib.hid (rd_part P9.out BSM.out HPC1.out (by decide)); have OF9 := Lib.hid (fun g hg => (O9.out.from g hg).1); clear o9 g9 k9)
        | ((with_reducible show wpList _ _ _ (Oper.mk (some 19) _ _ _ _ _ :: _) _ _); refine wpList_app rfl (.tmp 16) (.tmp 18) rfl w.heap.size _ _ (M ++ be AT 4) SM_ rfl rfl O9.out R9.out (by rw [List.length_append, ← HLL.out, be_len, BSM.out.1]; have := HML.out; omega) W9.out.size ?_; intro v10 w10 o10 g10 k10; have O10 := Lib.hid o10; have W10 := Lib.hid (W9.out.grown g10 W9.out.size OF9.out); clear o10 g10 k10))
      exact ⟨⟨k + 1, by omega, by go_num, by rw [HNX.out]; exact O10.out, W10.out⟩, by simp [intOf]; omega⟩
    · obtain rfl : k = 8 := by omega
      have HA : ones (ns.take 8) = ones ns := by rw [List.take_of_length_le (by rw [H8.out]; exact Nat.le_refl _)]
      rw [HMM.out, HA] at O5
      clear HA
      go_wp2_with fail
      go_ret
      exact ⟨_, rfl, O5.out, W5.out⟩
end Go.Proofs.YtoacdeddkfcllaaDoor

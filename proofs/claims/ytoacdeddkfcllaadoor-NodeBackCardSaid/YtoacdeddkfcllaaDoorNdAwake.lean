/- The closed case of node's statements: contract. Own work. -/
import Derived.Test.YtoacdeddkfcllaaDoorNdPPut
import Derived.Test.YtoacdeddkfcllaaDoorNdPGet
import Derived.Test.YtoacdeddkfcllaaDoorNdPSum
import Derived.Test.YtoacdeddkfcllaaDoorNdKnown
import Derived.Test.YtoacdeddkfcllaaDoorZed
namespace Go.Proofs.YtoacdeddkfcllaaDoor
open Go.ChangeShapes Go.WideShapes Go.ChangeAt Go.RowKit
open RT
theorem builtRfA : Tryd.prog.built 26 [(0, .int .u32 258)] = some (pc ND.aP).toArray := by kernel_rfl
theorem builtNdA : Tryd.prog.built 28 [(7, .agg (pc ND.aP).toArray)] = some (pcs ND.aN).toArray := by kernel_rfl
set_option maxRecDepth 100000 in
set_option maxHeartbeats 2000000 in
theorem ndawake_any (w : World) (ht : TabP w) : Calls Tryd.prog 12 #[] w fun e w' => e = .returned (.bool true) ∧ Below w.heap.size w w' := by
  have HT := Lib.hid ht
  obtain ⟨Z0, hZ0⟩ : ∃ L, L = pcs ND.zn := ⟨_, rfl⟩
  have hz : ∀ w, (zeroValue 28).run Tryd.prog w = .ok (.agg Z0.toArray) w := by rw [hZ0]; exact zeroNdP
  have Z264 := Lib.hid (show Z0.length = 264 by rw [hZ0]; exact ND.pcs_len8 ND.zn_ok)
  have HPU := Lib.hid (fun W => npput_any ND.aN ND.aN_ok W)
  have HG := Lib.hid (fun W v (hv : Rd W v (ones ND.aN)) => npget_any (ones ND.aN) v W hv)
  rw [((ND.got_lay ND.aN_ok).1 ND.aN_may).1, ((ND.got_lay ND.aN_ok).1 ND.aN_may).2] at HG
  have HEM := Lib.hid (fun W => npempty_any ND.aN ND.aN_ok W)
  rw [ND.aN_empty] at HEM
  have HSN := Lib.hid (fun W (hW : TabP W) => npsum_any [] (.slice none 0 0) W (Rd.none_ W) hW)
  have HSP := Lib.hid (fun W (hW : TabP W) => nppage_any [] (.slice none 0 0) W (Rd.none_ W) hW)
  rw [List.append_nil] at HSN HSP
  have L288 := Lib.hid (ND.ones_len8 ND.aN_ok)
  have HBR := Lib.hid builtRfA
  have HBN := Lib.hid builtNdA
  have A264 := Lib.hid (ND.pcs_len8 ND.aN_ok)
  have A1 := Lib.hid (show (pcs ND.aN).toArray.all (·.oneCell') = true by rw [List.all_toArray, List.all_eq_true]; exact pcs_one' _)
  have AAT := Lib.hid ND.aN_at
  have A254 := Lib.hid ND.aN_254
  have A255 := Lib.hid ND.aN_255
  have HNE := Lib.hid (fun W => (show (binOp .neq 24 (.agg (row8 (SM.sha [110, 111, 100, 101])).toArray) (.agg (row8 (SM.sha [112, 97, 103, 101])).toArray)).run Tryd.prog W = .ok (.bool true) W by
    rw [run_neq_sum (sha_bytes _) (sha_bytes _), decide_eq_false ND.apart]; rfl))
  obtain ⟨AC, hAC⟩ : ∃ B, B = pcs ND.aN := ⟨_, rfl⟩
  obtain ⟨AB, hAB⟩ : ∃ B, B = ones ND.aN := ⟨_, rfl⟩
  obtain ⟨AP, hAP⟩ : ∃ B, B = pc ND.aP := ⟨_, rfl⟩
  obtain ⟨S1, hS1⟩ : ∃ B, B = row8 (SM.sha [110, 111, 100, 101]) := ⟨_, rfl⟩
  obtain ⟨S2, hS2⟩ : ∃ B, B = row8 (SM.sha [112, 97, 103, 101]) := ⟨_, rfl⟩
  rw [← hAC] at HPU HG HEM HBN A264 A1 AAT
  rw [← hAB] at HPU HG L288 A254 A255
  rw [← hAP] at HBR HBN
  rw [← hS1] at HSN HNE
  rw [← hS2] at HSP HNE
  have W0 := Lib.hid (Below.refl w.heap.size w)
  clear hZ0 hAC hAB hAP hS1 hS2 ht
  go_enter Tryd.func12, Tryd.ntmps12
  go_wp2_with ((fail_if_success (with_reducible show bodyPost _ _ _ _ _ _)); first
    | ((with_reducible show wpList _ _ _ (Oper.mk (some 4) (.build _ _) _ _ _ _ :: _) _ _); refine wpList_wanted rfl (.agg AP.toArray) (ex_build rfl (by simp only [List.map_toArray, List.map_cons, List.map_nil]; exact HBR.out)) ?_)
    | ((with_reducible show wpList _ _ _ (Oper.mk (some 5) (.build _ _) _ _ _ _ :: _) _ _); refine wpList_wanted rfl (.agg AC.toArray) (ex_build rfl (by simp only [List.map_toArray, List.map_cons, List.map_nil]; exact HBN.out)) ?_)
    | (go_at_call 8; (with_reducible refine (HPU.out _).mono ?_); rintro e w1 ⟨ub, rfl, o9, b9⟩; have W1 := Lib.hid (W0.out.on b9); have R1 := Lib.hid o9.rd; obtain ⟨ba, bc, rfl, hbc⟩ := o9.rd.shape; obtain ⟨bb, rfl⟩ := own_at o9 (by rw [L288.out]; decide); have O1 := Lib.hid o9; rw [L288.out] at O1 R1 hbc ⊢; clear o9; clear b9)
    | (go_at_call 13; (with_reducible refine (HG.out _ _ R1.out).mono ?_); rintro e w2 ⟨rfl, b9⟩; have W2 := Lib.hid (W1.out.on b9); have O2 := Lib.hid (O1.out.below b9); clear b9)
    | ((with_reducible show wpList _ _ _ (Oper.mk _ (.store _ (.tmp 2) (.tmp 10)) _ _ _ _ :: _) _ _); refine wpList_store_blk rfl 28 (.tmp 2) (.tmp 10) rfl w2.heap.size 0 AC rfl rfl 28 Z0 (Blk.new w2 28 Z0 _ rfl) (by have := A264.out; have := Z264.out; omega) (by rw [A264.out]; exact infoNdP) A1.out ?_; intro w3 b' g'; rw [splice_all _ _ (by have := A264.out; have := Z264.out; omega)] at b'; have bb' := alloc_turn (Below.refl _ _) g'; have W3 := Lib.hid (W2.out.on bb'); have O3 := Lib.hid (O2.out.below bb'); have X3 := Lib.hid b'; have c231 := b'.cell 231 _ AAT.out; have c254 := O3.out.cell (by rw [L288.out]) 254 (by rw [L288.out]; decide); have c255 := O3.out.cell (by rw [L288.out]) 255 (by rw [L288.out]; decide); rw [A254.out] at c254; rw [A255.out] at c255; clear b' g' bb')
    | ((with_reducible show wpList _ _ _ (Oper.mk _ (.load _ (.tmp 2)) _ _ _ _ :: _) _ _); refine wpList_loadW 28 (.tmp 2) rfl w2.heap.size 0 rfl AC _ X3.out.range Tryd.underlying28 rfl (by rw [A264.out]; exact infoNdP) rfl ?_)
    | (go_at_call 10; (with_reducible refine (HEM.out _).mono ?_); rintro e w4 ⟨rfl, b9⟩; have W4 := Lib.hid (W3.out.on b9); clear b9)
    | (go_at_call 15; (with_reducible refine (HSN.out _ (HT.out.below W4.out)).mono ?_); rintro e w5 ⟨rfl, b9⟩; have W5 := Lib.hid (W4.out.on b9); clear b9)
    | (go_at_call 17; (with_reducible refine (HSP.out _ (HT.out.below W5.out)).mono ?_); rintro e w6 ⟨rfl, b9⟩; have W6 := Lib.hid (W5.out.on b9); clear b9)
    | ((with_reducible show wpList _ _ _ (Oper.mk _ (.binOp _ _ (.tmp 43) (.tmp 44) _) _ _ _ _ :: _) _ _); refine wpList_binW (.tmp 43) (.tmp 44) .neq 24 24 rfl (.agg S1.toArray) (.agg S2.toArray) _ rfl rfl (run_eqGuard_agg (P := Tryd.prog) (w := _) .neq 24 _ _ _ _ eqTypeS) (HNE.out _) rfl ?_))
  go_ret
  exact ⟨rfl, W6.out⟩
end Go.Proofs.YtoacdeddkfcllaaDoor

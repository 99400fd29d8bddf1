/- The closed case of root's statements, and what the laws say of it: contracts. Written by gen_rtlaws.py. Own work. -/
import Derived.Test.YtenigdbnfepkeaaDoorRtPC
import Derived.Test.YtenigdbnfepkeaaDoorRtSm
import Derived.Test.YtenigdbnfepkeaaDoorRtB
namespace Go.Proofs.YtenigdbnfepkeaaDoor
open Go.ChangeShapes Go.WideShapes Go.ChangeAt Go.RowKit
open RT
theorem sameYes {P : Program} {f : FuncId} {args : Array Value} {w : World} {r : Rt} (h : Calls P f args w fun e w' => ∃ b, e = .returned b ∧ (b = .bool true ∧ r = r ∨ b = .bool false ∧ r ≠ r) ∧ Below w.heap.size w w') : Calls P f args w fun e w' => e = .returned (.bool true) ∧ Below w.heap.size w w' :=
  h.mono fun _ _ ⟨b, he, hb, hw⟩ => by
    rcases hb with ⟨rfl, _⟩ | ⟨_, q⟩
    · exact ⟨he, hw⟩
    · exact absurd rfl q
namespace RT
theorem got_len9 (b key : List Nat) : (got b key).pages.length ≤ 9 := by
  unfold got
  split
  · show ((List.range _).map _).length ≤ 9
    simp; omega
  · show (0 : Nat) ≤ 9; omega
theorem nw_up {r n : Rt} (h : Ok r) (hm : may r = true) (hn : Ok n) (hmn : may n = true) (key : List Nat) (m : Nat) (hv : n.ver = r.ver + m) (he : n = { r with ver := r.ver + m }) : newest (lay r key) (lay n key) key = n ∧ newAt (lay r key) (lay n key) key = (if m = 0 then 0 else 1) ∧ newErr (lay r key) (lay n key) key = 0 := by
  have g1 := got_lay h hm key
  have g2 := got_lay hn hmn key
  have n2 : none2 (lay r key) (lay n key) key = false := by unfold none2; rw [g1.2]; rfl
  unfold newest newAt newErr
  rw [n2]
  by_cases hm0 : m = 0
  · have s : second (lay r key) (lay n key) key = false := by unfold second; rw [g1.2, g2.2, g1.1, g2.1, hv, decide_eq_false (show ¬ r.ver < r.ver + m by omega)]; rfl
    rw [s, if_pos hm0]
    have e : r = n := by rw [he, hm0]; rfl
    exact ⟨by rw [if_neg (by decide), if_neg (by decide), g1.1]; exact e, rfl, rfl⟩
  · have s : second (lay r key) (lay n key) key = true := by unfold second; rw [g1.2, g2.2, g1.1, g2.1, hv, decide_eq_true (show r.ver < r.ver + m by omega)]; rfl
    rw [s, if_neg hm0]
    exact ⟨by rw [if_neg (by decide), if_pos rfl, g2.1], rfl, rfl⟩
theorem nw_down {r n : Rt} (h : Ok r) (hm : may r = true) (hn : Ok n) (hmn : may n = true) (key : List Nat) (hv : r.ver ≤ n.ver) : newest (lay n key) (lay r key) key = n ∧ newAt (lay n key) (lay r key) key = 0 ∧ newErr (lay n key) (lay r key) key = 0 := by
  have g1 := got_lay h hm key
  have g2 := got_lay hn hmn key
  have n2 : none2 (lay n key) (lay r key) key = false := by unfold none2; rw [g2.2]; rfl
  have s : second (lay n key) (lay r key) key = false := by unfold second; rw [g1.2, g2.2, g1.1, g2.1, decide_eq_false (show ¬ n.ver < r.ver by omega)]; rfl
  unfold newest newAt newErr
  rw [n2, s]
  exact ⟨by rw [if_neg (by decide), if_neg (by decide), g2.1], rfl, rfl⟩
theorem nw_one {r : Rt} (h : Ok r) (hm : may r = true) (key : List Nat) : newest [] (lay r key) key = r ∧ newAt [] (lay r key) key = 1 ∧ newErr [] (lay r key) key = 0 := by
  have g1 := got_lay h hm key
  have g0 := got_short (b := []) (by decide) key
  have n2 : none2 [] (lay r key) key = false := by unfold none2; rw [g1.2]; simp
  have s : second [] (lay r key) key = true := by unfold second; rw [g0.2]; rfl
  unfold newest newAt newErr
  rw [n2, s]
  exact ⟨by rw [if_neg (by decide), if_pos rfl, g1.1], rfl, rfl⟩
theorem nw_none (key : List Nat) : newest [] [] key = zero ∧ newAt [] [] key = 0 ∧ newErr [] [] key = 40 := by
  have g0 := got_short (b := []) (by decide) key
  have n2 : none2 [] [] key = true := by unfold none2; rw [g0.2]; rfl
  unfold newest newAt newErr
  rw [n2]
  exact ⟨rfl, rfl, rfl⟩
theorem new_len9 (a b key : List Nat) : (newest a b key).pages.length ≤ 9 := by
  unfold newest
  split
  · show (0 : Nat) ≤ 9; omega
  · split
    · exact got_len9 _ _
    · exact got_len9 _ _
end RT
theorem sameIs {P : Program} {f : FuncId} {args : Array Value} {w : World} {r s : Rt} {c : Bool} (hc : c = true ↔ r = s) (h : Calls P f args w fun e w' => ∃ b, e = .returned b ∧ (b = .bool true ∧ r = s ∨ b = .bool false ∧ r ≠ s) ∧ Below w.heap.size w w') : Calls P f args w fun e w' => e = .returned (.bool c) ∧ Below w.heap.size w w' :=
  h.mono fun _ _ ⟨b, he, hb, hw⟩ => by
    rcases hb with ⟨rfl, q⟩ | ⟨rfl, q⟩
    · rw [hc.2 q]; exact ⟨he, hw⟩
    · rw [Bool.eq_false_iff.2 (fun h => q (hc.1 h))]; exact ⟨he, hw⟩
theorem infoKeyA : (Tryd.prog.info? 28).map (·.size) = some 32 := by kernel_rfl
namespace RT
theorem aRt_ok : Ok aRt := ⟨by decide, bytes_zero 32, by decide, bytes_zero 32, by decide, fun p hp => by cases hp⟩
theorem aRt_may : may aRt = true := by decide
theorem aKy_bytes {n : Nat} (h : n < 256) : Bytes 32 (aKy n) := ⟨by unfold aKy; simp, fun k => by
  cases k with
  | zero => exact h
  | succ k => show gb (List.replicate 31 0) k < 256; rw [gb_zeros]; decide⟩
theorem a_take : (lay aRt (aKy 1)).take 5 = [82, 79, 79, 84, 0] := by
  have h := lay_take aRt_ok aRt_may (aKy 1)
  have e : (lay aRt (aKy 1)).take 5 = ((lay aRt (aKy 1)).take 480).take 5 := by rw [List.take_take]; rfl
  rw [e, h]; exact a_head
end RT
theorem builtRtA : Tryd.prog.built 27 [(0, .int .u64 3)] = some (rtc aRt (.slice none 0 0)).toArray := by kernel_rfl
theorem builtKyA1 : Tryd.prog.built 28 [(0, .int .u8 1)] = some (row8 (aKy 1)).toArray := by kernel_rfl
theorem builtKyA2 : Tryd.prog.built 28 [(0, .int .u8 2)] = some (row8 (aKy 2)).toArray := by kernel_rfl
set_option maxRecDepth 100000 in
set_option maxHeartbeats 2000000 in
theorem rtawake_any (w : World) (ht : TabP w) : Calls Tryd.prog 14 #[] w fun e w' => e = .returned (.bool true) ∧ Below w.heap.size w w' := by
  have HT := Lib.hid ht
  obtain ⟨Z0, hZ0⟩ : ∃ L, L = RT.rtc RT.zero (.slice none 0 0) := ⟨_, rfl⟩
  have hz : ∀ w, (zeroValue 27).run Tryd.prog w = .ok (.agg Z0.toArray) w := by rw [hZ0]; exact zeroRt
  have Z68 := Lib.hid (show Z0.length = 68 by rw [hZ0]; exact RT.rtc_len RT.zero_ok _)
  have HPU := Lib.hid (fun W (hW : TabP W) => pput_any aRt aRt_ok (.slice none 0 0) W (RdT.none_ 33 W) (by decide) (aKy 1) (aKy_bytes (by decide)) hW)
  rw [(put_yes aRt_may (aKy 1)).1, (put_yes aRt_may (aKy 1)).2] at HPU
  have HG1 := Lib.hid (fun W v (hv : Rd W v (lay aRt (aKy 1))) (hW : TabP W) => pget_any (lay aRt (aKy 1)) (aKy 1) (aKy_bytes (by decide)) v W hv hW)
  rw [(got_lay aRt_ok aRt_may (aKy 1)).1, (got_lay aRt_ok aRt_may (aKy 1)).2] at HG1
  have HG2 := Lib.hid (fun W v (hv : Rd W v (lay aRt (aKy 1))) (hW : TabP W) => pget_any (lay aRt (aKy 1)) (aKy 2) (aKy_bytes (by decide)) v W hv hW)
  rw [(got_other aRt_ok aRt_may a_apart).1, (got_other aRt_ok aRt_may a_apart).2] at HG2
  have L512 := Lib.hid (lay_bytes aRt_ok aRt_may (aKy 1)).1
  have LT5 := Lib.hid a_take
  have HBU := Lib.hid builtRtA
  have HB1 := Lib.hid builtKyA1
  have HB2 := Lib.hid builtKyA2
  have AL := Lib.hid (fun u => rtc_len aRt_ok u)
  have ZL := Lib.hid (fun u => rtc_len zero_ok u)
  have AV := Lib.hid (fun u => rtc_ver aRt u)
  obtain ⟨B, hB⟩ : ∃ B, B = lay aRt (aKy 1) := ⟨_, rfl⟩
  obtain ⟨AR, hAR⟩ : ∃ B, B = rtc aRt := ⟨_, rfl⟩
  obtain ⟨ZR, hZR⟩ : ∃ B, B = rtc zero := ⟨_, rfl⟩
  have A1 := Lib.hid (fun ao n c => show ((AR (.slice ao n c)).toArray.all (·.oneCell')) = true by rw [hAR]; exact rt_one _ ao n c)
  have Z1 := Lib.hid (fun ao n c => show ((ZR (.slice ao n c)).toArray.all (·.oneCell')) = true by rw [hZR]; exact rt_one _ ao n c)
  rw [← hB] at HPU HG1 HG2 L512 LT5
  rw [← hAR] at HPU HG1 HBU AL AV
  rw [← hZR] at HG2 ZL
  obtain ⟨K1, hK1⟩ : ∃ B, B = row8 (aKy 1) := ⟨_, rfl⟩
  obtain ⟨K2, hK2⟩ : ∃ B, B = row8 (aKy 2) := ⟨_, rfl⟩
  rw [← hK1] at HB1 HPU HG1
  rw [← hK2] at HB2 HG2
  obtain ⟨S, hS⟩ : ∃ S : ByteArray, S = bstr [82, 79, 79, 84, 0] := ⟨_, rfl⟩
  have HS := Lib.hid hS
  have hs : S = ⟨#[82, 79, 79, 84, 0]⟩ := by rw [hS]; rfl
  have HE := Lib.hid (fun W => (show (binOp .eql 9 (.string S) (.string ⟨#[82, 79, 79, 84, 0]⟩)).run Tryd.prog W = .ok (.bool true) W by rw [run_eql_str, hs]; simp))
  clear hZ0 hB hAR hZR hK1 hK2 hS hs
  have W0 := Lib.hid (Below.refl w.heap.size w)
  go_enter Tryd.func14, Tryd.ntmps14
  go_wp2_with ((fail_if_success (with_reducible show bodyPost _ _ _ _ _ _)); first
    | ((with_reducible show wpList _ _ _ (Oper.mk (some 8) (.build _ _) _ _ _ _ :: _) _ _); refine wpList_wanted rfl (.agg (AR (.slice none 0 0)).toArray) (ex_build rfl (by simp only [List.map_toArray, List.map_cons, List.map_nil]; exact HBU.out)) ?_)
    | ((with_reducible show wpList _ _ _ (Oper.mk (some 9) (.build _ _) _ _ _ _ :: _) _ _); refine wpList_wanted rfl (.agg K1.toArray) (ex_build rfl (by simp only [List.map_toArray, List.map_cons, List.map_nil]; exact HB1.out)) ?_)
    | ((with_reducible show wpList _ _ _ (Oper.mk (some 15) (.build _ _) _ _ _ _ :: _) _ _); refine wpList_wanted rfl (.agg K1.toArray) (ex_build rfl (by simp only [List.map_toArray, List.map_cons, List.map_nil]; exact HB1.out)) ?_)
    | ((with_reducible show wpList _ _ _ (Oper.mk (some 21) (.build _ _) _ _ _ _ :: _) _ _); refine wpList_wanted rfl (.agg K2.toArray) (ex_build rfl (by simp only [List.map_toArray, List.map_cons, List.map_nil]; exact HB2.out)) ?_)
    | (go_at_call 11; (with_reducible refine (HPU.out _ HT.out).mono ?_); rintro e w1 ⟨ub, rfl, o9, b9⟩; have W1 := Lib.hid (W0.out.on b9); have R1 := Lib.hid o9.rd; obtain ⟨ba, bc, rfl, hbc⟩ := o9.rd.shape; rw [L512.out] at R1 hbc ⊢; clear o9; clear b9)
    | (go_at_call 15; (with_reducible refine (HG1.out _ _ R1.out (HT.out.below W1.out)).mono ?_); rintro e w2 ⟨p2, rfl, q2, b9⟩; have W2 := Lib.hid (W1.out.on b9); have R2 := Lib.hid (R1.out.below b9); obtain ⟨pa2, pq2, rfl, _⟩ := (owned_rd q2).shape; clear q2; clear b9)
    | ((with_reducible show wpList _ _ _ (Oper.mk _ (.store _ (.tmp 3) (.tmp 17)) _ _ _ _ :: _) _ _); refine wpList_store_blk rfl 27 (.tmp 3) (.tmp 17) rfl w2.heap.size 0 (AR (.slice pa2 aRt.pages.length pq2)) rfl rfl 27 Z0 (Blk.new w2 27 Z0 _ rfl) (by have := AL.out (.slice pa2 aRt.pages.length pq2); have := Z68.out; omega) (by rw [AL.out (.slice pa2 aRt.pages.length pq2)]; exact infoRtC) (A1.out _ _ _) ?_; intro w3 b' g'; rw [splice_all _ _ (by have := AL.out (.slice pa2 aRt.pages.length pq2); have := Z68.out; omega)] at b'; have bb := alloc_turn (Below.refl _ _) g'; have W3 := Lib.hid (W2.out.on bb); have R3 := Lib.hid (R2.out.below bb); have X3 := Lib.hid b'; clear b' g' bb)
    | (go_at_call 15; (with_reducible refine (HG2.out _ _ R3.out (HT.out.below W3.out)).mono ?_); rintro e w4 ⟨p4, rfl, q4, b9⟩; have W4 := Lib.hid (W3.out.on b9); have R4 := Lib.hid (R3.out.below b9); have X4 := Lib.hid (X3.out.below b9 X3.out.lt); obtain ⟨pa4, pq4, rfl, _⟩ := (owned_rd q4).shape; clear q4; clear b9)
    | ((with_reducible show wpList _ _ _ (Oper.mk _ (.store _ (.tmp 5) (.tmp 23)) _ _ _ _ :: _) _ _); refine wpList_store_blk rfl 27 (.tmp 5) (.tmp 23) rfl w4.heap.size 0 (ZR (.slice pa4 zero.pages.length pq4)) rfl rfl 27 Z0 (Blk.new w4 27 Z0 _ rfl) (by have := ZL.out (.slice pa4 zero.pages.length pq4); have := Z68.out; omega) (by rw [ZL.out (.slice pa4 zero.pages.length pq4)]; exact infoRtC) (Z1.out _ _ _) ?_; intro w5 b' g'; rw [splice_all _ _ (by have := ZL.out (.slice pa4 zero.pages.length pq4); have := Z68.out; omega)] at b'; have bb := alloc_turn (Below.refl _ _) g'; have W5 := Lib.hid (W4.out.on bb); have R5 := Lib.hid (R4.out.below bb); have X5 := Lib.hid (X4.out.below bb X4.out.lt); have Y5 := Lib.hid b'; have c0 := X5.out.cell 0 _ (AV.out _); have R5t := Lib.hid (R5.out.take 5 (by rw [L512.out]; decide)); rw [LT5.out] at R5t; clear b' g' bb)
    | ((with_reducible show wpList _ _ _ (Oper.mk _ (.convert _ _ (.tmp 30)) _ _ _ _ :: _) _ _); refine wpList_wanted rfl (.string S) (ex_convert (x := .tmp 30) rfl rfl (by rw [HS.out]; exact R5t.out.str)) ?_)
    | ((with_reducible show wpList _ _ _ (Oper.mk _ (.binOp _ _ (.tmp 31) _ _) _ _ _ _ :: _) _ _); refine wpList_wanted rfl (.bool true) (ex_binOp (x := .tmp 31) (b := .eql) (t := 9) rfl rfl rfl (by go_simp) (HE.out _)) ?_))
  go_ret
  exact ⟨rfl, W5.out⟩
end Go.Proofs.YtenigdbnfepkeaaDoor

/- What is laid of a ref: contracts of the program and of the document's answer. Written by gen_ctput.py. Own work. -/
import Derived.Test.YtkagapgganoomaaCtNm
import Derived.Test.YtkagapgganoomaaFacG
import Derived.Test.YtkagapgganoomaaPutX
import Derived.Test.YtkagapgganoomaaOct
import Derived.BigRegion
namespace Go.Proofs.Ytkagapgganoomaa
open Go.ChangeShapes Go.WideShapes Go.ChangeAt Go.RowKit
open RT CT
theorem pc_sumc {p : Pg} (h : Pok p) : ((pc p).drop 1).take 32 = row8 p.sum := by
  unfold pc
  rw [List.drop_succ_cons, List.drop_zero, List.take_of_length_le (by rw [row8_len, h.2.1]; exact Nat.le_refl _)]
theorem doesG_byteT {B : Nat} {ops : List Oper} {Q : Exit → Act → World → Prop} {T : List (Pred B)} {U : Nat → Nat} {i : Nat} {o : Oper} {a : Act} {w : World} (hw : Region.wanted o (yielded ops.toArray a.tmps) = true) (k n : Nat) (hn : n < 256) (ho : o.op = .buildSlice 33 1 #[(0, .tmp k)]) (hk : a.eval (.tmp k) = .int .u8 (n : Int)) (hB : B ≤ w.heap.size) (hf : ∀ v' w', Own w' B v' [n] → (T.getD i (.val undef)).holds v' w') : DoesG Try.prog ops Q T U i o a w := by
  refine doesG_new hw fun K hK => ?_
  unfold Oper.wp execOp
  rw [ho]
  simp only [List.map_toArray, List.map_cons, List.map_nil, hk]
  go_simp
  refine hK _ _ (hf _ _ (own_new w [n] (fun k => ?_) (by simp) rfl hB)) ((Below.refl _ _).alloc (Nat.le_refl _) _) (fun g hg => ?_)
  · cases k with
    | zero => exact hn
    | succ k => exact Nat.zero_lt_succ _
  · have : w.heap.size = g := Option.some.inj hg
    simp; omega
set_option maxRecDepth 100000 in
set_option maxHeartbeats 4000000 in
theorem putref_any (p : Pg) (hp : Pok p) (w : World) : Calls Try.prog 34 #[.agg (pc p).toArray] w fun e w' => ∃ v, e = .returned v ∧ Own w' w.heap.size v (CT.ref p) ∧ Below w.heap.size w w' := by
  obtain ⟨L, hL⟩ : ∃ L, L = pc p := ⟨_, rfl⟩
  have L33 := Lib.hid (show L.length = 33 by rw [hL]; exact pc_len hp)
  have HCS := Lib.hid (show (L.drop 1).take 32 = row8 p.sum by rw [hL]; exact pc_sumc hp)
  have HC0 := Lib.hid (show L[0]? = some (.int .u32 (p.at_ : Int)) by rw [hL]; rfl)
  have BS := Lib.hid hp.2
  have HRF := Lib.hid (show CT.ref p = be p.at_ 4 ++ p.sum from rfl)
  have hab := hp.1
  obtain ⟨at_, hat⟩ : ∃ x, x = p.at_ := ⟨_, rfl⟩
  obtain ⟨sum, hsum⟩ : ∃ x, x = p.sum := ⟨_, rfl⟩
  rw [← hat] at HC0 HRF hab
  rw [← hsum] at HCS BS HRF
  rw [← hL, HRF.out]
  have HN4 := Lib.hid (fun W => (show Calls Try.prog 56 #[.int .u32 (at_ : Int)] W fun e w' => ∃ v, e = .returned v ∧ Own w' W.heap.size v (be at_ 4) ∧ Below W.heap.size W w' from put32_any at_ hab W))
  have ax : IntKind.u64.wrap (at_ : Int) = (at_ : Int) := by rw [IntKind.wrap_u64]; omega
  obtain ⟨w1, hw1⟩ : ∃ x, x = w.alloc (.cells L.toArray 26) := ⟨_, rfl⟩
  have W1 := Lib.hid (show Below w.heap.size w w1 by rw [hw1]; exact (Below.refl w.heap.size w).alloc (Nat.le_refl _) _)
  have K1 := Lib.hid (show Blk w1 w.heap.size 26 L by rw [hw1]; exact Blk.new w 26 L _ rfl)
  clear hL hp hat hsum HRF
  go_enter Try.func34, Try.ntmps34
  go_upto_region 1 with fail
  rw [← hw1]
  clear hw1
  refine wp_region_g (by kernel_rfl) 6 (by decide) (by kernel_rfl) (by kernel_rfl) (by kernel_rfl) (w1.heap.size) (Nat.le_refl _) [.val (.pointer (some ⟨w.heap.size, 0, none⟩)), .val (.int .u32 (at_ : Int)), .own (be at_ 4), .val (.pointer (some ⟨w.heap.size, 1, none⟩)), .val (.slice (some ⟨w.heap.size, 1, none⟩) 32 32), .own (be at_ 4 ++ sum)] (fun j => if j = 2 then 5 else 7) ?_ ?_
  · refine ⟨?_, ?_, ?_, ?_, ?_, ?_, trivial⟩
    · intro a w' hF hB hd
      have e1 : a.eval (.tmp 1) = .pointer (some ⟨w.heap.size, 0, none⟩) := hF 1 (by decide +kernel)
      exact doesG_val rfl (ex_fieldAddr rfl e1 (by go_simp)) rfl rfl
    · intro a w' hF hB hd
      have e3 : a.eval (.tmp 3) = .pointer (some ⟨w.heap.size, 0, none⟩) := hd 0 (by decide +kernel) (.inr (by decide))
      have cc := (K1.out.below hB K1.out.lt).cell 0 _ HC0.out
      exact doesG_val rfl (v := .int .u32 (at_ : Int)) (by unfold execOp; simp only [e3]; go_simp) rfl rfl
    · intro a w' hF hB hd
      have e4 : a.eval (.tmp 4) = .int .u32 (at_ : Int) := hd 1 (by decide +kernel) (.inr (by decide))
      exact doesG_made rfl (ex_call (vs := #[.int .u32 (at_ : Int)]) rfl (by simp only [List.map_toArray, List.map_cons, List.map_nil, e4]) (by go_simp)) ((HN4.out w').mono fun e w2 hh => by obtain ⟨v, he, ho, hb⟩ := hh; exact ⟨v, he, ho.lower hB.size, hb, own_from ho⟩)
    · intro a w' hF hB hd
      have e1 : a.eval (.tmp 1) = .pointer (some ⟨w.heap.size, 0, none⟩) := hF 1 (by decide +kernel)
      exact doesG_val rfl (ex_fieldAddr rfl e1 (by go_simp)) rfl rfl
    · intro a w' hF hB hd
      have e6 : a.eval (.tmp 6) = .pointer (some ⟨w.heap.size, 1, none⟩) := hd 3 (by decide +kernel) (.inr (by decide))
      have f6 : a.tmps[6]?.getD undef = .pointer (some ⟨w.heap.size, 1, none⟩) := by rw [← Array.getD_eq_getD_getElem?]; exact e6
      exact doesG_val rfl (by unfold execOp; simp only [e6]; go_simp) rfl rfl
    · intro a w' hF hB hd
      have e5 : Own w' w1.heap.size (a.eval (.tmp 5)) (be at_ 4) := hd 2 (by decide +kernel) (.inl (by decide))
      have e7 : a.eval (.tmp 7) = .slice (some ⟨w.heap.size, 1, none⟩) 32 32 := hd 4 (by decide +kernel) (.inr (by decide))
      exact doesG_app rfl (.tmp 5) (.tmp 7) rfl 2 (by decide +kernel) rfl rfl _ _ _ _ rfl rfl e7 e5 (rd_part (K1.out.below hB K1.out.lt) BS.out HCS.out (by decide)) (by rw [be_len, BS.out.1]; decide) hB.size (fun _ _ h => h)
  · intro vs w4 hb hv hap
    have e8 := hv 5 (by decide) (by decide)
    have O8 := Lib.hid e8
    have W4 := Lib.hid (W1.out.on hb)
    have HSZ := Lib.hid (show w.heap.size ≤ w1.heap.size from W1.out.size)
    simp only [List.take_succ_cons, List.take_zero, List.drop_succ_cons, List.drop_zero, putOps, Act.put, List.setIfInBounds_toArray, List.set_cons_zero, List.set_cons_succ]
    clear hv hap e8 hb
    go_wp2_with fail
    go_ret
    exact ⟨_, rfl, O8.out.lower HSZ.out, W4.out⟩
set_option maxRecDepth 100000 in
set_option maxHeartbeats 4000000 in
theorem rputref_any (p : Pg) (hp : Pok p) (w : World) : Calls Try.prog 36 #[.agg (pc p).toArray] w fun e w' => ∃ v, e = .returned v ∧ Own w' w.heap.size v (CT.ref p) ∧ Below w.heap.size w w' := by
  obtain ⟨L, hL⟩ : ∃ L, L = pc p := ⟨_, rfl⟩
  have L33 := Lib.hid (show L.length = 33 by rw [hL]; exact pc_len hp)
  have HCS := Lib.hid (show (L.drop 1).take 32 = row8 p.sum by rw [hL]; exact pc_sumc hp)
  have HC0 := Lib.hid (show L[0]? = some (.int .u32 (p.at_ : Int)) by rw [hL]; rfl)
  have BS := Lib.hid hp.2
  have HRF := Lib.hid (show CT.ref p = be p.at_ 4 ++ p.sum from rfl)
  have hab := hp.1
  obtain ⟨at_, hat⟩ : ∃ x, x = p.at_ := ⟨_, rfl⟩
  obtain ⟨sum, hsum⟩ : ∃ x, x = p.sum := ⟨_, rfl⟩
  rw [← hat] at HC0 HRF hab
  rw [← hsum] at HCS BS HRF
  rw [← hL, HRF.out]
  have HN4 := Lib.hid (fun W => (show Calls Try.prog 57 #[.int .u64 (at_ : Int), .int .i64 4] W fun e w' => ∃ v, e = .returned v ∧ Own w' W.heap.size v (be at_ 4) ∧ Below W.heap.size W w' from rput_any at_ 4 (by omega) (by decide) W))
  have ax : IntKind.u64.wrap (at_ : Int) = (at_ : Int) := by rw [IntKind.wrap_u64]; omega
  obtain ⟨w1, hw1⟩ : ∃ x, x = w.alloc (.cells L.toArray 26) := ⟨_, rfl⟩
  have W1 := Lib.hid (show Below w.heap.size w w1 by rw [hw1]; exact (Below.refl w.heap.size w).alloc (Nat.le_refl _) _)
  have K1 := Lib.hid (show Blk w1 w.heap.size 26 L by rw [hw1]; exact Blk.new w 26 L _ rfl)
  clear hL hp hat hsum HRF
  go_enter Try.func36, Try.ntmps36
  go_upto_region 1 with fail
  rw [← hw1]
  clear hw1
  refine wp_region_g (by kernel_rfl) 7 (by decide) (by kernel_rfl) (by kernel_rfl) (by kernel_rfl) (w1.heap.size) (Nat.le_refl _) [.val (.pointer (some ⟨w.heap.size, 0, none⟩)), .val (.int .u32 (at_ : Int)), .val (.int .u64 (at_ : Int)), .own (be at_ 4), .val (.pointer (some ⟨w.heap.size, 1, none⟩)), .val (.slice (some ⟨w.heap.size, 1, none⟩) 32 32), .own (be at_ 4 ++ sum)] (fun j => if j = 3 then 6 else 8) ?_ ?_
  · refine ⟨?_, ?_, ?_, ?_, ?_, ?_, ?_, trivial⟩
    · intro a w' hF hB hd
      have e1 : a.eval (.tmp 1) = .pointer (some ⟨w.heap.size, 0, none⟩) := hF 1 (by decide +kernel)
      exact doesG_val rfl (ex_fieldAddr rfl e1 (by go_simp)) rfl rfl
    · intro a w' hF hB hd
      have e3 : a.eval (.tmp 3) = .pointer (some ⟨w.heap.size, 0, none⟩) := hd 0 (by decide +kernel) (.inr (by decide))
      have cc := (K1.out.below hB K1.out.lt).cell 0 _ HC0.out
      exact doesG_val rfl (v := .int .u32 (at_ : Int)) (by unfold execOp; simp only [e3]; go_simp) rfl rfl
    · intro a w' hF hB hd
      have e4 : a.eval (.tmp 4) = .int .u32 (at_ : Int) := hd 1 (by decide +kernel) (.inr (by decide))
      exact doesG_val rfl (ex_convert rfl e4 (by go_simp)) rfl rfl
    · intro a w' hF hB hd
      have e5 : a.eval (.tmp 5) = .int .u64 (at_ : Int) := hd 2 (by decide +kernel) (.inr (by decide))
      exact doesG_made rfl (ex_call (vs := #[.int .u64 (at_ : Int), .int .i64 4]) rfl (by simp only [List.map_toArray, List.map_cons, List.map_nil, e5]; rfl) (by go_simp)) ((HN4.out w').mono fun e w2 hh => by obtain ⟨v, he, ho, hb⟩ := hh; exact ⟨v, he, ho.lower hB.size, hb, own_from ho⟩)
    · intro a w' hF hB hd
      have e1 : a.eval (.tmp 1) = .pointer (some ⟨w.heap.size, 0, none⟩) := hF 1 (by decide +kernel)
      exact doesG_val rfl (ex_fieldAddr rfl e1 (by go_simp)) rfl rfl
    · intro a w' hF hB hd
      have e7 : a.eval (.tmp 7) = .pointer (some ⟨w.heap.size, 1, none⟩) := hd 4 (by decide +kernel) (.inr (by decide))
      have f7 : a.tmps[7]?.getD undef = .pointer (some ⟨w.heap.size, 1, none⟩) := by rw [← Array.getD_eq_getD_getElem?]; exact e7
      exact doesG_val rfl (by unfold execOp; simp only [e7]; go_simp) rfl rfl
    · intro a w' hF hB hd
      have e6 : Own w' w1.heap.size (a.eval (.tmp 6)) (be at_ 4) := hd 3 (by decide +kernel) (.inl (by decide))
      have e8 : a.eval (.tmp 8) = .slice (some ⟨w.heap.size, 1, none⟩) 32 32 := hd 5 (by decide +kernel) (.inr (by decide))
      exact doesG_app rfl (.tmp 6) (.tmp 8) rfl 3 (by decide +kernel) rfl rfl _ _ _ _ rfl rfl e8 e6 (rd_part (K1.out.below hB K1.out.lt) BS.out HCS.out (by decide)) (by rw [be_len, BS.out.1]; decide) hB.size (fun _ _ h => h)
  · intro vs w4 hb hv hap
    have e8 := hv 6 (by decide) (by decide)
    have O8 := Lib.hid e8
    have W4 := Lib.hid (W1.out.on hb)
    have HSZ := Lib.hid (show w.heap.size ≤ w1.heap.size from W1.out.size)
    simp only [List.take_succ_cons, List.take_zero, List.drop_succ_cons, List.drop_zero, putOps, Act.put, List.setIfInBounds_toArray, List.set_cons_zero, List.set_cons_succ]
    clear hv hap e8 hb
    go_wp2_with fail
    go_ret
    exact ⟨_, rfl, O8.out.lower HSZ.out, W4.out⟩
end Go.Proofs.Ytkagapgganoomaa

/- The document's Decrypt, with its table: contract. Own work. -/
import Derived.Test.YtdoifgofmlagbaaDoorAesDecR
namespace Go.Proofs.YtdoifgofmlagbaaDoor
open Go.ChangeShapes Go.WideShapes Go.ChangeAt Go.RowKit
open AM FM
set_option maxRecDepth 100000 in
set_option maxHeartbeats 1000000 in
theorem adec_any (KS : List Nat) (hK : Bytes 240 KS) (s : List Nat) (hs : Bytes 16 s) (w : World) (ht : TabA w) :
    Calls Tryd.prog 22 #[.agg (row8 KS).toArray, .agg (row8 s).toArray] w fun e w' => e = .returned (.agg (row8 (dec (rk KS) s)).toArray) ∧ Below w.heap.size w w' := by
  obtain ⟨C0, hC0⟩ : ∃ C0, C0 = row8 (List.replicate 16 0) := ⟨_, rfl⟩
  have hz : ∀ w, (zeroValue 28).run Tryd.prog w = .ok (.agg C0.toArray) w := by rw [hC0]; exact zero16
  have hc0 : C0.length = 16 := by rw [hC0, row8_len, List.length_replicate]
  have w1 := (Below.refl w.heap.size w).alloc (Nat.le_refl _) (.cells (row8 KS).toArray 29)
  have w2 := w1.alloc w1.size (.cells (row8 s).toArray 28)
  have w3 := w2.alloc w2.size (.cells C0.toArray 28)
  obtain ⟨wr, hwr⟩ : ∃ W, W = ((w.alloc (.cells (row8 KS).toArray 29)).alloc (.cells (row8 s).toArray 28)).alloc (.cells C0.toArray 28) := ⟨_, rfl⟩
  have K2 := Lib.hid (((Blk.new w 29 (row8 KS) _ rfl).alloc (.cells (row8 s).toArray 28)).alloc (.cells C0.toArray 28))
  have S2 := Lib.hid ((Blk.new (w.alloc (.cells (row8 KS).toArray 29)) 28 (row8 s) (w.heap.size + 1) (by simp)).alloc (.cells C0.toArray 28))
  have R2 := Lib.hid (Blk.new ((w.alloc (.cells (row8 KS).toArray 29)).alloc (.cells (row8 s).toArray 28)) 28 C0 (w.heap.size + 1 + 1) (by simp))
  rw [← hwr] at w3 K2 S2 R2
  have B2 := Lib.hid w3
  have HWR := Lib.hid hwr
  have HX := Lib.hid (ht.below w3)
  have HC1 := Lib.hid (fun W (hW : Below wr.heap.size wr W) => aback_any W (HX.out.below hW))
  have HC2 := Lib.hid (fun W => adecr_any KS hK s hs W)
  obtain ⟨M, hM⟩ : ∃ M, M = dec (rk KS) s := ⟨_, rfl⟩
  rw [← hM] at HC2 ⊢
  have M16 := Lib.hid (show (row8 M).length = 16 by rw [hM, row8_len]; exact row_len _)
  have S16 := Lib.hid (show (row8 s).length = 16 by rw [row8_len]; exact hs.1)
  have K240 := Lib.hid (show (row8 KS).length = 240 by rw [row8_len]; exact hK.1)
  clear hC0 w1 w2 w3 hwr ht hK hs hM
  go_enter Tryd.func22, Tryd.ntmps22
  go_upto_region 1 with (fail)
  rw [← HWR.out]
  refine wp_region_g (by kernel_rfl) 4 (by decide) (by kernel_rfl) (by kernel_rfl) (by kernel_rfl) wr.heap.size (Nat.le_refl _) [.val (.agg (row8 KS).toArray), .val (.agg (row8 untab).toArray), .val (.agg (row8 s).toArray), .val (.agg (row8 M).toArray)] (fun _ => 5) ?_ ?_
  · refine ⟨?_, ?_, ?_, ?_, trivial⟩
    · intro a w' hF hB hd
      have e2 : a.eval (.tmp 2) = .pointer (some ⟨w.heap.size, 0, none⟩) := hF 2 (by decide +kernel)
      exact doesG_wp rfl rfl fun K' hK' => wp_load_mid 29 (.tmp 2) rfl w.heap.size 0 e2 (row8 KS) _ (K2.out.below hB K2.out.lt).range Tryd.underlying29 rfl (by rw [K240.out]; exact info240) (hK' _ _ rfl (Below.refl _ _))
    · intro a w' hF hB hd
      exact doesG_call rfl (ex_call (vs := #[]) rfl (by simp) (by go_simp)) rfl ((HC1.out w' hB).mono fun e w2 hh => ⟨_, hh.1, rfl, hh.2⟩)
    · intro a w' hF hB hd
      have e3 : a.eval (.tmp 3) = .pointer (some ⟨w.heap.size + 1, 0, none⟩) := hF 3 (by decide +kernel)
      exact doesG_wp rfl rfl fun K' hK' => wp_load_mid 28 (.tmp 3) rfl (w.heap.size + 1) 0 e3 (row8 s) _ (S2.out.below hB S2.out.lt).range Tryd.underlying28 rfl (by rw [S16.out]; exact info16) (hK' _ _ rfl (Below.refl _ _))
    · intro a w' hF hB hd
      have e5 : a.eval (.tmp 5) = .agg (row8 KS).toArray := hd 0 (by decide +kernel) (.inr (by decide))
      have e6 : a.eval (.tmp 6) = .agg (row8 untab).toArray := hd 1 (by decide +kernel) (.inr (by decide))
      have e7 : a.eval (.tmp 7) = .agg (row8 s).toArray := hd 2 (by decide +kernel) (.inr (by decide))
      exact doesG_call rfl (ex_call (vs := #[.agg (row8 KS).toArray, .agg (row8 untab).toArray, .agg (row8 s).toArray]) rfl (by simp only [List.map_toArray, List.map_cons, List.map_nil, e5, e6, e7]) (by go_simp)) rfl ((HC2.out w').mono fun e w2 hh => ⟨_, hh.1, rfl, hh.2⟩)
  · intro vs w7 hB hv hap
    have er : vs 3 = .agg (row8 M).toArray := hv 3 (by decide) (by decide)
    simp only [List.take_succ_cons, List.take_zero, List.drop_succ_cons, List.drop_zero, putOps, Act.put, List.setIfInBounds_toArray, List.set_cons_zero, List.set_cons_succ, er]
    have R7 := Lib.hid (R2.out.below hB R2.out.lt)
    have B7 := Lib.hid (B2.out.on hB)
    clear hv hap er hB K2 S2 R2 B2
    generalize vs 0 = v0 at *
    generalize vs 1 = v1 at *
    generalize vs 2 = v2 at *
    go_wp2_with (refine wpList_store_mid rfl 28 (.tmp 4) (.tmp 8) rfl (w.heap.size + 1 + 1) 0 (row8 M).toArray rfl rfl (R7.out.there _ (by rw [List.size_toArray, M16.out, hc0])) (by rw [List.size_toArray, M16.out]; exact info16) (row8_one _) ?_)
    have fin := R7.out.whole (row8 M) (by rw [M16.out, hc0])
    exact bodyPost_ret (v := .agg (row8 M).toArray) (results_mid rfl _ _ (w.heap.size + 1 + 1) (row8 M) _ rfl fin.range Tryd.underlying28 rfl (by rw [M16.out]; exact info16)) rfl ⟨rfl, below_setCells (w.heap.size + 1 + 1) (by omega) _ 0 _ B7.out⟩
end Go.Proofs.YtdoifgofmlagbaaDoor

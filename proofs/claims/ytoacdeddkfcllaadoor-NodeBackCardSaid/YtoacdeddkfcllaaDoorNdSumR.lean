/- The sums of a node's and of a page's cluster, by the document's answer: contracts. Work ahead for stage 15. Own work. -/
import Derived.Test.YtoacdeddkfcllaaDoorNdM
import Derived.Test.YtoacdeddkfcllaaDoorAppAny
import Derived.Test.YtoacdeddkfcllaaDoorShaB
import Derived.Test.YtoacdeddkfcllaaDoorShaD
import Derived.Test.YtoacdeddkfcllaaDoorEqX
import Derived.Lib.SlBytesConst
namespace Go.Proofs.YtoacdeddkfcllaaDoor
open Go.ChangeShapes Go.WideShapes Go.ChangeAt Go.RowKit
open SM
theorem zeroSmN (w : World) : (zeroValue 24).run Tryd.prog w = .ok (.agg (row8 (List.replicate 32 0)).toArray) w := by kernel_rfl
set_option maxRecDepth 100000 in
theorem nrsum_any (b : List Nat) (hl : b.length ≤ 140737488355200) (v : Value) (w : World) (hv : Rd w v b) (ht : Tab w) : Calls Tryd.prog 16 #[v] w fun e w' => e = .returned (.agg (row8 (sha ([110, 111, 100, 101] ++ b))).toArray) ∧ Below w.heap.size w w' := by
  obtain ⟨M, hM⟩ : ∃ M, M = sha ([110, 111, 100, 101] ++ b) := ⟨_, rfl⟩
  obtain ⟨D0, hD0⟩ : ∃ D, D = row8 (List.replicate 32 0) := ⟨_, rfl⟩
  have hz : ∀ w, (zeroValue 24).run Tryd.prog w = .ok (.agg D0.toArray) w := by rw [hD0]; exact zeroSmN
  have hd0 : D0.length = 32 := by rw [hD0, row8_len, List.length_replicate]
  have M32 := Lib.hid (show (row8 M).length = 32 by rw [row8_len, hM]; exact (sha_bytes _).1)
  have W2 := Lib.hid ((Below.refl w.heap.size w).alloc (Nat.le_refl _) (.cells D0.toArray 24))
  have R2 := Lib.hid (Blk.new w 24 D0 _ rfl)
  have HO := Lib.hid (fun W (v : Value) (hW : Below w.heap.size w W) (hv : Rd W v ([110, 111, 100, 101] ++ b)) => rof_any ([110, 111, 100, 101] ++ b) (by rw [List.length_append]; show 4 + _ + 72 ≤ _; omega) v W hv (ht.below hW))
  rw [← hM] at HO
  rw [← hM]
  have HV := Lib.hid hv
  have kc := fun (w : World) (C : Array Value) (n c : Nat) => Lib.run_convert_bytes_const (P := Tryd.prog) w 29 5 C n c Tryd.underlying29 Tryd.underlying5
  obtain ⟨w1, hw1⟩ : ∃ x, x = w.alloc (.cells D0.toArray 24) := ⟨_, rfl⟩
  have HS1 := Lib.hid (show w1.heap.size = w.heap.size + 1 by rw [hw1]; simp)
  rw [← hw1] at W2 R2
  clear hM hD0 ht hv
  go_enter Tryd.func16, Tryd.ntmps16
  go_upto_region 1 with fail
  rw [← hw1]
  clear hw1
  go_wp2_with (first
    | (refine wpList_app_any rfl (.tmp 4) (.tmp 5) rfl ⟨w1.heap.size, 0, none⟩ 4 v [110, 111, 100, 101] b rfl rfl rfl (rd_const w1 [110, 111, 100, 101] (small_bytes (by decide)) (by decide) 4 rfl _ rfl (4, 5)) ((HV.out.below W2.out).alloc _) (by omega) ?_; intro v3 w3 o3 b3; have V3 := Lib.hid o3; have b23 := ((Below.refl w1.heap.size w1).alloc (Nat.le_refl _) (.cells (row8 [110, 111, 100, 101]).toArray 5 (4, 5))).trans (b3.mono (by simp)); have W3 := Lib.hid (W2.out.on b23); have R3 := Lib.hid (R2.out.below b23 R2.out.lt); clear o3 b3 b23)
    | (go_at_call 29; (with_reducible refine (HO.out w3 v3 W3.out V3.out).mono ?_); rintro e w4 ⟨rfl, b4⟩; have W4 := Lib.hid (W3.out.on b4); have R4 := Lib.hid (R3.out.below b4 R3.out.lt); clear b4)
    | (refine wpList_store_blk rfl 24 (.tmp 2) (.tmp 7) rfl w.heap.size 0 (row8 M) rfl rfl 24 D0 R4.out (by rw [M32.out, hd0]; exact Nat.le_refl _) (by rw [M32.out]; exact infoS) (row8_one _) ?_; intro w5 b5 g5; rw [splice_all _ _ (by rw [M32.out, hd0])] at b5; have U5 := Lib.hid b5; have W5 := Lib.hid (W4.out.grown g5 W4.out.size (fun g hg => by have := Option.some.inj hg; omega)); clear b5 g5))
  exact bodyPost_ret (results_mid rfl _ _ w.heap.size (row8 M) _ rfl U5.out.range Tryd.underlying24 rfl (by rw [M32.out]; exact infoS)) rfl ⟨rfl, W5.out⟩
set_option maxRecDepth 100000 in
theorem nrpage_any (b : List Nat) (hl : b.length ≤ 140737488355200) (v : Value) (w : World) (hv : Rd w v b) (ht : Tab w) : Calls Tryd.prog 18 #[v] w fun e w' => e = .returned (.agg (row8 (sha ([112, 97, 103, 101] ++ b))).toArray) ∧ Below w.heap.size w w' := by
  obtain ⟨M, hM⟩ : ∃ M, M = sha ([112, 97, 103, 101] ++ b) := ⟨_, rfl⟩
  obtain ⟨D0, hD0⟩ : ∃ D, D = row8 (List.replicate 32 0) := ⟨_, rfl⟩
  have hz : ∀ w, (zeroValue 24).run Tryd.prog w = .ok (.agg D0.toArray) w := by rw [hD0]; exact zeroSmN
  have hd0 : D0.length = 32 := by rw [hD0, row8_len, List.length_replicate]
  have M32 := Lib.hid (show (row8 M).length = 32 by rw [row8_len, hM]; exact (sha_bytes _).1)
  have W2 := Lib.hid ((Below.refl w.heap.size w).alloc (Nat.le_refl _) (.cells D0.toArray 24))
  have R2 := Lib.hid (Blk.new w 24 D0 _ rfl)
  have HO := Lib.hid (fun W (v : Value) (hW : Below w.heap.size w W) (hv : Rd W v ([112, 97, 103, 101] ++ b)) => rof_any ([112, 97, 103, 101] ++ b) (by rw [List.length_append]; show 4 + _ + 72 ≤ _; omega) v W hv (ht.below hW))
  rw [← hM] at HO
  rw [← hM]
  have HV := Lib.hid hv
  have kc := fun (w : World) (C : Array Value) (n c : Nat) => Lib.run_convert_bytes_const (P := Tryd.prog) w 29 5 C n c Tryd.underlying29 Tryd.underlying5
  obtain ⟨w1, hw1⟩ : ∃ x, x = w.alloc (.cells D0.toArray 24) := ⟨_, rfl⟩
  have HS1 := Lib.hid (show w1.heap.size = w.heap.size + 1 by rw [hw1]; simp)
  rw [← hw1] at W2 R2
  clear hM hD0 ht hv
  go_enter Tryd.func18, Tryd.ntmps18
  go_upto_region 1 with fail
  rw [← hw1]
  clear hw1
  go_wp2_with (first
    | (refine wpList_app_any rfl (.tmp 4) (.tmp 5) rfl ⟨w1.heap.size, 0, none⟩ 4 v [112, 97, 103, 101] b rfl rfl rfl (rd_const w1 [112, 97, 103, 101] (small_bytes (by decide)) (by decide) 4 rfl _ rfl (4, 5)) ((HV.out.below W2.out).alloc _) (by omega) ?_; intro v3 w3 o3 b3; have V3 := Lib.hid o3; have b23 := ((Below.refl w1.heap.size w1).alloc (Nat.le_refl _) (.cells (row8 [112, 97, 103, 101]).toArray 5 (4, 5))).trans (b3.mono (by simp)); have W3 := Lib.hid (W2.out.on b23); have R3 := Lib.hid (R2.out.below b23 R2.out.lt); clear o3 b3 b23)
    | (go_at_call 29; (with_reducible refine (HO.out w3 v3 W3.out V3.out).mono ?_); rintro e w4 ⟨rfl, b4⟩; have W4 := Lib.hid (W3.out.on b4); have R4 := Lib.hid (R3.out.below b4 R3.out.lt); clear b4)
    | (refine wpList_store_blk rfl 24 (.tmp 2) (.tmp 7) rfl w.heap.size 0 (row8 M) rfl rfl 24 D0 R4.out (by rw [M32.out, hd0]; exact Nat.le_refl _) (by rw [M32.out]; exact infoS) (row8_one _) ?_; intro w5 b5 g5; rw [splice_all _ _ (by rw [M32.out, hd0])] at b5; have U5 := Lib.hid b5; have W5 := Lib.hid (W4.out.grown g5 W4.out.size (fun g hg => by have := Option.some.inj hg; omega)); clear b5 g5))
  exact bodyPost_ret (results_mid rfl _ _ w.heap.size (row8 M) _ rfl U5.out.range Tryd.underlying24 rfl (by rw [M32.out]; exact infoS)) rfl ⟨rfl, W5.out⟩
end Go.Proofs.YtoacdeddkfcllaaDoor

/- The document's sum of a table: contract. Own work. -/
import Derived.Test.YtbepchikngoknaaDoorSlGR
import Derived.Test.YtbepchikngoknaaDoorShaB
import Derived.Test.YtbepchikngoknaaDoorShaD
namespace Go.Proofs.YtbepchikngoknaaDoor
open Go.ChangeShapes Go.WideShapes Go.ChangeAt Go.RowKit
open SM WM SL
theorem zeroSm (w : World) : (zeroValue 26).run Tryd.prog w = .ok (.agg (row8 (List.replicate 32 0)).toArray) w := by kernel_rfl
set_option maxRecDepth 100000 in
theorem rtsum_any (T : List Slot) (hT : Tok T) (w : World) (ht : Tab w) : Calls Tryd.prog 12 #[.agg (tbc T).toArray] w fun e w' => e = .returned (.agg (row8 (sha (put T))).toArray) ∧ Below w.heap.size w w' := by
  obtain ⟨L, hL⟩ : ∃ L, L = tbc T := ⟨_, rfl⟩
  obtain ⟨M, hM⟩ : ∃ M, M = sha (put T) := ⟨_, rfl⟩
  obtain ⟨D0, hD0⟩ : ∃ D, D = row8 (List.replicate 32 0) := ⟨_, rfl⟩
  have hz : ∀ w, (zeroValue 26).run Tryd.prog w = .ok (.agg D0.toArray) w := by rw [hD0]; exact zeroSm
  have hd0 : D0.length = 32 := by rw [hD0, row8_len, List.length_replicate]
  have M32 := Lib.hid (show (row8 M).length = 32 by rw [row8_len, hM]; exact (sha_bytes _).1)
  have L656 := Lib.hid (show L.length = 656 by rw [hL]; exact tbc_len hT)
  have W1 := Lib.hid ((Below.refl w.heap.size w).alloc (Nat.le_refl _) (.cells L.toArray 34))
  have W2 := Lib.hid (W1.out.alloc W1.out.size (.cells D0.toArray 26))
  have T2 := Lib.hid ((Blk.new w 34 L _ rfl).alloc (.cells D0.toArray 26))
  have R2 := Lib.hid (Blk.new (w.alloc (.cells L.toArray 34)) 26 D0 (w.heap.size + 1) (by simp))
  have HP := Lib.hid (fun W => rtput_any T hT W)
  rw [← hL] at HP
  have HO := Lib.hid (fun W (v : Value) (hW : Below w.heap.size w W) (hv : Rd W v (put T)) => rof_any (put T) (by rw [put_len hT.ok, hT.len]; decide) v W hv (ht.below hW))
  rw [← hM] at HO
  rw [← hL, ← hM]
  clear hL hM hD0 ht hT
  go_enter Tryd.func12, Tryd.ntmps12
  go_wp2_with (first
    | (refine wpList_load_mid rfl 34 (.tmp 1) rfl w.heap.size 0 rfl L _ T2.out.range Tryd.underlying34 rfl (by rw [L656.out]; exact infoTr) ?_)
    | (go_at_call 10; (with_reducible refine (HP.out _).mono ?_); rintro e w3 ⟨v, rfl, o3, b3⟩; have V3 := Lib.hid o3.rd; have W3 := Lib.hid (W2.out.on b3); have R3 := Lib.hid (R2.out.below b3 R2.out.lt); clear o3 b3)
    | (go_at_call 30; (with_reducible refine (HO.out w3 v W3.out V3.out).mono ?_); rintro e w4 ⟨rfl, b4⟩; have W4 := Lib.hid (W3.out.on b4); have R4 := Lib.hid (R3.out.below b4 R3.out.lt); clear b4)
    | (refine wpList_store_blk rfl 26 (.tmp 2) (.tmp 5) rfl (w.heap.size + 1) 0 (row8 M) rfl rfl 26 D0 R4.out (by rw [M32.out, hd0]; exact Nat.le_refl _) (by rw [M32.out]; exact infoS) (row8_one _) ?_; intro w5 b5 g5; rw [splice_all _ _ (by rw [M32.out, hd0])] at b5; have U5 := Lib.hid b5; have W5 := Lib.hid (W4.out.grown g5 W4.out.size (fun g hg => by have := Option.some.inj hg; omega)); clear b5 g5))
  exact bodyPost_ret (results_mid rfl _ _ (w.heap.size + 1) (row8 M) _ rfl U5.out.range Tryd.underlying26 rfl (by rw [M32.out]; exact infoS)) rfl ⟨rfl, W5.out⟩
end Go.Proofs.YtbepchikngoknaaDoor

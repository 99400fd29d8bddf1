/- Does a passphrase open a table: contract. Own work. -/
import Derived.Test.YtbepchikngoknaaDoorSlDX
namespace Go.Proofs.YtbepchikngoknaaDoor
open Go.ChangeShapes Go.WideShapes Go.ChangeAt Go.RowKit
open SM WM SL
set_option maxRecDepth 100000 in
set_option maxHeartbeats 1000000 in
theorem slotOpens_any (T : List Slot) (hT : Tok T) (p : List Nat) (v : Value) (w : World) (hv : Rd w v p) (ha : TabA w) (hk : Tab w) : Calls Tryd.prog 26 #[.agg (tbc T).toArray, v] w fun e w' => e = .returned (.bool (decide (oerr T p = 0))) ∧ Below w.heap.size w w' := by
  obtain ⟨va, vc, rfl, _⟩ := hv.shape
  obtain ⟨pl, hpl⟩ : ∃ n, n = p.length := ⟨_, rfl⟩
  obtain ⟨L, hL⟩ : ∃ L, L = tbc T := ⟨_, rfl⟩
  obtain ⟨RK, hRK⟩ : ∃ x, x = okey T p := ⟨_, rfl⟩
  obtain ⟨RI, hRI⟩ : ∃ x, x = oidx T p := ⟨_, rfl⟩
  obtain ⟨RE, hRE⟩ : ∃ x, x = oerr T p := ⟨_, rfl⟩
  obtain ⟨D0, hD0⟩ : ∃ D, D = row8 (List.replicate 32 0) := ⟨_, rfl⟩
  have hz : ∀ w, (zeroValue 25).run Tryd.prog w = .ok (.agg D0.toArray) w := by rw [hD0]; exact zeroK2
  have hd0 : D0.length = 32 := by rw [hD0, row8_len, List.length_replicate]
  have K32 := Lib.hid (show (row8 RK).length = 32 by rw [row8_len, hRK]; exact (okey_bytes hT p).1)
  have L656 := Lib.hid (show L.length = 656 by rw [hL]; exact tbc_len hT)
  have W1 := Lib.hid ((Below.refl w.heap.size w).alloc (Nat.le_refl _) (.cells L.toArray 30))
  have T1 := Lib.hid (Blk.new w 30 L _ rfl)
  have HO := Lib.hid (ropen_any T hT p _ _ (hv.alloc (.cells L.toArray 30)) (ha.below W1.out) (hk.below W1.out))
  rw [← hL, ← hRK, ← hRI, ← hRE, ← hpl] at HO
  rw [← hL, ← hpl, ← hRE]
  have HEC := Lib.hid (show RE = 0 ∨ RE = 5 ∨ RE = 30 by rw [hRE]; exact oerr_cases T p)
  clear hv ha hk hT hpl hL hRK hRI hRE hD0
  rcases HEC.out with rfl | rfl | rfl
  all_goals
    go_enter Tryd.func26, Tryd.ntmps26
    go_wp2_with ((fail_if_success (with_reducible show bodyPost _ _ _ _ _ _)); first
      | (refine wpList_load_mid rfl 30 (.tmp 2) rfl w.heap.size 0 rfl L _ T1.out.range Tryd.underlying30 rfl (by rw [L656.out]; exact infoTb) ?_)
      | (go_at_call 20; (with_reducible refine HO.out.mono ?_); rintro e w2 ⟨rfl, b⟩; have W2 := Lib.hid (W1.out.on b); clear b)
      | (refine wpList_store_blk rfl 25 (.tmp 5) (.tmp 12) rfl w2.heap.size 0 (row8 RK) rfl rfl 25 D0 (Blk.new w2 25 D0 _ rfl) (by rw [K32.out, hd0]; exact Nat.le_refl _) (by rw [K32.out]; exact infoK2) (row8_one _) ?_; intro w5 b5 g5; have W5 := Lib.hid (W2.out.on (alloc_turn (Below.refl _ _) g5)); clear b5 g5))
    go_ret
    exact ⟨rfl, W5.out⟩
end Go.Proofs.YtbepchikngoknaaDoor

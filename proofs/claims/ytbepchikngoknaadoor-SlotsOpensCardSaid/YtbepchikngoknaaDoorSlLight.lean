/- The laws' own small functions: is a table light; does a passphrase open one: contracts. Own work. -/
import Derived.Test.YtbepchikngoknaaDoorSlN
namespace Go.Proofs.YtbepchikngoknaaDoor
open Go.ChangeShapes Go.WideShapes Go.ChangeAt Go.RowKit
open SM WM SL
set_option maxRecDepth 100000 in
set_option maxHeartbeats 1000000 in
theorem light_any (T : List Slot) (hT : Tok T) (w : World) : Calls Tryd.prog 18 #[.agg (tbc T).toArray] w fun e w' => (∃ b, e = .returned (.bool b)) ∧ Below w.heap.size w w' := by
  obtain ⟨L, hL⟩ : ∃ L, L = tbc T := ⟨_, rfl⟩
  rw [← hL]
  have HT := Lib.hid hT
  have HL := Lib.hid hL
  clear hT hL
  go_enter Tryd.func18, Tryd.ntmps18
  go_wp2_with fail
  have hb0 : Blk (w.alloc (.cells L.toArray 30)) w.heap.size 30 L := Blk.new _ _ _ _ rfl
  go_loopw [3, 4] (fun x i wr => ∃ k n : Nat, k ≤ 8 ∧ i = .int .i64 (k : Int) ∧ x = .int .i64 (n : Int) ∧ n ≤ k * 65535 ∧ Blk wr w.heap.size 30 L ∧ Below w.heap.size w wr) (fun _ i _ => 8 - (intOf i).toNat)
  case atStart => exact ⟨0, 0, by decide, rfl, rfl, by decide, hb0, (Below.refl _ _).alloc (Nat.le_refl _) _⟩
  case round =>
    clear hb0
    obtain ⟨k, n, hk, rfl, rfl, hn, hb, hbw⟩ := hrel
    have B := Lib.hid hb
    have BW := Lib.hid hbw
    clear hb hbw
    by_cases hlt : k < 8
    · have hcs : Blk wr w.heap.size 30 (tbc T) := by rw [← HL.out]; exact B.out
      have c0 : wr.cell? ⟨w.heap.size, k * 82, none⟩ = some (.bool (at_ T k).used) := hcs.usedAt HT.out hlt
      have c1 : wr.cell? ⟨w.heap.size, k * 82 + 1, none⟩ = some (.int .u16 ((at_ T k).turns : Int)) := hcs.slot HT.out hlt 1 _ rfl
      have htn := (HT.out.at_ hlt).turns
      obtain ⟨tn, htne⟩ : ∃ t, t = (at_ T k).turns := ⟨_, rfl⟩
      rw [← htne] at c1 htn
      have aw : IntKind.i64.wrap (tn : Int) = (tn : Int) := by rw [IntKind.wrap_i64]; omega
      have aw2 : IntKind.i64.wrap ((n : Int) + (tn : Int)) = ((n + tn : Nat) : Int) := by rw [IntKind.wrap_i64]; omega
      have hklt : (k : Int) < 8 := by omega
      clear hcs htne
      cases hu : (at_ T k).used with
      | true =>
        rw [hu] at c0
        by_cases ht : tn ≤ 4096
        · have hz : (tn : Int) ≤ 4096 := by omega
          go_wp2_with fail
          exact ⟨⟨k + 1, n + tn, by omega, by go_num, by go_num, by omega, B.out, BW.out⟩, by simp [intOf]; omega⟩
        · have hz : ¬ (tn : Int) ≤ 4096 := by omega
          go_wp2_with fail
          exact ⟨⟨k + 1, n, by omega, by go_num, rfl, Nat.le_trans hn (Nat.mul_le_mul_right _ (Nat.le_succ k)), B.out, BW.out⟩, by simp [intOf]; omega⟩
      | false =>
        rw [hu] at c0
        go_wp2_with fail
        exact ⟨⟨k + 1, n, by omega, by go_num, rfl, Nat.le_trans hn (Nat.mul_le_mul_right _ (Nat.le_succ k)), B.out, BW.out⟩, by simp [intOf]; omega⟩
    · obtain rfl : k = 8 := by omega
      go_wp2_with fail
      go_ret
      exact ⟨⟨_, rfl⟩, BW.out⟩
end Go.Proofs.YtbepchikngoknaaDoor

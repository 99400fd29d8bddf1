/- Two slices of bytes compared: contract of the program's Equal; and the sum of parts with a key. Own work. -/
import Derived.Test.YtenigdbnfepkeaaDoorHmacA
import Derived.Laws.BitsAllLaws
namespace Go.Proofs.YtenigdbnfepkeaaDoor
open Go.ChangeShapes Go.WideShapes Go.ChangeAt Go.RowKit
open SM
theorem i64_xor_natH (a b : Nat) (ha : a < 9223372036854775808) (hb : b < 9223372036854775808) : bits .xor .i64 (a : Int) (b : Int) = ((a ^^^ b : Nat) : Int) := by
  have hx : a ^^^ b < 2 ^ 63 := Nat.xor_lt_two_pow (by omega) (by omega)
  show IntKind.i64.wrap ((BitVec.ofInt 64 (a : Int) ^^^ BitVec.ofInt 64 (b : Int)).toNat : Int) = _
  rw [BitVec.toNat_xor, ofInt_u64 a (by omega), ofInt_u64 b (by omega), IntKind.wrap_i64]
  omega
theorem i64_or_natH (a b : Nat) (ha : a < 9223372036854775808) (hb : b < 9223372036854775808) : bits .or .i64 (a : Int) (b : Int) = ((a ||| b : Nat) : Int) := by
  have hx : a ||| b < 2 ^ 63 := Nat.or_lt_two_pow (by omega) (by omega)
  show IntKind.i64.wrap ((BitVec.ofInt 64 (a : Int) ||| BitVec.ofInt 64 (b : Int)).toNat : Int) = _
  rw [BitVec.toNat_or, ofInt_u64 a (by omega), ofInt_u64 b (by omega), IntKind.wrap_i64]
  omega
theorem xor_zero_iffH (a b : Nat) : a ^^^ b = 0 ↔ a = b := by
  refine ⟨fun h => ?_, fun h => by rw [h, Nat.xor_self]⟩
  have := congrArg (· ^^^ b) h
  simpa [Nat.xor_assoc] using this
theorem same_iff (l m : List Nat) (hl : l.length = m.length) : (∀ j, j < min l.length m.length → gb l j = gb m j) ↔ l = m := by
  refine ⟨fun h => bytes_ext (n := m.length) hl rfl fun k hk => h k (by omega), fun h => by rw [h]; exact fun _ _ => rfl⟩
set_option maxHeartbeats 1000000 in
theorem equal_any (l m : List Nat) (v y : Value) (w : World) (hv : Rd w v l) (hy : Rd w y m) :
    Calls Tryd.prog 25 #[v, y] w fun e w' => e = .returned (.bool (decide (l = m))) ∧ Below w.heap.size w w' := by
  obtain ⟨av, cv, rfl, hcv⟩ := hv.shape
  obtain ⟨ay, cy, rfl, hcy⟩ := hy.shape
  have fl := hv.fits
  have fm := hy.fits
  have HV := Lib.hid hv
  have HY := Lib.hid hy
  have hx0 := i64_xor_natH l.length m.length (by omega) (by omega)
  obtain ⟨n, hn⟩ : ∃ n, n = min l.length m.length := ⟨_, rfl⟩
  have hnl : n ≤ l.length := by omega
  have hnm : n ≤ m.length := by omega
  have hnI : min (l.length : Int) (m.length : Int) = (n : Int) := by omega
  have HN := Lib.hid hn
  clear hv hy hn
  go_enter Tryd.func25, Tryd.ntmps25
  by_cases hq : m.length < l.length
  · have HNN := Lib.hid (show (m.length : Int) = (n : Int) by omega)
    go_wp2_with fail
    rw [HNN.out]
    go_loopw [17, 5] (fun i x wr => ∃ k u : Nat, k ≤ n ∧ i = .int .i64 (k : Int) ∧ x = .int .i64 (u : Int) ∧ u < 9223372036854775808 ∧ (u = 0 ↔ l.length = m.length ∧ ∀ j, j < k → gb l j = gb m j) ∧ Below w.heap.size w wr) (fun i _ _ => n - (intOf i).toNat)
    case atStart => exact ⟨0, l.length ^^^ m.length, Nat.zero_le _, rfl, rfl, Nat.xor_lt_two_pow (n := 63) (by omega) (by omega), by rw [xor_zero_iffH]; exact ⟨fun h => ⟨h, fun j hj => absurd hj (by omega)⟩, fun h => h.1⟩, Below.refl _ _⟩
    case round =>
      obtain ⟨k, u, hk, rfl, rfl, hu, hiff, bb⟩ := hrel
      have BB := Lib.hid bb
      have HI := Lib.hid hiff
      clear bb hiff
      by_cases hlt : k < n
      · obtain ⟨ad, rfl, hc⟩ := (HV.out.below BB.out).at_ k (by omega)
        obtain ⟨ae, rfl, hd⟩ := (HY.out.below BB.out).at_ k (by omega)
        have b1 := HV.out.byte k
        have b2 := HY.out.byte k
        have hx1 := u8_xor_nat (gb l k) (gb m k) b1 b2
        have hx2 : gb l k ^^^ gb m k < 256 := Nat.xor_lt_two_pow (n := 8) b1 b2
        have hx3 := i64_or_natH u (gb l k ^^^ gb m k) hu (by omega)
        have kl : (k : Int) < (l.length : Int) := by omega
        have km : (k : Int) < (m.length : Int) := by omega
        go_upto_region 5 with (fail)
        go_big_quiet (fail)
        go_wp2_with fail
        refine ⟨⟨k + 1, u ||| (gb l k ^^^ gb m k), by omega, by go_num, ?_, Nat.or_lt_two_pow (n := 63) hu (by omega), ?_, below_dN BB.out nq⟩, by simp [intOf]; omega⟩
        · rfl
        · rw [Nat.or_eq_zero_iff, HI.out, xor_zero_iffH]
          refine ⟨fun h => ⟨h.1.1, fun j hj => ?_⟩, fun h => ⟨⟨h.1, fun j hj => h.2 j (by omega)⟩, h.2 k (by omega)⟩⟩
          by_cases e : j = k
          · rw [e]; exact h.2
          · exact h.1.2 j (by omega)
      · obtain rfl : k = n := by omega
        have hz : (u = 0) ↔ l = m := by
          rw [HI.out]
          refine ⟨fun h => (same_iff l m h.1).1 (by rw [← HN.out]; exact h.2), fun h => ⟨by rw [h], fun j _ => by rw [h]⟩⟩
        have hzI : ((u : Int) = 0) ↔ l = m := by rw [← hz]; omega
        by_cases he : l = m
        · have h0 : (u : Int) = 0 := hzI.2 he
          go_wp2_with fail
          go_ret
          exact ⟨by simp [he], BB.out⟩
        · have h0 : ¬ (u : Int) = 0 := fun h => he (hzI.1 h)
          have h1 : ¬ u = 0 := fun h => he (hz.1 h)
          go_wp2_with fail
          go_ret
          exact ⟨by simp [he, h1], BB.out⟩
  · have HNN := Lib.hid (show (l.length : Int) = (n : Int) by omega)
    go_wp2_with fail
    rw [HNN.out]
    go_loopw [17, 5] (fun i x wr => ∃ k u : Nat, k ≤ n ∧ i = .int .i64 (k : Int) ∧ x = .int .i64 (u : Int) ∧ u < 9223372036854775808 ∧ (u = 0 ↔ l.length = m.length ∧ ∀ j, j < k → gb l j = gb m j) ∧ Below w.heap.size w wr) (fun i _ _ => n - (intOf i).toNat)
    case atStart => exact ⟨0, l.length ^^^ m.length, Nat.zero_le _, rfl, rfl, Nat.xor_lt_two_pow (n := 63) (by omega) (by omega), by rw [xor_zero_iffH]; exact ⟨fun h => ⟨h, fun j hj => absurd hj (by omega)⟩, fun h => h.1⟩, Below.refl _ _⟩
    case round =>
      obtain ⟨k, u, hk, rfl, rfl, hu, hiff, bb⟩ := hrel
      have BB := Lib.hid bb
      have HI := Lib.hid hiff
      clear bb hiff
      by_cases hlt : k < n
      · obtain ⟨ad, rfl, hc⟩ := (HV.out.below BB.out).at_ k (by omega)
        obtain ⟨ae, rfl, hd⟩ := (HY.out.below BB.out).at_ k (by omega)
        have b1 := HV.out.byte k
        have b2 := HY.out.byte k
        have hx1 := u8_xor_nat (gb l k) (gb m k) b1 b2
        have hx2 : gb l k ^^^ gb m k < 256 := Nat.xor_lt_two_pow (n := 8) b1 b2
        have hx3 := i64_or_natH u (gb l k ^^^ gb m k) hu (by omega)
        have kl : (k : Int) < (l.length : Int) := by omega
        have km : (k : Int) < (m.length : Int) := by omega
        go_upto_region 5 with (fail)
        go_big_quiet (fail)
        go_wp2_with fail
        refine ⟨⟨k + 1, u ||| (gb l k ^^^ gb m k), by omega, by go_num, ?_, Nat.or_lt_two_pow (n := 63) hu (by omega), ?_, below_dN BB.out nq⟩, by simp [intOf]; omega⟩
        · rfl
        · rw [Nat.or_eq_zero_iff, HI.out, xor_zero_iffH]
          refine ⟨fun h => ⟨h.1.1, fun j hj => ?_⟩, fun h => ⟨⟨h.1, fun j hj => h.2 j (by omega)⟩, h.2 k (by omega)⟩⟩
          by_cases e : j = k
          · rw [e]; exact h.2
          · exact h.1.2 j (by omega)
      · obtain rfl : k = n := by omega
        have hz : (u = 0) ↔ l = m := by
          rw [HI.out]
          refine ⟨fun h => (same_iff l m h.1).1 (by rw [← HN.out]; exact h.2), fun h => ⟨by rw [h], fun j _ => by rw [h]⟩⟩
        have hzI : ((u : Int) = 0) ↔ l = m := by rw [← hz]; omega
        by_cases he : l = m
        · have h0 : (u : Int) = 0 := hzI.2 he
          go_wp2_with fail
          go_ret
          exact ⟨by simp [he], BB.out⟩
        · have h0 : ¬ (u : Int) = 0 := fun h => he (hzI.1 h)
          have h1 : ¬ u = 0 := fun h => he (hz.1 h)
          go_wp2_with fail
          go_ret
          exact ⟨by simp [he, h1], BB.out⟩
end Go.Proofs.YtenigdbnfepkeaaDoor

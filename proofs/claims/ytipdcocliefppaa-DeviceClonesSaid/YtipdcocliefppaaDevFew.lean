/- Whether calls are few and small enough: contract. Own work. -/
import Derived.Test.YtipdcocliefppaaActsD
import Derived.BigQuiet
import Derived.BigRegion
import Derived.Deep.DeepCutAuto
namespace Go.Proofs.Ytipdcocliefppaa
open Go.ChangeShapes Go.WideShapes Go.ChangeAt Go.RowKit
namespace DM
def sumTo (l : List AD) : Nat → Nat
  | 0 => 0
  | k + 1 => sumTo l k + match l[k]? with | some x => min x.data.length 20001 | none => 0
def few (l : List AD) : Bool := decide (l.length ≤ 40) && decide (sumTo l l.length ≤ 20000)
theorem sumTo_le (l : List AD) : ∀ k, sumTo l k ≤ k * 20001
  | 0 => by simp [sumTo]
  | k + 1 => by
    have h1 := sumTo_le l k
    unfold sumTo
    split
    · rename_i x _
      have h2 := Nat.min_le_right x.data.length 20001
      rw [Nat.succ_mul]
      exact Nat.add_le_add h1 h2
    · rw [Nat.succ_mul]; exact Nat.le_trans h1 (Nat.le_add_right _ _)
theorem sumTo_mono (l : List AD) (a : Nat) : ∀ n, sumTo l a ≤ sumTo l (a + n)
  | 0 => Nat.le_refl _
  | n + 1 => by
    have h1 := sumTo_mono l a n
    rw [← Nat.add_assoc]
    conv => rhs; unfold sumTo
    exact Nat.le_trans h1 (Nat.le_add_right _ _)
theorem few_len {l : List AD} (h : few l = true) : l.length ≤ 40 := by unfold few at h; simp at h; exact h.1
theorem few_data {l : List AD} (h : few l = true) {j : Nat} {x : AD} (hx : l[j]? = some x) : x.data.length ≤ 20000 := by
  unfold few at h
  simp at h
  have hj := (List.getElem?_eq_some_iff.1 hx).1
  have h1 := sumTo_mono l (j + 1) (l.length - (j + 1))
  rw [show j + 1 + (l.length - (j + 1)) = l.length by omega] at h1
  have h2 : sumTo l (j + 1) = sumTo l j + min x.data.length 20001 := by conv => lhs; unfold sumTo
                                                                        rw [hx]
  omega
end DM
set_option maxHeartbeats 1000000 in
theorem few_any (v : Value) (l : List AD) (w : World) (h : ActsD w v l) : Calls Try.prog 8 #[v] w fun e w' => e = .returned (.bool (DM.few l)) ∧ w' = w := by
  obtain ⟨ao, cap, rfl⟩ := h.shape
  have HA := Lib.hid h
  have hfit := h.fits
  clear h
  by_cases h40 : 40 < l.length
  · have h40i : (40 : Int) < (l.length : Int) := by omega
    go_enter Try.func8, Try.ntmps8
    go_wp2_with fail
    go_ret
    exact ⟨by unfold DM.few; simp [show ¬ l.length ≤ 40 by omega], rfl⟩
  · have h40i : ¬ (40 : Int) < (l.length : Int) := by omega
    go_enter Try.func8, Try.ntmps8
    go_wp2_with fail
    go_loopw [3, 4] (fun u i wr => ∃ k : Nat, k ≤ l.length ∧ u = .int .i64 ((DM.sumTo l k : Nat) : Int) ∧ i = .int .i64 (k : Int) ∧ wr = w) (fun _ i _ => l.length - (intOf i).toNat)
    case atStart => exact ⟨0, Nat.zero_le _, rfl, rfl, rfl⟩
    case round =>
      obtain ⟨k, hk, rfl, rfl, rfl⟩ := hrel
      have hsl := DM.sumTo_le l k
      obtain ⟨s, hs⟩ : ∃ s, s = DM.sumTo l k := ⟨_, rfl⟩
      rw [← hs] at hsl ⊢
      have HS := Lib.hid hs
      clear hs
      by_cases hk2 : k < l.length
      · obtain ⟨x, hx⟩ : ∃ x, l[k]? = some x := ⟨l[k], List.getElem?_eq_getElem hk2⟩
        obtain ⟨b, off, u, rfl, _, _, _, _, c2, _, hr⟩ := HA.out.at_ k x hx
        obtain ⟨ua, uc, rfl, _⟩ := hr.shape
        have HX := Lib.hid hx
        have hf := hr.fits
        clear hx hr
        have fin : DM.sumTo l (k + 1) = s + min x.data.length 20001 := by rw [DM.sumTo, HX.out, HS.out]
        have FIN := Lib.hid fin
        clear fin
        by_cases hm : x.data.length ≤ 20001
        · have hm1 : ¬ (20001 : Int) < (x.data.length : Int) := by omega
          go_wp2_with fail
          exact ⟨⟨k + 1, by omega, by rw [FIN.out, Nat.min_eq_left hm]; go_num, by go_num, trivial⟩, by simp [intOf]; omega⟩
        · have hm1 : (20001 : Int) < (x.data.length : Int) := by omega
          go_wp2_with fail
          exact ⟨⟨k + 1, by omega, by rw [FIN.out, Nat.min_eq_right (by omega)]; go_num, by go_num, trivial⟩, by simp [intOf]; omega⟩
      · obtain rfl : k = l.length := by omega
        go_wp2_with fail
        go_ret
        exact ⟨by unfold DM.few; rw [HS.out]; simp [show l.length ≤ 40 by omega]; omega, rfl⟩
end Go.Proofs.Ytipdcocliefppaa

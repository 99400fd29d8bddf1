/- slices.Concat of slices of bytes, slices.Grow of none: contracts. Own work. -/
import Derived.Test.YtflegnlldidmaaaDoorApp0
import Derived.Deep.SlicePairs
import Derived.Deep.RegionWith
namespace Go.Proofs.YtflegnlldidmaaaDoor
open Go.ChangeShapes Go.WideShapes Go.ChangeAt Go.RowKit
/-- A slice of the call's own, cut to none. -/
theorem Own.cut0 {w : World} {base n cap : Nat} {ao : Option Addr} {l : List Nat} (h : Own w base (.slice ao n cap) l) : Own w base (.slice ao 0 cap) [] := by
  refine ⟨⟨rfl, ?_⟩, fun k => by rw [gb_nil]; decide, by decide⟩
  rcases h.1.2 with ⟨e, _⟩ | ⟨g, c, cur, e, hg, hh, hc, hm, hs, ht⟩
  · injection e with e1 _ e3
    subst e1; subst e3
    exact .inl ⟨rfl, rfl⟩
  · injection e with e1 _ e3
    subst e1; subst e3
    exact .inr ⟨g, _, cur, rfl, hg, hh, Nat.zero_le _, hm, hs, by simp [row8]⟩
set_option maxHeartbeats 400000 in
theorem grow_any (n : Nat) (hn : n ≤ 140737488355328) (w : World) : Calls Tryd.prog 32 #[.slice none 0 0, .int .i64 (n : Int)] w fun e w' => ∃ v, e = .returned v ∧ Own w' w.heap.size v [] ∧ Below w.heap.size w w' := by
  have hn0 : ¬ (n : Int) < 0 := by omega
  have aw : IntKind.i64.wrap (n : Int) = (n : Int) := by rw [IntKind.wrap_i64]; omega
  have O0 := Lib.hid (own_nil w)
  by_cases h0 : 0 < n
  · have h0' : (0 : Int) < (n : Int) := by omega
    go_enter Tryd.func32, Tryd.ntmps32
    go_wp2_with (refine wpList_app0 rfl (.tmp 20) (.tmp 21) rfl w.heap.size (.slice none 0 0) [] n rfl rfl O0.out (by simp; omega) (Nat.le_refl _) ?_; intro v1 w1 o1 g1 k1; rw [List.nil_append] at o1; obtain ⟨ao, cap, rfl, hcap⟩ := o1.rd.shape; obtain ⟨b, rfl⟩ := own_at o1 (by rw [List.length_replicate]; exact h0); rw [List.length_replicate] at o1 hcap ⊢; have O1 := Lib.hid o1.cut0; have W1 := Lib.hid (below_of_grown g1); clear o1 g1 k1)
    go_ret
    exact ⟨_, rfl, O1.out, W1.out⟩
  · obtain rfl : n = 0 := by omega
    go_enter Tryd.func32, Tryd.ntmps32
    go_wp2_with fail
    go_ret
    exact ⟨_, rfl, O0.out, Below.refl _ _⟩
theorem flat_take_lt (ls : List (List Nat)) (k : Nat) (hk : k < ls.length) : (ls.take k).flatten.length + ls[k].length ≤ ls.flatten.length := by
  rw [← List.length_append, flat_take ls k hk]; exact flat_le ls _
set_option maxRecDepth 100000 in
set_option maxHeartbeats 1000000 in
/-- Slices of bytes, one behind the other. -/
theorem concat_any (ls : List (List Nat)) (hn : ls.flatten.length ≤ 140737488355328) (v : Value) (w : World) (hv : Rds w v ls) :
    Calls Tryd.prog 17 #[v] w fun e w' => ∃ v', e = .returned v' ∧ Own w' w.heap.size v' ls.flatten ∧ Below w.heap.size w w' := by
  obtain ⟨ao, cap, rfl, hcap⟩ := hv.shape
  have HV := Lib.hid hv
  have HFI := hv.fits
  have HTL := Lib.hid (flat_take_lt ls)
  obtain ⟨T, hT⟩ : ∃ T, T = ls.flatten.length := ⟨_, rfl⟩
  rw [← hT] at HTL hn
  have HT := Lib.hid hT
  clear hv hT
  go_enter Tryd.func17, Tryd.ntmps17
  go_wp2_with fail
  go_loopw [3, 11] (fun s i wr => ∃ k : Nat, k ≤ ls.length ∧ i = .int .i64 (k : Int) ∧ s = .int .i64 ((ls.take k).flatten.length : Nat) ∧ Below w.heap.size w wr) (fun _ i _ => ls.length - (intOf i).toNat)
  case atStart => exact ⟨0, Nat.zero_le _, rfl, rfl, Below.refl _ _⟩
  case round =>
    obtain ⟨k, hk, rfl, rfl, b0⟩ := hrel
    by_cases hlt : k < ls.length
    · obtain ⟨ad, x, rfl, hc, hr⟩ := (HV.out.below b0).at_ k hlt
      obtain ⟨xa, xc, rfl, _⟩ := hr.shape
      have hle := HTL.out k hlt
      obtain ⟨A, hA⟩ : ∃ A, A = (ls.take k).flatten.length := ⟨_, rfl⟩
      obtain ⟨m, hm⟩ : ∃ m, m = ls[k].length := ⟨_, rfl⟩
      rw [← hA, ← hm] at hle
      rw [← hm] at hc hr
      rw [← hA]
      have HA := Lib.hid (show A + m = (ls.take (k + 1)).flatten.length by rw [← flat_take ls k hlt, List.length_append, hA, hm])
      have aw : IntKind.i64.wrap ((A : Int) + (m : Int)) = ((A + m : Nat) : Int) := by rw [IntKind.wrap_i64]; omega
      have hs0 : ¬ ((A + m : Nat) : Int) < 0 := by omega
      have B0 := Lib.hid b0
      clear hA hm hr b0
      go_wp2_with fail
      exact ⟨⟨k + 1, by omega, by go_num, by rw [← HA.out, Int.natCast_add], B0.out⟩, by simp [intOf]; omega⟩
    · obtain rfl : k = ls.length := by omega
      have HS := Lib.hid (show ((ls.take ls.length).flatten.length : Nat) = T by rw [List.take_length, HT.out])
      rw [HS.out]
      have B0 := Lib.hid b0
      have HG := Lib.hid (fun W => grow_any T hn W)
      clear b0
      go_wp2_with (go_at_call 32; (with_reducible refine (HG.out _).mono ?_); rintro e w2 ⟨v2, rfl, o2, b2⟩; have W2 := Lib.hid (B0.out.on b2); have O2 := Lib.hid (o2.lower B0.out.size); clear o2 b2)
      go_loopw [6, 27] (fun s i wr => ∃ k : Nat, k ≤ ls.length ∧ i = .int .i64 (k : Int) ∧ Own wr w.heap.size s (ls.take k).flatten ∧ Below w.heap.size w wr) (fun _ i _ => ls.length - (intOf i).toNat)
      case atStart => exact ⟨0, Nat.zero_le _, rfl, O2.out, W2.out⟩
      case round =>
        clear O2 W2
        obtain ⟨k, hk, rfl, ho, b1⟩ := hrel
        have O := Lib.hid ho
        have B1 := Lib.hid b1
        by_cases hlt : k < ls.length
        · obtain ⟨ad, x, rfl, hc, hr⟩ := (HV.out.below b1).at_ k hlt
          have R := Lib.hid hr
          have hle := Lib.hid (show (ls.take k).flatten.length + ls[k].length ≤ 140737488355328 from Nat.le_trans (HTL.out k hlt) hn)
          have hfl := Lib.hid (flat_take ls k hlt)
          clear hr ho b1
          go_wp2_with (refine wpList_app rfl (.tmp 31) (.tmp 32) rfl w.heap.size _ _ (ls.take k).flatten ls[k] rfl rfl O.out R.out hle.out B1.out.size ?_; intro v3 w3 o3 g3 k3; rw [hfl.out] at o3; have O3 := Lib.hid o3; have W3 := Lib.hid (B1.out.grown g3 B1.out.size (fun g hg => (O.out.from g hg).1)); clear o3 g3 k3)
          exact ⟨⟨k + 1, by omega, by go_num, O3.out, W3.out⟩, by simp [intOf]; omega⟩
        · obtain rfl : k = ls.length := by omega
          clear ho b1
          go_wp2_with fail
          go_ret
          exact ⟨_, rfl, by have h := O.out; rw [List.take_length] at h; exact h, B1.out⟩
end Go.Proofs.YtflegnlldidmaaaDoor

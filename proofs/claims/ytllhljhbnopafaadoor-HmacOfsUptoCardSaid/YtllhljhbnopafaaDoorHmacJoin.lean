/- Parts joined, one behind the other: contract. Own work. -/
import Derived.Test.YtllhljhbnopafaaDoorHmacOf
namespace Go.Proofs.YtllhljhbnopafaaDoor
open Go.ChangeShapes Go.WideShapes Go.ChangeAt Go.RowKit
open SM
set_option maxHeartbeats 1000000 in
theorem hjoined_any (ls : List (List Nat)) (hn : ls.flatten.length ≤ 1048576) (v : Value) (w : World) (hv : Rds w v ls) :
    Calls Tryd.prog 9 #[v] w fun e w' => ∃ v', e = .returned v' ∧ Own w' w.heap.size v' ls.flatten ∧ Below w.heap.size w w' := by
  obtain ⟨ao, cap, rfl, hcap⟩ := hv.shape
  have HV := Lib.hid hv
  have HFI := hv.fits
  clear hv
  go_enter Tryd.func9, Tryd.ntmps9
  go_wp2_with fail
  go_loopw [3, 4] (fun x i wr => ∃ k : Nat, k ≤ ls.length ∧ i = .int .i64 (k : Int) ∧ Own wr w.heap.size x (ls.take k).flatten ∧ Below w.heap.size w wr) (fun _ i _ => ls.length - (intOf i).toNat)
  case atStart => exact ⟨0, Nat.zero_le _, rfl, own_nil w, Below.refl _ _⟩
  case round =>
    obtain ⟨k, hk, rfl, ho, bb⟩ := hrel
    by_cases hlt : k < ls.length
    · obtain ⟨ad, x, rfl, hc, hr⟩ := (HV.out.below bb).at_ k hlt
      have hle : (ls.take k).flatten.length + ls[k].length ≤ 140737488351232 := by
        have h1 := congrArg List.length (flat_take ls k hlt)
        rw [List.length_append] at h1
        have := flat_le ls (k + 1)
        omega
      have HO := Lib.hid ho
      have BB := Lib.hid bb
      have HR := Lib.hid hr
      have HLE := Lib.hid hle
      have HFT := Lib.hid (flat_take ls k hlt)
      clear ho bb hr hle
      go_wp2_with (at_builtin; refine wpList_app rfl (.tmp 11) (.tmp 15) rfl w.heap.size _ x _ ls[k] rfl rfl HO.out HR.out HLE.out BB.out.size ?_; intro v2 w2 ho2 hg2 hk2; rw [HFT.out] at ho2; have O2 := Lib.hid ho2; have B2 := Lib.hid (BB.out.grown hg2 BB.out.size (fun k hk => (HO.out.from k hk).1)); clear ho2 hg2 hk2)
      exact ⟨⟨k + 1, by omega, by go_num, O2.out, B2.out⟩, by simp [intOf]; omega⟩
    · obtain rfl : k = ls.length := by omega
      rw [List.take_length] at ho
      go_wp2_with fail
      go_ret
      exact ⟨_, rfl, ho, bb⟩
end Go.Proofs.YtllhljhbnopafaaDoor

/- Is a node empty: contract of the document's answer. Work ahead for stage 15. Own work. -/
import Derived.Test.YtoacdeddkfcllaaDoorNdM
import Derived.Test.YtoacdeddkfcllaaDoorReg
namespace Go.Proofs.YtoacdeddkfcllaaDoor
open Go.ChangeShapes Go.WideShapes Go.ChangeAt Go.RowKit
open RT
set_option maxRecDepth 100000 in
set_option maxHeartbeats 1000000 in
theorem nrempty_any (ns : List Pg) (hn : ND.Nok ns) (w : World) : Calls Tryd.prog 11 #[.agg (pcs ns).toArray] w fun e w' => e = .returned (.bool (ND.empty ns)) ∧ Below w.heap.size w w' := by
  obtain ⟨L, hL⟩ : ∃ L, L = pcs ns := ⟨_, rfl⟩
  obtain ⟨R, hR⟩ : ∃ R, R = ND.empty ns := ⟨_, rfl⟩
  have W1 := Lib.hid ((Below.refl w.heap.size w).alloc (Nat.le_refl _) (.cells L.toArray 28))
  have X1 := Lib.hid (Blk.new w 28 L _ rfl)
  have HLC := Lib.hid (fun k (hk : k < ns.length) => (show L[k * 33]? = some (.int .u32 (ns[k].at_ : Int)) by rw [hL]; exact ND.pcs_at hn.ok hk))
  have H8 := Lib.hid hn.len
  have HM := Lib.hid (ND.empty_iff (ns := ns))
  rw [← hR] at HM
  rw [← hL, ← hR]
  clear hL hR hn
  go_enter Tryd.func11, Tryd.ntmps11
  go_wp2_with fail
  go_loop [3] (fun i => ∃ k : Nat, k ≤ 8 ∧ i = .int .i64 (k : Int) ∧ ∀ j (hj : j < ns.length), j < k → ns[j].at_ = 0) (fun i => 8 - (intOf i).toNat)
  case atStart => exact ⟨0, by decide, rfl, fun j _ h => absurd h (Nat.not_lt_zero j)⟩
  case round =>
    obtain ⟨k, hk, rfl, hz⟩ := hrel
    have HZ := Lib.hid hz
    clear hz
    by_cases hlt : k < 8
    · have hkp : k < ns.length := by rw [H8.out]; exact hlt
      have ck := X1.out.cell (k * 33) _ (HLC.out k hkp)
      obtain ⟨x, hx⟩ : ∃ x, x = ns[k].at_ := ⟨_, rfl⟩
      rw [← hx] at ck
      have HX := Lib.hid hx
      have hklt : (k : Int) < 8 := by omega
      have hk0 : (0 : Int) ≤ (k : Int) := by omega
      have hkt : ((k : Int)).toNat = k := Int.toNat_natCast k
      clear hx HLC
      by_cases hx0 : x = 0
      · subst hx0
        clear HM
        go_wp2_with fail
        exact ⟨⟨k + 1, by omega, by go_num, fun j hj hjk => by
          rcases Nat.lt_or_ge j k with q | q
          · exact HZ.out j hj q
          · obtain rfl : j = k := by omega
            exact HX.out.symm⟩, by simp [intOf]; omega⟩
      · have hf : R = false := by
          cases R with
          | false => rfl
          | true => exact absurd (HM.out.1 rfl ns[k] (List.getElem_mem hkp)) (by rw [← HX.out]; exact hx0)
        have hxe : ((x : Int) == 0) = false := by simpa using hx0
        subst hf
        clear HM
        go_wp2_with fail
        go_ret
        exact ⟨rfl, W1.out⟩
    · obtain rfl : k = 8 := by omega
      have ht : R = true := HM.out.2 fun p hp => by
        obtain ⟨i, hi, rfl⟩ := List.getElem_of_mem hp
        exact HZ.out i hi (by have := H8.out; omega)
      subst ht
      clear HM HLC
      go_wp2_with fail
      go_ret
      exact ⟨rfl, W1.out⟩
end Go.Proofs.YtoacdeddkfcllaaDoor

/- bytes.Equal: contract. Own work. -/
import Derived.Test.YtflegnlldidmaaaDoorMem
namespace Go.Proofs.YtflegnlldidmaaaDoor
open Go.ChangeShapes Go.WideShapes Go.ChangeAt Go.RowKit
theorem str_beq (S M : ByteArray) : (S.toList == M.toList) = decide (S = M) := by
  rw [ByteArray.toList_eq, ByteArray.toList_eq, Bool.eq_iff_iff, beq_iff_eq, decide_eq_true_iff]
  refine ⟨fun e => ?_, fun e => by rw [e]⟩
  cases S; cases M; congr 1; exact Array.toList_inj.1 e
theorem pequal_any (u v : Value) (l m : List Nat) (w : World) (hu : Rd w u l) (hv : Rd w v m) : Calls Tryd.prog 28 #[u, v] w fun e w' => e = .returned (.bool (decide (l = m))) ∧ w' = w := by
  obtain ⟨ua, uc, rfl, _⟩ := hu.shape
  obtain ⟨va, vc, rfl, _⟩ := hv.shape
  have cu := hu.str
  have cv := hv.str
  have hd : decide (bstr l = bstr m) = decide (l = m) := decide_eq_decide.2 (bstr_iff hu.byte hv.byte)
  have hb := str_beq (bstr l) (bstr m)
  rw [hd] at hb
  obtain ⟨S, hS⟩ : ∃ S, S = bstr l := ⟨_, rfl⟩
  obtain ⟨M, hM⟩ : ∃ S, S = bstr m := ⟨_, rfl⟩
  obtain ⟨R, hR⟩ : ∃ R, R = decide (l = m) := ⟨_, rfl⟩
  obtain ⟨ln, hln⟩ : ∃ n, n = l.length := ⟨_, rfl⟩
  obtain ⟨mn, hmn⟩ : ∃ n, n = m.length := ⟨_, rfl⟩
  rw [← hS, ← hM, ← hR] at hb
  have HB := Lib.hid hb
  rw [← hS, ← hln] at cu
  rw [← hM, ← hmn] at cv
  rw [← hR, ← hln, ← hmn]
  clear hu hv hd hS hM hR hln hmn hb
  go_enter Tryd.func28, Tryd.ntmps28
  go_wp2_with fail
  go_ret
  exact ⟨by rw [← HB.out]; rfl, rfl⟩
end Go.Proofs.YtflegnlldidmaaaDoor

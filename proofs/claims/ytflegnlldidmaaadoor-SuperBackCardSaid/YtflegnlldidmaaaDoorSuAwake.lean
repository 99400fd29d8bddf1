/- The closed case of super's statements: contract. Own work. -/
import Derived.Test.YtflegnlldidmaaaDoorSuPut
import Derived.Test.YtflegnlldidmaaaDoorSuB
import Derived.Test.YtflegnlldidmaaaDoorWpOne
import Derived.Test.YtflegnlldidmaaaDoorMem
namespace Go.Proofs.YtflegnlldidmaaaDoor
open Go.ChangeShapes Go.WideShapes Go.ChangeAt Go.RowKit
open SU
theorem laid_head : (laid 64 1).take 13 = [82, 69, 76, 73, 81, 85, 65, 82, 89, 1, 0, 64, 1] := by
  unfold laid padTo
  rw [List.take_left' (raw_len 64 1)]; rfl
set_option maxHeartbeats 1000000 in
theorem suawake_any (w : World) : Calls Tryd.prog 10 #[] w fun e w' => e = .returned (.bool true) ∧ Below w.heap.size w w' := by
  have HP := Lib.hid (fun W => suput_any 64 1 W)
  rw [show put 64 1 = laid 64 1 from (put_yes (c := 64) (p := 1) (by decide)).1, show perr 64 1 = 0 from (put_yes (c := 64) (p := 1) (by decide)).2] at HP
  have HL := Lib.hid (fun W => (show Calls Tryd.prog 14 #[.agg #[.int .i64 1, .int .i64 2], .int .u32 1] W fun e w' => e = .returned (.int .i64 5120) ∧ Below W.heap.size W w' from suplace_any 1 2 1 (by decide) W))
  obtain ⟨S, hS⟩ : ∃ S : ByteArray, S = bstr [82, 69, 76, 73, 81, 85, 65, 82, 89, 1, 0, 64, 1] := ⟨_, rfl⟩
  have HS := Lib.hid hS
  have hs : S = ⟨#[82, 69, 76, 73, 81, 85, 65, 82, 89, 1, 0, 64, 1]⟩ := by rw [hS]; rfl
  have HE := Lib.hid (fun W => (show (binOp .eql 9 (.string S) (.string ⟨#[82, 69, 76, 73, 81, 85, 65, 82, 89, 1, 0, 64, 1]⟩)).run Tryd.prog W = .ok (.bool true) W by rw [run_eql_str, hs]; simp))
  clear hS hs
  go_enter Tryd.func10, Tryd.ntmps10
  go_wp2_with (first
    | (go_at_call 6; (with_reducible refine (HP.out _).mono ?_); rintro e w2 ⟨v, rfl, o2, b2⟩; have W2 := Lib.hid b2; obtain ⟨oa, oc, rfl, hoc⟩ := o2.rd.shape; rw [laid_len] at o2 hoc ⊢; have R2 := Lib.hid (o2.rd.take 13 (by rw [laid_len]; decide)); rw [laid_head] at R2; clear o2 b2)
    | (refine wpList_wanted rfl (.string S) (ex_convert (x := .tmp 13) rfl rfl (by rw [HS.out]; exact R2.out.str)) ?_)
    | (refine wpList_wanted rfl (.bool true) (ex_binOp (x := .tmp 14) (b := .eql) (t := 9) rfl rfl rfl (by go_simp) (HE.out _)) ?_)
    | (go_at_call 14; (with_reducible refine (HL.out _).mono ?_); rintro e w3 ⟨rfl, b3⟩; have W3 := Lib.hid (W2.out.on b3); clear b3))
  go_ret
  exact ⟨rfl, W3.out⟩
end Go.Proofs.YtflegnlldidmaaaDoor

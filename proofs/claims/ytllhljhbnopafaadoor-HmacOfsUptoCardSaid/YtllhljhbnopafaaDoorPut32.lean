/- A number of four bytes laid by package octet: contract. Own work. -/
import Derived.Test.YtllhljhbnopafaaDoorLay
namespace Go.Proofs.YtllhljhbnopafaaDoor
open Go.RowKit
theorem put32_any (n : Nat) (hn : n < 4294967296) (w : World) : Calls Tryd.prog 30 #[.int .u32 n] w fun e w' => ∃ v, e = .returned v ∧ Own w' w.heap.size v (be n 4) ∧ Below w.heap.size w w' := by
  go_enter Tryd.func30, Tryd.ntmps30
  go_wp2_with (go_at_call 35; refine (lay_any n 4 (by omega) (by omega) _).mono ?_; rintro e w1 ⟨v1, rfl, h1, h2⟩; have H1 := Lib.hid h1; have H2 := Lib.hid h2; clear h1 h2)
  go_ret
  exact ⟨_, rfl, H1.out, H2.out⟩
end Go.Proofs.YtllhljhbnopafaaDoor

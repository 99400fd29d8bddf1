/- Numbers laid in bytes, by package octet: contracts. Own work. -/
import Derived.Test.YtflegnlldidmaaaDoorOct
namespace Go.Proofs.YtflegnlldidmaaaDoor
open Go.RowKit
theorem put16_any (n : Nat) (hn : n < 65536) (w : World) : Calls Tryd.prog 18 #[.int .u16 n] w fun e w' => ∃ v, e = .returned v ∧ Own w' w.heap.size v (be n 2) ∧ Below w.heap.size w w' := by
  go_enter Tryd.func18, Tryd.ntmps18
  go_wp2_with (go_at_call 33; refine (lay_any n 2 (by omega) (by omega) _).mono ?_; rintro e w1 ⟨v1, rfl, h1, h2⟩; have H1 := Lib.hid h1; have H2 := Lib.hid h2; clear h1 h2)
  go_ret
  exact ⟨_, rfl, H1.out, H2.out⟩
/-- bytes.Clone. -/
theorem clone_any (v : Value) (l : List Nat) (w : World) (h : Rd w v l) : Calls Tryd.prog 38 #[v] w fun e w' => ∃ v', e = .returned v' ∧ Own w' w.heap.size v' l ∧ Below w.heap.size w w' := by
  rcases h.form with ⟨rfl, rfl⟩ | ⟨ad, cap, rfl, hc, hs⟩
  · have hq := fun w => Lib.run_eql_slice_nil (P := Tryd.prog) w 24 5 none 0 0 0 0 Tryd.underlying24
    go_enter Tryd.func38, Tryd.ntmps38
    go_wp2_with fail
    go_ret
    exact ⟨_, rfl, own_nil w, Below.refl _ _⟩
  · have hq := fun w => Lib.run_eql_slice_nil (P := Tryd.prog) w 24 5 (some ad) l.length cap 0 0 Tryd.underlying24
    have H := Lib.hid h
    clear h hs
    go_enter Tryd.func38, Tryd.ntmps38
    go_wp2_with (at_builtin; refine wpList_app rfl (.tmp 5) (.tmp 6) rfl w.heap.size _ _ [] l rfl rfl (own_empty w rfl (Nat.le_refl _)) (H.out.alloc _) (by have := H.out.fits; simpa using this) (by simp) ?_; intro v1 w1 ho1 hg1 hk1; have HO1 := Lib.hid ho1; have HG1 := Lib.hid hg1; clear ho1 hg1 hk1)
    go_ret
    exact ⟨_, rfl, HO1.out, ((Below.refl _ _).alloc (Nat.le_refl _) _).grown HG1.out (by simp) (fun k hk => ((own_empty w rfl (Nat.le_refl _)).from k hk).1)⟩
end Go.Proofs.YtflegnlldidmaaaDoor

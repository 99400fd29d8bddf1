/- A source forked: contract. Own work. -/
import Derived.Test.YtdiljngokbfpcaaDoorEntSrc
import Derived.Test.YtdiljngokbfpcaaDoorShaD
namespace Go.Proofs.YtdiljngokbfpcaaDoor
open Go.ChangeShapes Go.WideShapes Go.ChangeAt Go.RowKit
open SM
set_option maxRecDepth 100000 in
set_option maxHeartbeats 1000000 in
theorem psfork_any (w : World) (x g : Nat) (S : List Nat) (t : Nat) (h : Sc w x g S t) : Calls Tryd.prog 12 #[.pointer (some ⟨x, 0, none⟩)] w fun e w' =>
    ∃ y f, w.heap.size ≤ y ∧ w.heap.size ≤ f ∧ e = .returned (.pointer (some ⟨y, 0, none⟩)) ∧ Sc w' y f S t ∧ Below w.heap.size w w' := by
  have HS := Lib.hid h
  clear h
  go_enter Tryd.func12, Tryd.ntmps12
  go_upto_region 3 with (fail)
  refine wp_region_g (by kernel_rfl) 9 (by decide) (by kernel_rfl) (by kernel_rfl) (by kernel_rfl) w.heap.size (Nat.le_refl _) [.val (.pointer (some ⟨x, 0, none⟩)), .val (.pointer (some ⟨x, 0, none⟩)), .val (.pointer (some ⟨x, 0, none⟩)), .val (.pointer (some ⟨g, 0, none⟩)), .hash (S ++ EM.use), .val (.pointer (some ⟨x, 0, none⟩)), .val (.pointer (some ⟨x, 0, none⟩)), .val (.pointer (some ⟨x, 1, none⟩)), .val (.int .i64 (t : Int))] (fun _ => 12) ?_ ?_
  · refine ⟨?_, ?_, ?_, ?_, ?_, ?_, ?_, ?_, ?_, trivial⟩
    · intro a w' hF hB hd
      have e0 : a.eval (.tmp 0) = .pointer (some ⟨x, 0, none⟩) := hF 0 (by decide +kernel)
      exact doesG_val rfl (ex_move rfl e0) rfl rfl
    · intro a w' hF hB hd
      have e5 : a.eval (.tmp 5) = .pointer (some ⟨x, 0, none⟩) := hd 0 (by decide +kernel) (.inr (by decide))
      exact doesG_val (v := .pointer (some ⟨x, 0, none⟩)) rfl (by unfold execOp; simp only [e5]; go_simp) rfl rfl
    · intro a w' hF hB hd
      have e6 : a.eval (.tmp 6) = .pointer (some ⟨x, 0, none⟩) := hd 1 (by decide +kernel) (.inr (by decide))
      exact doesG_val (v := .pointer (some ⟨x, 0, none⟩)) rfl (by unfold execOp; simp only [e6]; go_simp) rfl rfl
    · intro a w' hF hB hd
      have e7 : a.eval (.tmp 7) = .pointer (some ⟨x, 0, none⟩) := hd 2 (by decide +kernel) (.inr (by decide))
      have c0 := (HS.out.blk.below hB HS.out.blk.lt).cell 0 _ rfl
      exact doesG_val (v := .pointer (some ⟨g, 0, none⟩)) rfl (by unfold execOp; simp only [e7]; go_simp) rfl rfl
    · intro a w' hF hB hd
      have e8 : a.eval (.tmp 8) = .pointer (some ⟨g, 0, none⟩) := hd 3 (by decide +kernel) (.inr (by decide))
      exact doesG_made rfl (ex_call (vs := #[.pointer (some ⟨g, 0, none⟩)]) rfl (by simp only [List.map_toArray, List.map_cons, List.map_nil, e8]) (by go_simp)) ((fork_ex g _ w' (HS.out.inn.below hB HS.out.inn.lt)).mono fun e w4 hh => by
        obtain ⟨f, q1, rfl, q3, q4⟩ := hh
        exact ⟨_, rfl, ⟨f, rfl, by have := hB.size; omega, q3⟩, q4, fun k hk => by have : f = k := Option.some.inj hk; have := q3.lt; omega⟩)
    · intro a w' hF hB hd
      have e0 : a.eval (.tmp 0) = .pointer (some ⟨x, 0, none⟩) := hF 0 (by decide +kernel)
      exact doesG_val rfl (ex_move rfl e0) rfl rfl
    · intro a w' hF hB hd
      have e10 : a.eval (.tmp 10) = .pointer (some ⟨x, 0, none⟩) := hd 5 (by decide +kernel) (.inr (by decide))
      exact doesG_val (v := .pointer (some ⟨x, 0, none⟩)) rfl (by unfold execOp; simp only [e10]; go_simp) rfl rfl
    · intro a w' hF hB hd
      have e11 : a.eval (.tmp 11) = .pointer (some ⟨x, 0, none⟩) := hd 6 (by decide +kernel) (.inr (by decide))
      exact doesG_val (v := .pointer (some ⟨x, 1, none⟩)) rfl (by unfold execOp; simp only [e11]; go_simp) rfl rfl
    · intro a w' hF hB hd
      have e12 : a.eval (.tmp 12) = .pointer (some ⟨x, 1, none⟩) := hd 7 (by decide +kernel) (.inr (by decide))
      have c1 := (HS.out.blk.below hB HS.out.blk.lt).cell 1 _ rfl
      exact doesG_val (v := .int .i64 (t : Int)) rfl (by unfold execOp; simp only [e12]; go_simp) rfl rfl
  · intro vs w4 hB hv hap
    obtain ⟨f, e4, hb4, hs4⟩ : ∃ h, vs 4 = .pointer (some ⟨h, 0, none⟩) ∧ w.heap.size ≤ h ∧ Hs w4 h (S ++ EM.use) := hv 4 (by omega) (by omega)
    have e8 : vs 8 = .int .i64 (t : Int) := hv 8 (by omega) (by omega)
    simp only [List.take_succ_cons, List.take_zero, List.drop_succ_cons, List.drop_zero, putOps, Act.put, List.setIfInBounds_toArray, List.set_cons_zero, List.set_cons_succ, e4, e8]
    have h4 := hs4.lt
    have HS4 := Lib.hid hs4
    have B4 := Lib.hid hB
    clear hv hap hs4 hB e4 e8
    go_wp2_with fail
    go_ret
    exact ⟨w4.heap.size, f, B4.out.size, hb4, rfl, ⟨Blk.new w4 47 [.pointer (some ⟨f, 0, none⟩), .int .i64 (t : Int)] _ rfl, HS4.out.alloc _, by omega⟩, B4.out.alloc B4.out.size _⟩
end Go.Proofs.YtdiljngokbfpcaaDoor

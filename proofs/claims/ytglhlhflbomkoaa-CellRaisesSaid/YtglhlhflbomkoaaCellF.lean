/- A cell forked: contract. Own work. -/
import Derived.Test.YtglhlhflbomkoaaCellP
import Derived.Test.YtglhlhflbomkoaaFactsO
namespace Go.Proofs.Ytglhlhflbomkoaa
open Go.ChangeShapes Go.WideShapes Go.ChangeAt Go.RowKit
theorem aload_any (b n r : Nat) (w : World) (h : Ce w b n r) : Calls Try.prog 14 #[.pointer (some ⟨b, 1, none⟩)] w fun e w' => e = .returned (.int .i64 (r : Int)) ∧ w' = w := by
  have hl := run_call_load (P := Try.prog) Try.func17 (by kernel_rfl) (by kernel_rfl) (by kernel_rfl) .i64 (by kernel_rfl) h.raised
  go_enter Try.func14, Try.ntmps14
  go_wp2_with fail
  go_ret
  exact ⟨rfl, rfl⟩
theorem astore_any (b n r s : Nat) (w : World) (h : Ce w b n r) : Calls Try.prog 15 #[.pointer (some ⟨b, 1, none⟩), .int .i64 (s : Int)] w fun e w' => e = .returned (.tuple #[]) ∧ Ce w' b n s ∧ w.grownBy w' (some b) := by
  have hs := run_call_store (P := Try.prog) Try.func18 (by kernel_rfl) (by kernel_rfl) (by kernel_rfl) (by kernel_rfl) (k := .i64) (y := (s : Int)) h.raised (Blk.free h 1)
  go_enter Try.func15, Try.ntmps15
  go_wp2_with fail
  go_end0
  refine ⟨rfl, Blk.set h 1 _, ?_⟩
  exact ⟨rfl, rfl, rfl, by simp, fun k hk hne => by rw [Below.heap_setCell _ _ _ k (fun e => hne (by rw [e]))]⟩
theorem cfork_nil (w : World) : Calls Try.prog 12 #[.pointer none] w fun e w' => e = .returned (.pointer none) ∧ w' = w := by
  go_enter Try.func12, Try.ntmps12
  go_wp2_with fail
  go_ret
  exact ⟨rfl, rfl⟩
set_option maxHeartbeats 1000000 in
theorem cfork_any (b n r : Nat) (w : World) (h : Ce w b n r) : Calls Try.prog 12 #[.pointer (some ⟨b, 0, none⟩)] w fun e w' => ∃ g, w.heap.size ≤ g ∧ e = .returned (.pointer (some ⟨g, 0, none⟩)) ∧ Ce w' g n r ∧ Below w.heap.size w w' := by
  have c0 := h.value
  have HC := Lib.hid h
  clear h
  go_enter Try.func12, Try.ntmps12
  go_upto_region 4 with (go_at_call 6; refine (cnew_ex n w).mono ?_; rintro e w2 ⟨g, hg, rfl, h2, b2⟩; have HG := Lib.hid hg; have G2 := Lib.hid h2; have H2 := Lib.hid (HC.out.below b2); have B2 := Lib.hid b2; clear hg h2 b2)
  refine wp_region_g (by kernel_rfl) 7 (by decide) (by kernel_rfl) (by kernel_rfl) (by kernel_rfl) (w2.heap.size) (Nat.le_refl _) [.val (.pointer (some ⟨g, 0, none⟩)), .val (.pointer (some ⟨g, 0, none⟩)), .val (.pointer (some ⟨g, 1, none⟩)), .val (.pointer (some ⟨b, 0, none⟩)), .val (.pointer (some ⟨b, 0, none⟩)), .val (.pointer (some ⟨b, 1, none⟩)), .val (.int .i64 (r : Int))] (fun _ => 8) ?_ ?_
  · refine ⟨?_, ?_, ?_, ?_, ?_, ?_, ?_, trivial⟩
    · intro a w' hF hB hd
      have e3 : a.eval (.tmp 3) = .pointer (some ⟨g, 0, none⟩) := hF 3 (by decide +kernel)
      exact doesG_val rfl (ex_move rfl e3) rfl rfl
    · intro a w' hF hB hd
      have e11 : a.eval (.tmp 11) = .pointer (some ⟨g, 0, none⟩) := hd 0 (by decide +kernel) (.inr (by decide))
      exact doesG_val rfl (ex_nilCheck rfl e11) rfl rfl
    · intro a w' hF hB hd
      have e12 : a.eval (.tmp 12) = .pointer (some ⟨g, 0, none⟩) := hd 1 (by decide +kernel) (.inr (by decide))
      exact doesG_val rfl (ex_fieldAddr rfl e12 (by go_simp)) rfl rfl
    · intro a w' hF hB hd
      have e0 : a.eval (.tmp 0) = .pointer (some ⟨b, 0, none⟩) := hF 0 (by decide +kernel)
      exact doesG_val rfl (ex_move rfl e0) rfl rfl
    · intro a w' hF hB hd
      have e14 : a.eval (.tmp 14) = .pointer (some ⟨b, 0, none⟩) := hd 3 (by decide +kernel) (.inr (by decide))
      exact doesG_val rfl (ex_nilCheck rfl e14) rfl rfl
    · intro a w' hF hB hd
      have e15 : a.eval (.tmp 15) = .pointer (some ⟨b, 0, none⟩) := hd 4 (by decide +kernel) (.inr (by decide))
      exact doesG_val rfl (ex_fieldAddr rfl e15 (by go_simp)) rfl rfl
    · intro a w' hF hB hd
      have e16 : a.eval (.tmp 16) = .pointer (some ⟨b, 1, none⟩) := hd 5 (by decide +kernel) (.inr (by decide))
      exact doesG_call rfl (ex_call (vs := #[.pointer (some ⟨b, 1, none⟩)]) rfl (by simp only [List.map_toArray, List.map_cons, List.map_nil, e16]) (by go_simp)) rfl ((aload_any b n r w' (H2.out.below hB)).mono fun e w3 hh => ⟨_, hh.1, rfl, by rw [hh.2]; exact Below.refl _ _⟩)
  intro vs w3 b3 hd _
  have G3 := Lib.hid (G2.out.below b3)
  have B3 := Lib.hid (B2.out.on b3)
  have e13 : vs 2 = .pointer (some ⟨g, 1, none⟩) := hd 2 (by decide) (by decide)
  have e17 : vs 6 = .int .i64 (r : Int) := hd 6 (by decide) (by decide)
  simp only [putOps, e13, e17, List.take, List.drop]
  have HS := Lib.hid (astore_any g n 0 r w3 G3.out)
  clear b3 hd
  go_wp2_with (go_at_call 15; (with_reducible refine HS.out.mono ?_); rintro e w4 ⟨rfl, h4, g4⟩; have G4 := Lib.hid h4; have B4 := Lib.hid (B3.out.grown g4 B3.out.size (fun k hk => by have : g = k := Option.some.inj hk; have := HG.out; omega)); clear h4 g4)
  go_ret
  exact ⟨g, HG.out, rfl, G4.out, B4.out⟩
end Go.Proofs.Ytglhlhflbomkoaa

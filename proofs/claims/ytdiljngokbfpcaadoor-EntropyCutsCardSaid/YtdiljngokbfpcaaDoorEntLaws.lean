/- What the laws over sources share; their closed case: contract. Own work. -/
import Derived.Test.YtdiljngokbfpcaaDoorEntDraw
import Derived.Test.YtdiljngokbfpcaaDoorEntFork
namespace Go.Proofs.YtdiljngokbfpcaaDoor
open Go.ChangeShapes Go.WideShapes Go.ChangeAt Go.RowKit
open SM
/-- A draw of a source that the call made: all that lay ahead of it is as it was. -/
theorem pdraw_own {a w : World} {x g : Nat} {S : List Nat} {t : Nat} (n : Nat) (hn : n ≤ 1024) (ht : t ≤ 1099511627776) (hf : S.length ≤ 140737488355328) (hs : Sc w x g S t) (hp : TabP w) (hb : Below a.heap.size a w) (hx : a.heap.size ≤ x) :
    Calls Tryd.prog 8 #[.pointer (some ⟨x, 0, none⟩), .int .i64 (n : Int)] w fun e w' =>
      ∃ ao cap, e = .returned (.tuple #[.slice ao n cap, .int .i64 0]) ∧ Own w' w.heap.size (.slice ao n cap) (EM.drawn S t n) ∧ Sc w' x g S (t + n) ∧ w.grownBy w' (some x) ∧ Below a.heap.size a w' :=
  (pdraw_ok w x g S t n hn ht hf hs hp).mono fun e w' ⟨y, he, ho, hs', hg⟩ => by
    obtain ⟨ao, cap, rfl, _⟩ := ho.rd.shape
    rw [EM.drawn_len] at he ho
    exact ⟨ao, cap, he, ho, hs', hg, hb.grown hg hb.size (fun k hk => by have : x = k := Option.some.inj hk; omega)⟩
set_option maxRecDepth 100000 in
set_option maxHeartbeats 1000000 in
theorem eawake_any (w : World) (ht : TabP w) : Calls Tryd.prog 6 #[] w fun e w' => e = .returned (.bool true) ∧ Below w.heap.size w w' := by
  have HT := Lib.hid ht
  have r1 : Rd (w.alloc (.cells #[.int .u8 120] 5 (1, 2))) (.slice (some ⟨w.heap.size, 0, none⟩) 1 1) [120] := rd_const w [120] (small_bytes (by decide)) (by decide) 1 rfl _ rfl (1, 2)
  have b1 := (Below.refl w.heap.size w).alloc (Nat.le_refl _) (.cells #[.int .u8 120] 5 (1, 2))
  have kc := fun (C : Array Value) (n c : Nat) => Lib.run_convert_bytes_const (P := Tryd.prog) w 22 5 C n c Tryd.underlying22 Tryd.underlying5
  have HN := Lib.hid (psnew_any [120] _ _ r1 (ht.below b1))
  have B1 := Lib.hid b1
  clear ht r1 b1
  go_enter Tryd.func6, Tryd.ntmps6
  go_wp2_with (first
    | (go_at_call 7; refine HN.out.mono ?_; rintro e w2 ⟨x, g, hx, hg, rfl, s2, b2⟩; have HX := Lib.hid (show w.heap.size ≤ x by simp at hx; omega); have S2 := Lib.hid s2; have B2 := Lib.hid (B1.out.on b2); have HD := Lib.hid (show Calls Tryd.prog 8 #[.pointer (some ⟨x, 0, none⟩), .int .i64 40] w2 _ from pdraw_own 40 (by omega) (by omega) (by simp) S2.out (HT.out.below B2.out) B2.out HX.out); clear hx hg s2 b2)
    | (go_at_call 8; (with_reducible refine HD.out.mono ?_); rintro e w3 ⟨a3, c3, rfl, o3, s3, g3, b3⟩; have S3 := Lib.hid s3; have B3 := Lib.hid b3; have HD2 := Lib.hid (show Calls Tryd.prog 8 #[.pointer (some ⟨x, 0, none⟩), .int .i64 2] w3 _ from pdraw_own 2 (by omega) (by omega) (by simp) S3.out (HT.out.below B3.out) B3.out HX.out); clear o3 s3 g3 b3 HD)
    | (go_at_call 8; (with_reducible refine HD2.out.mono ?_); rintro e w4 ⟨a4, c4, rfl, o4, s4, g4, b4⟩; have S4 := Lib.hid s4; have B4 := Lib.hid b4; clear o4 s4 g4 b4 HD2)
    | (go_at_call 10; refine (pstaken_any w4 x g [120] _ S4.out).mono ?_; rintro e w5 ⟨h5, rfl⟩; obtain rfl : e = .returned (.int .i64 42) := h5))
  go_ret
  exact ⟨rfl, B4.out⟩
end Go.Proofs.YtdiljngokbfpcaaDoor

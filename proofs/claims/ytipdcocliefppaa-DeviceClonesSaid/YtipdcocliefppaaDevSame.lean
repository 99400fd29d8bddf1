/- Do both tell the same: contract. Own work. -/
import Derived.Test.YtipdcocliefppaaDevDoH
import Derived.Test.YtipdcocliefppaaOwnAt
namespace Go.Proofs.Ytipdcocliefppaa
open Go.ChangeShapes Go.WideShapes Go.ChangeAt Go.RowKit
set_option maxHeartbeats 4000000 in
set_option maxRecDepth 100000 in
theorem same_any (d : Nat) (F R : Nat → Prop) (S : DM.DS) (w : World) (hdv : Dv w d F R S) (htm : Tame S) (da : Option Addr) (dl dc : Nat) (hl : RL w (.slice da dl dc) S.loose) :
    Calls Try.prog 14 #[.pointer (some ⟨d, 0, none⟩), .agg #[.int .i64 (S.most : Int), .string (bstr S.seen), .string (bstr S.safe), .slice da dl dc, .int .i64 (S.steps : Int), .bool S.down, .bool S.told, .int .i64 (S.after : Int), .bool S.done]] w (fun e w' => e = .returned (.bool true) ∧ Below w.heap.size w w') := by
  have TM := Lib.hid htm
  have HDLN := Lib.hid (show dl = S.loose.length from by obtain ⟨q, c, e, _⟩ := hl.rd.shape; injection e)
  have hsl : S.seen.length ≤ 16777216 := Nat.le_trans htm.ok.seen htm.ok.most
  obtain ⟨W, hW⟩ : ∃ W, W = w.alloc (.cells #[.int .i64 (S.most : Int), .string (bstr S.seen), .string (bstr S.safe), .slice da dl dc, .int .i64 (S.steps : Int), .bool S.down, .bool S.told, .int .i64 (S.after : Int), .bool S.done] 29) := ⟨_, rfl⟩
  have b0 : Below w.heap.size w W := by rw [hW]; exact (Below.refl _ _).alloc (Nat.le_refl _) _
  have kr : Blk W w.heap.size 29 [.int .i64 (S.most : Int), .string (bstr S.seen), .string (bstr S.safe), .slice da dl dc, .int .i64 (S.steps : Int), .bool S.down, .bool S.told, .int .i64 (S.after : Int), .bool S.done] := by rw [hW]; exact Blk.new w 29 [.int .i64 (S.most : Int), .string (bstr S.seen), .string (bstr S.safe), .slice da dl dc, .int .i64 (S.steps : Int), .bool S.down, .bool S.told, .int .i64 (S.after : Int), .bool S.done] _ rfl
  have hs : W.heap.size = w.heap.size + 1 := by rw [hW]; simp
  have DW := Lib.hid (hdv.keep b0.size (fun k hk => b0.block k (hdv.sub.2 k hk)))
  have HB := Lib.hid (dbytes_any d F R S W DW.out htm)
  have BW := Lib.hid b0
  have KR := Lib.hid kr
  have HSW := Lib.hid hs
  clear hdv htm hl b0 kr hs
  go_enter Try.func14, Try.ntmps14
  go_upto_region 1 with (fail)
  rw [← hW]
  clear hW
  go_upto_region 2 with (go_at_call 28; (with_reducible refine HB.out.mono ?_); rintro e w3 ⟨y, rfl, o3, b3⟩; obtain ⟨ya, yc, rfl, _⟩ := o3.rd.shape; have O3 := Lib.hid o3; have D3 := Lib.hid (DW.out.keep b3.size (fun k hk => b3.block k (DW.out.sub.2 k hk))); have KR3 := Lib.hid (KR.out.below b3 KR.out.lt); have B3 := Lib.hid (BW.out.on b3); have S3 := Lib.hid b3.size; clear o3 b3 HB)
  refine wp_region_g (by kernel_rfl) 42 (by decide) (by kernel_rfl) (by kernel_rfl) (by kernel_rfl) (w3.heap.size) (Nat.le_refl _) [.val (.slice ya S.seen.length yc), .val (.string (bstr S.seen)), .val (.pointer (some ⟨w.heap.size, 1, none⟩)), .val (.string (bstr S.seen)), .val (.bool false), .val (.bool false), .val (.pointer (some ⟨d, 0, none⟩)), .val (.int .i64 (S.seen.length : Int)), .val (.pointer (some ⟨w.heap.size, 1, none⟩)), .val (.string (bstr S.seen)), .val (.int .i64 (S.seen.length : Int)), .val (.bool false), .val (.bool false), .val (.bool false), .val (.pointer (some ⟨d, 0, none⟩)), .val (.int .i64 (S.most : Int)), .val (.pointer (some ⟨w.heap.size, 0, none⟩)), .val (.int .i64 (S.most : Int)), .val (.bool false), .val (.bool false), .val (.bool false), .val (.pointer (some ⟨d, 0, none⟩)), .val (.int .i64 (S.steps : Int)), .val (.pointer (some ⟨w.heap.size, 4, none⟩)), .val (.int .i64 (S.steps : Int)), .val (.bool false), .val (.bool false), .val (.bool false), .val (.pointer (some ⟨d, 0, none⟩)), .val (.bool S.down), .val (.pointer (some ⟨w.heap.size, 5, none⟩)), .val (.bool S.down), .val (.bool false), .val (.bool false), .val (.bool false), .val (.pointer (some ⟨d, 0, none⟩)), .val (.int .i64 (S.loose.length : Int)), .val (.pointer (some ⟨w.heap.size, 3, none⟩)), .val (.slice da dl dc), .val (.int .i64 (S.loose.length : Int)), .val (.bool false), .val (.bool false)] (fun _ => 42) ?_ ?_
  · refine ⟨?_, ?_, ?_, ?_, ?_, ?_, ?_, ?_, ?_, ?_, ?_, ?_, ?_, ?_, ?_, ?_, ?_, ?_, ?_, ?_, ?_, ?_, ?_, ?_, ?_, ?_, ?_, ?_, ?_, ?_, ?_, ?_, ?_, ?_, ?_, ?_, ?_, ?_, ?_, ?_, ?_, ?_, trivial⟩
    · intro a w' hF hB hd
      have e5 : a.eval (.tmp 5) = .slice ya S.seen.length yc := hF 5 (by decide +kernel)
      exact doesG_val rfl (ex_move rfl e5) rfl rfl
    · intro a w' hF hB hd
      have e9 : a.eval (.tmp 9) = .slice ya S.seen.length yc := hd 0 (by decide +kernel) (.inr (by decide))
      exact doesG_val rfl (ex_convert rfl e9 ((O3.out.below hB).rd.str)) rfl rfl
    · intro a w' hF hB hd
      have e3 : a.eval (.tmp 3) = .pointer (some ⟨w.heap.size, 0, none⟩) := hF 3 (by decide +kernel)
      exact doesG_val rfl (v := .pointer (some ⟨w.heap.size, 1, none⟩)) (by unfold execOp; simp only [e3]; go_simp) rfl rfl
    · intro a w' hF hB hd
      have e11 : a.eval (.tmp 11) = .pointer (some ⟨w.heap.size, 1, none⟩) := hd 2 (by decide +kernel) (.inr (by decide))
      have cw := (KR3.out.below hB KR3.out.lt).cell 1 _ rfl
      exact doesG_val rfl (v := .string (bstr S.seen)) (by unfold execOp; simp only [e11]; go_simp) rfl rfl
    · intro a w' hF hB hd
      have e10 : a.eval (.tmp 10) = .string (bstr S.seen) := hd 1 (by decide +kernel) (.inr (by decide))
      have e12 : a.eval (.tmp 12) = .string (bstr S.seen) := hd 3 (by decide +kernel) (.inr (by decide))
      exact doesG_val rfl (ex_binOp rfl e10 e12 (by go_simp) (by go_simp)) rfl rfl
    · intro a w' hF hB hd
      have e13 : a.eval (.tmp 13) = .bool false := hd 4 (by decide +kernel) (.inr (by decide))
      exact doesG_val rfl (ex_move rfl e13) rfl rfl
    · intro a w' hF hB hd
      have e14 : a.eval (.tmp 14) = .bool false := hd 5 (by decide +kernel) (.inr (by decide))
      have e0 : a.eval (.tmp 0) = .pointer (some ⟨d, 0, none⟩) := hF 0 (by decide +kernel)
      exact doesG_val (wanted_of rfl (yielded_of rfl e14)) (ex_move rfl e0) rfl rfl
    · intro a w' hF hB hd
      have e14 : a.eval (.tmp 14) = .bool false := hd 5 (by decide +kernel) (.inr (by decide))
      have e15 : a.eval (.tmp 15) = .pointer (some ⟨d, 0, none⟩) := hd 6 (by decide +kernel) (.inr (by decide))
      exact doesG_call (wanted_of rfl (yielded_of rfl e14)) (ex_call (vs := #[.pointer (some ⟨d, 0, none⟩)]) rfl (by simp only [List.map_toArray, List.map_cons, List.map_nil, e15]) (by go_simp)) rfl ((dsize_any d F R S w' (D3.out.keep hB.size (fun k hk => hB.block k (D3.out.sub.2 k hk))) TM.out).mono fun e w2 hh => ⟨_, hh.1, rfl, by rw [hh.2]; exact Below.refl _ _⟩)
    · intro a w' hF hB hd
      have e14 : a.eval (.tmp 14) = .bool false := hd 5 (by decide +kernel) (.inr (by decide))
      have e3 : a.eval (.tmp 3) = .pointer (some ⟨w.heap.size, 0, none⟩) := hF 3 (by decide +kernel)
      exact doesG_val (wanted_of rfl (yielded_of rfl e14)) (v := .pointer (some ⟨w.heap.size, 1, none⟩)) (by unfold execOp; simp only [e3]; go_simp) rfl rfl
    · intro a w' hF hB hd
      have e14 : a.eval (.tmp 14) = .bool false := hd 5 (by decide +kernel) (.inr (by decide))
      have e17 : a.eval (.tmp 17) = .pointer (some ⟨w.heap.size, 1, none⟩) := hd 8 (by decide +kernel) (.inr (by decide))
      have cw := (KR3.out.below hB KR3.out.lt).cell 1 _ rfl
      exact doesG_val (wanted_of rfl (yielded_of rfl e14)) (v := .string (bstr S.seen)) (by unfold execOp; simp only [e17]; go_simp) rfl rfl
    · intro a w' hF hB hd
      have e14 : a.eval (.tmp 14) = .bool false := hd 5 (by decide +kernel) (.inr (by decide))
      have e18 : a.eval (.tmp 18) = .string (bstr S.seen) := hd 9 (by decide +kernel) (.inr (by decide))
      exact doesG_val (wanted_of rfl (yielded_of rfl e14)) (v := .int .i64 (S.seen.length : Int)) (by rw [← bstr_size S.seen]; exact ex_len_str rfl e18 (run_len_string _ _ _ _ Try.underlying9)) rfl rfl
    · intro a w' hF hB hd
      have e14 : a.eval (.tmp 14) = .bool false := hd 5 (by decide +kernel) (.inr (by decide))
      have e16 : a.eval (.tmp 16) = .int .i64 (S.seen.length : Int) := hd 7 (by decide +kernel) (.inr (by decide))
      have e19 : a.eval (.tmp 19) = .int .i64 (S.seen.length : Int) := hd 10 (by decide +kernel) (.inr (by decide))
      exact doesG_val (wanted_of rfl (yielded_of rfl e14)) (ex_binOp rfl e16 e19 (by go_simp) (by go_simp)) rfl rfl
    · intro a w' hF hB hd
      have e14 : a.eval (.tmp 14) = .bool false := hd 5 (by decide +kernel) (.inr (by decide))
      have e20 : a.eval (.tmp 20) = .bool false := hd 11 (by decide +kernel) (.inr (by decide))
      exact doesG_val rfl (ex_pick rfl e14 (by simp [e20])) rfl rfl
    · intro a w' hF hB hd
      have e21 : a.eval (.tmp 21) = .bool false := hd 12 (by decide +kernel) (.inr (by decide))
      exact doesG_val rfl (ex_move rfl e21) rfl rfl
    · intro a w' hF hB hd
      have e22 : a.eval (.tmp 22) = .bool false := hd 13 (by decide +kernel) (.inr (by decide))
      have e0 : a.eval (.tmp 0) = .pointer (some ⟨d, 0, none⟩) := hF 0 (by decide +kernel)
      exact doesG_val (wanted_of rfl (yielded_of rfl e22)) (ex_move rfl e0) rfl rfl
    · intro a w' hF hB hd
      have e22 : a.eval (.tmp 22) = .bool false := hd 13 (by decide +kernel) (.inr (by decide))
      have e23 : a.eval (.tmp 23) = .pointer (some ⟨d, 0, none⟩) := hd 14 (by decide +kernel) (.inr (by decide))
      exact doesG_call (wanted_of rfl (yielded_of rfl e22)) (ex_call (vs := #[.pointer (some ⟨d, 0, none⟩)]) rfl (by simp only [List.map_toArray, List.map_cons, List.map_nil, e23]) (by go_simp)) rfl ((dmost_any d F R S w' (D3.out.keep hB.size (fun k hk => hB.block k (D3.out.sub.2 k hk))) TM.out).mono fun e w2 hh => ⟨_, hh.1, rfl, by rw [hh.2]; exact Below.refl _ _⟩)
    · intro a w' hF hB hd
      have e22 : a.eval (.tmp 22) = .bool false := hd 13 (by decide +kernel) (.inr (by decide))
      have e3 : a.eval (.tmp 3) = .pointer (some ⟨w.heap.size, 0, none⟩) := hF 3 (by decide +kernel)
      exact doesG_val (wanted_of rfl (yielded_of rfl e22)) (v := .pointer (some ⟨w.heap.size, 0, none⟩)) (by unfold execOp; simp only [e3]; go_simp) rfl rfl
    · intro a w' hF hB hd
      have e22 : a.eval (.tmp 22) = .bool false := hd 13 (by decide +kernel) (.inr (by decide))
      have e25 : a.eval (.tmp 25) = .pointer (some ⟨w.heap.size, 0, none⟩) := hd 16 (by decide +kernel) (.inr (by decide))
      have cw := (KR3.out.below hB KR3.out.lt).cell 0 _ rfl
      exact doesG_val (wanted_of rfl (yielded_of rfl e22)) (v := .int .i64 (S.most : Int)) (by unfold execOp; simp only [e25]; go_simp) rfl rfl
    · intro a w' hF hB hd
      have e22 : a.eval (.tmp 22) = .bool false := hd 13 (by decide +kernel) (.inr (by decide))
      have e24 : a.eval (.tmp 24) = .int .i64 (S.most : Int) := hd 15 (by decide +kernel) (.inr (by decide))
      have e26 : a.eval (.tmp 26) = .int .i64 (S.most : Int) := hd 17 (by decide +kernel) (.inr (by decide))
      exact doesG_val (wanted_of rfl (yielded_of rfl e22)) (ex_binOp rfl e24 e26 (by go_simp) (by go_simp)) rfl rfl
    · intro a w' hF hB hd
      have e22 : a.eval (.tmp 22) = .bool false := hd 13 (by decide +kernel) (.inr (by decide))
      have e27 : a.eval (.tmp 27) = .bool false := hd 18 (by decide +kernel) (.inr (by decide))
      exact doesG_val rfl (ex_pick rfl e22 (by simp [e27])) rfl rfl
    · intro a w' hF hB hd
      have e28 : a.eval (.tmp 28) = .bool false := hd 19 (by decide +kernel) (.inr (by decide))
      exact doesG_val rfl (ex_move rfl e28) rfl rfl
    · intro a w' hF hB hd
      have e29 : a.eval (.tmp 29) = .bool false := hd 20 (by decide +kernel) (.inr (by decide))
      have e0 : a.eval (.tmp 0) = .pointer (some ⟨d, 0, none⟩) := hF 0 (by decide +kernel)
      exact doesG_val (wanted_of rfl (yielded_of rfl e29)) (ex_move rfl e0) rfl rfl
    · intro a w' hF hB hd
      have e29 : a.eval (.tmp 29) = .bool false := hd 20 (by decide +kernel) (.inr (by decide))
      have e30 : a.eval (.tmp 30) = .pointer (some ⟨d, 0, none⟩) := hd 21 (by decide +kernel) (.inr (by decide))
      exact doesG_call (wanted_of rfl (yielded_of rfl e29)) (ex_call (vs := #[.pointer (some ⟨d, 0, none⟩)]) rfl (by simp only [List.map_toArray, List.map_cons, List.map_nil, e30]) (by go_simp)) rfl ((dsteps_any d F R S w' (D3.out.keep hB.size (fun k hk => hB.block k (D3.out.sub.2 k hk))) TM.out).mono fun e w2 hh => ⟨_, hh.1, rfl, by rw [hh.2]; exact Below.refl _ _⟩)
    · intro a w' hF hB hd
      have e29 : a.eval (.tmp 29) = .bool false := hd 20 (by decide +kernel) (.inr (by decide))
      have e3 : a.eval (.tmp 3) = .pointer (some ⟨w.heap.size, 0, none⟩) := hF 3 (by decide +kernel)
      exact doesG_val (wanted_of rfl (yielded_of rfl e29)) (v := .pointer (some ⟨w.heap.size, 4, none⟩)) (by unfold execOp; simp only [e3]; go_simp) rfl rfl
    · intro a w' hF hB hd
      have e29 : a.eval (.tmp 29) = .bool false := hd 20 (by decide +kernel) (.inr (by decide))
      have e32 : a.eval (.tmp 32) = .pointer (some ⟨w.heap.size, 4, none⟩) := hd 23 (by decide +kernel) (.inr (by decide))
      have cw := (KR3.out.below hB KR3.out.lt).cell 4 _ rfl
      exact doesG_val (wanted_of rfl (yielded_of rfl e29)) (v := .int .i64 (S.steps : Int)) (by unfold execOp; simp only [e32]; go_simp) rfl rfl
    · intro a w' hF hB hd
      have e29 : a.eval (.tmp 29) = .bool false := hd 20 (by decide +kernel) (.inr (by decide))
      have e31 : a.eval (.tmp 31) = .int .i64 (S.steps : Int) := hd 22 (by decide +kernel) (.inr (by decide))
      have e33 : a.eval (.tmp 33) = .int .i64 (S.steps : Int) := hd 24 (by decide +kernel) (.inr (by decide))
      exact doesG_val (wanted_of rfl (yielded_of rfl e29)) (ex_binOp rfl e31 e33 (by go_simp) (by go_simp)) rfl rfl
    · intro a w' hF hB hd
      have e29 : a.eval (.tmp 29) = .bool false := hd 20 (by decide +kernel) (.inr (by decide))
      have e34 : a.eval (.tmp 34) = .bool false := hd 25 (by decide +kernel) (.inr (by decide))
      exact doesG_val rfl (ex_pick rfl e29 (by simp [e34])) rfl rfl
    · intro a w' hF hB hd
      have e35 : a.eval (.tmp 35) = .bool false := hd 26 (by decide +kernel) (.inr (by decide))
      exact doesG_val rfl (ex_move rfl e35) rfl rfl
    · intro a w' hF hB hd
      have e36 : a.eval (.tmp 36) = .bool false := hd 27 (by decide +kernel) (.inr (by decide))
      have e0 : a.eval (.tmp 0) = .pointer (some ⟨d, 0, none⟩) := hF 0 (by decide +kernel)
      exact doesG_val (wanted_of rfl (yielded_of rfl e36)) (ex_move rfl e0) rfl rfl
    · intro a w' hF hB hd
      have e36 : a.eval (.tmp 36) = .bool false := hd 27 (by decide +kernel) (.inr (by decide))
      have e37 : a.eval (.tmp 37) = .pointer (some ⟨d, 0, none⟩) := hd 28 (by decide +kernel) (.inr (by decide))
      exact doesG_call (wanted_of rfl (yielded_of rfl e36)) (ex_call (vs := #[.pointer (some ⟨d, 0, none⟩)]) rfl (by simp only [List.map_toArray, List.map_cons, List.map_nil, e37]) (by go_simp)) rfl ((ddown_any d F R S w' (D3.out.keep hB.size (fun k hk => hB.block k (D3.out.sub.2 k hk))) TM.out).mono fun e w2 hh => ⟨_, hh.1, rfl, by rw [hh.2]; exact Below.refl _ _⟩)
    · intro a w' hF hB hd
      have e36 : a.eval (.tmp 36) = .bool false := hd 27 (by decide +kernel) (.inr (by decide))
      have e3 : a.eval (.tmp 3) = .pointer (some ⟨w.heap.size, 0, none⟩) := hF 3 (by decide +kernel)
      exact doesG_val (wanted_of rfl (yielded_of rfl e36)) (v := .pointer (some ⟨w.heap.size, 5, none⟩)) (by unfold execOp; simp only [e3]; go_simp) rfl rfl
    · intro a w' hF hB hd
      have e36 : a.eval (.tmp 36) = .bool false := hd 27 (by decide +kernel) (.inr (by decide))
      have e39 : a.eval (.tmp 39) = .pointer (some ⟨w.heap.size, 5, none⟩) := hd 30 (by decide +kernel) (.inr (by decide))
      have cw := (KR3.out.below hB KR3.out.lt).cell 5 _ rfl
      exact doesG_val (wanted_of rfl (yielded_of rfl e36)) (v := .bool S.down) (by unfold execOp; simp only [e39]; go_simp) rfl rfl
    · intro a w' hF hB hd
      have e36 : a.eval (.tmp 36) = .bool false := hd 27 (by decide +kernel) (.inr (by decide))
      have e38 : a.eval (.tmp 38) = .bool S.down := hd 29 (by decide +kernel) (.inr (by decide))
      have e40 : a.eval (.tmp 40) = .bool S.down := hd 31 (by decide +kernel) (.inr (by decide))
      exact doesG_val (wanted_of rfl (yielded_of rfl e36)) (ex_binOp rfl e38 e40 (by go_simp) (by go_simp)) rfl rfl
    · intro a w' hF hB hd
      have e36 : a.eval (.tmp 36) = .bool false := hd 27 (by decide +kernel) (.inr (by decide))
      have e41 : a.eval (.tmp 41) = .bool false := hd 32 (by decide +kernel) (.inr (by decide))
      exact doesG_val rfl (ex_pick rfl e36 (by simp [e41])) rfl rfl
    · intro a w' hF hB hd
      have e42 : a.eval (.tmp 42) = .bool false := hd 33 (by decide +kernel) (.inr (by decide))
      exact doesG_val rfl (ex_move rfl e42) rfl rfl
    · intro a w' hF hB hd
      have e43 : a.eval (.tmp 43) = .bool false := hd 34 (by decide +kernel) (.inr (by decide))
      have e0 : a.eval (.tmp 0) = .pointer (some ⟨d, 0, none⟩) := hF 0 (by decide +kernel)
      exact doesG_val (wanted_of rfl (yielded_of rfl e43)) (ex_move rfl e0) rfl rfl
    · intro a w' hF hB hd
      have e43 : a.eval (.tmp 43) = .bool false := hd 34 (by decide +kernel) (.inr (by decide))
      have e44 : a.eval (.tmp 44) = .pointer (some ⟨d, 0, none⟩) := hd 35 (by decide +kernel) (.inr (by decide))
      exact doesG_call (wanted_of rfl (yielded_of rfl e43)) (ex_call (vs := #[.pointer (some ⟨d, 0, none⟩)]) rfl (by simp only [List.map_toArray, List.map_cons, List.map_nil, e44]) (by go_simp)) rfl ((dloose_any d F R S w' (D3.out.keep hB.size (fun k hk => hB.block k (D3.out.sub.2 k hk))) TM.out).mono fun e w2 hh => ⟨_, hh.1, rfl, by rw [hh.2]; exact Below.refl _ _⟩)
    · intro a w' hF hB hd
      have e43 : a.eval (.tmp 43) = .bool false := hd 34 (by decide +kernel) (.inr (by decide))
      have e3 : a.eval (.tmp 3) = .pointer (some ⟨w.heap.size, 0, none⟩) := hF 3 (by decide +kernel)
      exact doesG_val (wanted_of rfl (yielded_of rfl e43)) (v := .pointer (some ⟨w.heap.size, 3, none⟩)) (by unfold execOp; simp only [e3]; go_simp) rfl rfl
    · intro a w' hF hB hd
      have e43 : a.eval (.tmp 43) = .bool false := hd 34 (by decide +kernel) (.inr (by decide))
      have e46 : a.eval (.tmp 46) = .pointer (some ⟨w.heap.size, 3, none⟩) := hd 37 (by decide +kernel) (.inr (by decide))
      have cw := (KR3.out.below hB KR3.out.lt).cell 3 _ rfl
      exact doesG_val (wanted_of rfl (yielded_of rfl e43)) (v := .slice da dl dc) (by unfold execOp; simp only [e46]; go_simp) rfl rfl
    · intro a w' hF hB hd
      have e43 : a.eval (.tmp 43) = .bool false := hd 34 (by decide +kernel) (.inr (by decide))
      have e47 : a.eval (.tmp 47) = .slice da dl dc := hd 38 (by decide +kernel) (.inr (by decide))
      exact doesG_val (wanted_of rfl (yielded_of rfl e43)) (v := .int .i64 (S.loose.length : Int)) (by simp only [execOp, resolve, invoke, builtin, Sem.run_bind, Sem.run_pure, Result.andThen_ok, List.map_toArray, List.map_cons, List.map_nil, e47]; rw [← HDLN.out]; go_simp) rfl rfl
    · intro a w' hF hB hd
      have e43 : a.eval (.tmp 43) = .bool false := hd 34 (by decide +kernel) (.inr (by decide))
      have e45 : a.eval (.tmp 45) = .int .i64 (S.loose.length : Int) := hd 36 (by decide +kernel) (.inr (by decide))
      have e48 : a.eval (.tmp 48) = .int .i64 (S.loose.length : Int) := hd 39 (by decide +kernel) (.inr (by decide))
      exact doesG_val (wanted_of rfl (yielded_of rfl e43)) (ex_binOp rfl e45 e48 (by go_simp) (by go_simp)) rfl rfl
    · intro a w' hF hB hd
      have e43 : a.eval (.tmp 43) = .bool false := hd 34 (by decide +kernel) (.inr (by decide))
      have e49 : a.eval (.tmp 49) = .bool false := hd 40 (by decide +kernel) (.inr (by decide))
      exact doesG_val rfl (ex_pick rfl e43 (by simp [e49])) rfl rfl
  · intro vs w4 hB hv hap
    have e41 : vs 41 = .bool false := hv 41 (by decide) (by decide)
    simp only [List.take_succ_cons, List.take_zero, List.drop_succ_cons, List.drop_zero, putOps, Act.put, List.setIfInBounds_toArray, List.set_cons_zero, List.set_cons_succ, e41]
    have O4 := Lib.hid (O3.out.below hB)
    have B4 := Lib.hid (B3.out.on hB)
    clear hv hap e41 hB O3 D3 KR3 B3
    go_wp2_with fail
    go_loopw [6] (fun i wr => ∃ (j : Nat) (N : List Nat), j ≤ S.seen.length ∧ i = .int .i64 (j : Int) ∧ N.length = S.seen.length ∧ Own wr W.heap.size (.slice ya S.seen.length yc) N ∧ Below w.heap.size w wr) (fun i _ => S.seen.length - (intOf i).toNat)
    case atStart => exact ⟨0, S.seen, Nat.zero_le _, rfl, rfl, O4.out, B4.out⟩
    case round =>
      clear O4 B4
      obtain ⟨j, N, hj, rfl, hN, om, bb⟩ := hrel
      by_cases hlt : j < S.seen.length
      · obtain ⟨u, rfl⟩ := own_at om (by rw [hN]; omega)
        have cu := om.cell hN.symm j (by rw [hN]; exact hlt)
        have fu := om.free hN.symm j
        have hb8 := om.2.1 j
        obtain ⟨y, hy⟩ : ∃ y, y = gb N j := ⟨_, rfl⟩
        rw [← hy] at cu hb8
        obtain ⟨z, hz⟩ : ∃ z, z = (y + 1) % 256 := ⟨_, rfl⟩
        have hz1 : ((y : Int) + 1) % 256 = (z : Int) := by omega
        have hz2 : z < 256 := by omega
        have OM := Lib.hid om
        have BB := Lib.hid bb
        have HNN := Lib.hid hN
        have HU := Lib.hid (show w.heap.size ≤ u by have h1 := (om.from u rfl).1; have h2 := HSW.out; omega)
        clear om bb hN hy hz
        go_wp2_with fail
        have hms := HNN.out
        have o2 : Own (wr.setCell ⟨u, j, none⟩ (.int .u8 (z : Int))) W.heap.size (.slice (some ⟨u, 0, none⟩) S.seen.length yc) (N.set j z) := by
          have h := OM.out; rw [← hms] at h ⊢; exact h.set j z hz2 (by omega)
        exact ⟨⟨j + 1, N.set j z, by omega, by go_num, by rw [List.length_set]; exact hms, o2, BB.out.setCell (p := ⟨u, j, none⟩) HU.out _⟩, by simp [intOf]; omega⟩
      · have hje : j = S.seen.length := by omega
        have BB := Lib.hid bb
        clear om bb hN
        go_wp2_with fail
        go_ret
        exact ⟨rfl, BB.out⟩
end Go.Proofs.Ytipdcocliefppaa

/- The document's device by value: Edit: contract. Own work. -/
import Derived.Test.YtipdcocliefppaaDevRefX
import Derived.Deep.RegionWith
namespace Go.Proofs.Ytipdcocliefppaa
open Go.ChangeShapes Go.WideShapes Go.ChangeAt Go.RowKit
open DM
set_option maxHeartbeats 4000000 in
set_option maxRecDepth 100000 in
theorem redit_any (d : DS) (x : Int) (z : List Nat) (da : Option Addr) (dl dc : Nat) (w : World) (hok : Ok d) (hzl : z.length ≤ 16777216) (hxw : -9223372036854775808 ≤ x ∧ x ≤ 9223372036854775807) (hd : RL w (.slice da dl dc) d.loose) :
    Calls Try.prog 34 #[.agg (rdv d (.slice da dl dc)).toArray, .int .i64 x, .string (bstr z)] w (RGave w (.slice da dl dc) (DM.edit d x z)) := by
  have hz := zeroRd
  have hmo := hok.most
  have hse := hok.seen
  have hsa := hok.safe
  unfold DM.edit
  obtain ⟨m, a, b, l, s, dn, tl, af, dd⟩ := d
  unfold rdv
  simp only at *
  have HD := Lib.hid hd
  have hya := bstr_size z
  have haa := bstr_size a
  obtain ⟨hx1, hx2⟩ := hxw
  by_cases hc : x < 0 ∨ (a.length : Int) < x ∨ (m : Int) - x < (z.length : Int)
  · rw [if_pos hc]
    clear hd hok
    by_cases h1 : x < 0
    · go_enter Try.func34, Try.ntmps34
      go_wp2_with fail
      exact bodyPost_ret (results_mid rfl _ _ (w.heap.size + 1) [.int .i64 (m : Int), .string (bstr a), .string (bstr b), .slice da dl dc, .int .i64 (s : Int), .bool dn, .bool tl, .int .i64 (af : Int), .bool dd] _ rfl (rangeAt_at _ _ _ _ (by simp)) Try.underlying29 rfl infoRd) rfl ⟨da, dl, dc, rfl, HD.out.below (below_two w _ _), below_two w _ _, fun g hg => .inl hg⟩
    · by_cases h2 : (a.length : Int) < x
      · go_enter Try.func34, Try.ntmps34
        go_wp2_with fail
        exact bodyPost_ret (results_mid rfl _ _ (w.heap.size + 1) [.int .i64 (m : Int), .string (bstr a), .string (bstr b), .slice da dl dc, .int .i64 (s : Int), .bool dn, .bool tl, .int .i64 (af : Int), .bool dd] _ rfl (rangeAt_at _ _ _ _ (by simp)) Try.underlying29 rfl infoRd) rfl ⟨da, dl, dc, rfl, HD.out.below (below_two w _ _), below_two w _ _, fun g hg => .inl hg⟩
      · have h3 : (m : Int) - x < (z.length : Int) := by omega
        have hwm : IntKind.i64.wrap ((m : Int) - x) = (m : Int) - x := by rw [IntKind.wrap_i64]; omega
        have hwm2 : wrap64 ((m : Int) - x) = (m : Int) - x := by rw [wrap64]; omega
        go_enter Try.func34, Try.ntmps34
        go_wp2_with fail
        exact bodyPost_ret (results_mid rfl _ _ (w.heap.size + 1) [.int .i64 (m : Int), .string (bstr a), .string (bstr b), .slice da dl dc, .int .i64 (s : Int), .bool dn, .bool tl, .int .i64 (af : Int), .bool dd] _ rfl (rangeAt_at _ _ _ _ (by simp)) Try.underlying29 rfl infoRd) rfl ⟨da, dl, dc, rfl, HD.out.below (below_two w _ _), below_two w _ _, fun g hg => .inl hg⟩
  · rw [if_neg hc]
    obtain ⟨p, rfl⟩ : ∃ p : Nat, x = (p : Int) := ⟨x.toNat, by omega⟩
    have h1 : ¬ (p : Int) < 0 := by omega
    have h2 : ¬ (a.length : Int) < (p : Int) := by omega
    have h3 : ¬ (m : Int) - (p : Int) < (z.length : Int) := by omega
    have hwm : IntKind.i64.wrap ((m : Int) - (p : Int)) = (m : Int) - (p : Int) := by rw [IntKind.wrap_i64]; omega
    have hwm2 : wrap64 ((m : Int) - (p : Int)) = (m : Int) - (p : Int) := by rw [wrap64]; omega
    rw [Int.toNat_natCast]
    obtain ⟨X, hX⟩ : ∃ X, X = laid a p z := ⟨_, rfl⟩
    obtain ⟨Y, hY⟩ : ∃ Y, Y = laid b p z := ⟨_, rfl⟩
    have HLA := Lib.hid (fun w' => rlaid_any a z p w' (by omega) (by omega))
    have HLB := Lib.hid (fun w' => rlaid_any b z p w' (by omega) (by omega))
    rw [← hX] at HLA
    rw [← hY] at HLB
    rw [← hX, ← hY]
    clear hd hok hc hx1 hx2 hX hY
    go_enter Try.func34, Try.ntmps34
    go_upto_region 3 with (fail)
    obtain ⟨W, hW⟩ : ∃ W, W = ((w.alloc (.cells #[.int .i64 (m : Int), .string (bstr a), .string (bstr b), .slice da dl dc, .int .i64 (s : Int), .bool dn, .bool tl, .int .i64 (af : Int), .bool dd] 29)).alloc (.cells #[.int .i64 0, .string { data := #[] }, .string { data := #[] }, .slice none 0 0, .int .i64 0, .bool false, .bool false, .int .i64 0, .bool false] 29)) := ⟨_, rfl⟩
    have BW := Lib.hid (show Below w.heap.size w W by rw [hW]; exact below_two w _ _)
    have KA := Lib.hid (show Blk W w.heap.size 29 [.int .i64 (m : Int), .string (bstr a), .string (bstr b), .slice da dl dc, .int .i64 (s : Int), .bool dn, .bool tl, .int .i64 (af : Int), .bool dd] by rw [hW]; exact (Blk.new w 29 [.int .i64 (m : Int), .string (bstr a), .string (bstr b), .slice da dl dc, .int .i64 (s : Int), .bool dn, .bool tl, .int .i64 (af : Int), .bool dd] _ rfl).alloc (.cells #[.int .i64 0, .string { data := #[] }, .string { data := #[] }, .slice none 0 0, .int .i64 0, .bool false, .bool false, .int .i64 0, .bool false] 29))
    have KB := Lib.hid (show Blk W (w.heap.size + 1) 29 [.int .i64 0, .string { data := #[] }, .string { data := #[] }, .slice none 0 0, .int .i64 0, .bool false, .bool false, .int .i64 0, .bool false] by rw [hW]; exact Blk.new (w.alloc (.cells #[.int .i64 (m : Int), .string (bstr a), .string (bstr b), .slice da dl dc, .int .i64 (s : Int), .bool dn, .bool tl, .int .i64 (af : Int), .bool dd] 29)) 29 [.int .i64 0, .string { data := #[] }, .string { data := #[] }, .slice none 0 0, .int .i64 0, .bool false, .bool false, .int .i64 0, .bool false] (w.heap.size + 1) (by simp))
    have DW := Lib.hid (HD.out.below BW.out)
    rw [← hW]
    clear hW
    have k3 := KA.out.drew
    have x3 := k3.cell 1 _ rfl
    have y3 := k3.cell 2 _ rfl
    have fx3 := k3.free 1
    have fy3 := k3.free 2
    have K3 := Lib.hid k3
    go_region_with (first
      | (go_at_call 49; (with_reducible refine (HLA.out _).mono ?_); rintro e w4 ⟨rfl, hb4⟩; have k4 := K3.out.below hb4 K3.out.lt; have x4 := k4.cell 1 _ rfl; have y4 := k4.cell 2 _ rfl; have fx4 := k4.free 1; have fy4 := k4.free 2; have K4 := Lib.hid k4; have B4 := Lib.hid (show Below W.heap.size W w4 from ⟨hb4.os, hb4.tape, hb4.output, hb4.size, hb4.block⟩); clear hb4 k4)
      | (go_at_call 49; (with_reducible refine (HLB.out _).mono ?_); rintro e w5 ⟨rfl, hb5⟩; have k5 := K4.out.below hb5 K4.out.lt; have x5 := k5.cell 1 _ rfl; have y5 := k5.cell 2 _ rfl; have fx5 := k5.free 1; have fy5 := k5.free 2; have K5 := Lib.hid k5; have B5 := Lib.hid (B4.out.on hb5); clear hb5 k5))
    all_goals (
      obtain ⟨w7, hw7⟩ : ∃ W', W' = (w5.setCell ⟨w.heap.size, 1, none⟩ (.string (bstr X))).setCell ⟨w.heap.size, 2, none⟩ (.string (bstr Y)) := ⟨_, rfl⟩
      have g57 : w5.grownBy w7 (some w.heap.size) := by rw [hw7]; exact only_set (grownBy_cell w5 w.heap.size 1 (.string (bstr X))) (p := ⟨w.heap.size, 2, none⟩) (.inl rfl) _
      have KA7 := Lib.hid (show Blk w7 w.heap.size 29 [.int .i64 (m : Int), .string (bstr X), .string (bstr Y), .slice da dl dc, .int .i64 (s : Int), .bool dn, .bool tl, .int .i64 (af : Int), .bool dd] by rw [hw7]; exact (K5.out.set 1 _).set 2 _)
      have KB7 := Lib.hid ((KB.out.below B5.out KB.out.lt).grown g57 (fun e => by have := Option.some.inj e; omega))
      have BW7 := Lib.hid ((BW.out.on B5.out).grown g57 (BW.out.on B5.out).size (fun k hk => by have : w.heap.size = k := Option.some.inj hk; omega))
      have D7 := Lib.hid ((DW.out.below B5.out).grown g57 (.inr fun e => by have := HD.out.lt _ e; omega))
      rw [← hw7]
      clear hw7 g57 x5 y5 fx5 fy5
      go_wp2_with (first
        | (refine wpList_load_mid rfl 29 (.tmp 3) rfl (w.heap.size) 0 rfl [.int .i64 (m : Int), .string (bstr X), .string (bstr Y), .slice da dl dc, .int .i64 (s : Int), .bool dn, .bool tl, .int .i64 (af : Int), .bool dd] _ KA7.out.range Try.underlying29 rfl infoRd ?_)
        | (refine wpList_store_blk rfl 29 (.tmp 6) (.tmp 38) rfl (w.heap.size + 1) 0 [.int .i64 (m : Int), .string (bstr X), .string (bstr Y), .slice da dl dc, .int .i64 (s : Int), .bool dn, .bool tl, .int .i64 (af : Int), .bool dd] rfl rfl 29 _ KB7.out (by simp) infoRd (by simp [Value.oneCell']) ?_; intro w8 k8 g8; have K8 := Lib.hid (k8.dev rfl); have D8 := Lib.hid (D7.out.grown g8 (.inr fun e => by have := HD.out.lt _ e; omega)); have B8 := Lib.hid (BW7.out.grown g8 BW7.out.size (fun k hk => by have : w.heap.size + 1 = k := Option.some.inj hk; omega)); clear k8 g8))
      exact bodyPost_ret (results_mid rfl _ _ (w.heap.size + 1) [.int .i64 (m : Int), .string (bstr X), .string (bstr Y), .slice da dl dc, .int .i64 (s : Int), .bool dn, .bool tl, .int .i64 (af : Int), .bool dd] _ rfl K8.out.range Try.underlying29 rfl infoRd) rfl ⟨da, dl, dc, rfl, D8.out, B8.out, fun g hg => .inl hg⟩)
end Go.Proofs.Ytipdcocliefppaa

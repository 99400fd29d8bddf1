/- What is laid of a geometry, by the document's answer: contract. Own work. -/
import Derived.Test.YtflegnlldidmaaaDoorSuM
import Derived.Test.YtflegnlldidmaaaDoorSuB
import Derived.Test.YtflegnlldidmaaaDoorFactsW
import Derived.Test.YtflegnlldidmaaaDoorTwoApp
import Derived.Test.YtflegnlldidmaaaDoorAppFull
import Derived.Test.YtflegnlldidmaaaDoorOct
import Derived.Test.YtflegnlldidmaaaDoorRdConst
import Derived.Lib.SlBytesConst
namespace Go.Proofs.YtflegnlldidmaaaDoor
open Go.ChangeShapes Go.WideShapes Go.ChangeAt Go.RowKit
open SU
set_option maxHeartbeats 400000 in
theorem rsuput_no (C P : Int) (h : may C P = false) (w : World) : Calls Tryd.prog 7 #[.agg #[.int .i64 C, .int .i64 P]] w fun e w' => e = .returned (.tuple #[.slice none 0 0, .int .i64 2]) ∧ Below w.heap.size w w' := by
  have X1 := Lib.hid (Blk.new w 23 [.int .i64 C, .int .i64 P] _ rfl)
  have W1 := Lib.hid ((Below.refl w.heap.size w).alloc (Nat.le_refl _) (.cells [Value.int .i64 C, .int .i64 P].toArray 23))
  have HM := Lib.hid (fun W => rsumay_any C P W)
  rw [h] at HM
  clear h
  go_enter Tryd.func7, Tryd.ntmps7
  go_wp2_with (first
    | (refine wpList_load_mid rfl 23 (.tmp 1) rfl w.heap.size 0 rfl [.int .i64 C, .int .i64 P] _ X1.out.range Tryd.underlying23 rfl infoGeo ?_)
    | (go_at_call 20; (with_reducible refine (HM.out _).mono ?_); rintro e w2 ⟨rfl, b2⟩; have W2 := Lib.hid (W1.out.on b2); clear b2))
  go_ret2
  exact ⟨rfl, W2.out⟩
set_option maxRecDepth 100000 in
set_option maxHeartbeats 1000000 in
theorem rsuput_ok (c p : Nat) (h : 1 ≤ c ∧ c ≤ 64 ∧ 1 ≤ p ∧ p ≤ 2) (w : World) : Calls Tryd.prog 7 #[.agg #[.int .i64 (c : Int), .int .i64 (p : Int)]] w fun e w' => ∃ v, e = .returned (.tuple #[v, .int .i64 0]) ∧ Own w' w.heap.size v (laid c p) ∧ Below w.heap.size w w' := by
  have X1 := Lib.hid (Blk.new w 23 [.int .i64 (c : Int), .int .i64 (p : Int)] _ rfl)
  have W1 := Lib.hid ((Below.refl w.heap.size w).alloc (Nat.le_refl _) (.cells [Value.int .i64 (c : Int), .int .i64 (p : Int)].toArray 23))
  have HM := Lib.hid (fun W => rsumay_any c p W)
  rw [may_iff.2 (by omega)] at HM
  have ac : IntKind.u64.wrap (c : Int) = (c : Int) := by rw [IntKind.wrap_u64]; omega
  have ap : IntKind.u8.wrap (p : Int) = (p : Int) := by rw [IntKind.wrap_u8]; omega
  have HNUM := Lib.hid (fun W => (show Calls Tryd.prog 21 #[.int .u64 (c : Int), .int .i64 2] W fun e w' => ∃ v, e = .returned v ∧ Own w' W.heap.size v (be c 2) ∧ Below W.heap.size W w' from rput_any c 2 (by omega) (by decide) W))
  have P256 := Lib.hid (show ∀ k, gb [p] k < 256 from fun k => by cases k with | zero => show p < 256; omega | succ k => exact Nat.zero_lt_succ _)
  have HRAW := Lib.hid (show head9 ++ [1] ++ be c 2 ++ [p] = raw c p from rfl)
  have kc := fun (w : World) (C : Array Value) (n c : Nat) => Lib.run_convert_bytes_const (P := Tryd.prog) w 24 5 C n c Tryd.underlying24 Tryd.underlying5
  clear h
  go_enter Tryd.func7, Tryd.ntmps7
  go_upto_region 4 with (first
    | (refine wpList_load_mid rfl 23 (.tmp 1) rfl w.heap.size 0 rfl [.int .i64 (c : Int), .int .i64 (p : Int)] _ X1.out.range Tryd.underlying23 rfl infoGeo ?_)
    | (go_at_call 20; (with_reducible refine (HM.out _).mono ?_); rintro e w2 ⟨rfl, b2⟩; have W2 := Lib.hid (W1.out.on b2); have X2 := Lib.hid (X1.out.below b2 X1.out.lt); clear b2)
    | (refine wpList_app_full rfl (.tmp 9) (.tmp 10) rfl ⟨w2.heap.size, 0, none⟩ 9 (.slice (some ⟨w2.heap.size + 1, 0, none⟩) 1 1) head9 [1] rfl rfl rfl ((rd_const w2 head9 (small_bytes (by decide)) (by decide) 9 rfl _ rfl (9, 10)).alloc _) (own_new _ [1] (small_bytes (by decide)) (by decide) (by simp) (Nat.le_refl _)).rd (by decide) (by decide) ?_; intro v3 w3 o3 b3; have b4 := (((Below.refl w2.heap.size w2).alloc (Nat.le_refl _) (.cells (row8 head9).toArray 5 (9, 10))).alloc (by simp) (.cells (row8 [1]).toArray 5)).trans (b3.mono (by simp; omega)); have W3 := Lib.hid (W2.out.on b4); have X3 := Lib.hid (X2.out.below b4 X2.out.lt); have O3 := Lib.hid (o3.lower (b' := w.heap.size + 1) (by have := X2.out.lt; simp; omega)); clear o3 b3 b4))
  obtain ⟨oa, oc, rfl, _⟩ := O3.out.rd.shape
  have O3' := Lib.hid (show Own w3 (w.heap.size + 1) (.slice oa 10 oc) (head9 ++ [1]) from O3.out)
  have O3 := O3'
  clear O3'
  rw [show (head9 ++ [1] : List Nat).length = 10 from rfl]
  obtain ⟨w1, hw1⟩ : ∃ x, x = w3.drew := ⟨_, rfl⟩
  have HW1 := Lib.hid hw1
  have OW1 := Lib.hid (show Own w1 (w.heap.size + 1) (.slice oa 10 oc) (head9 ++ [1]) by rw [hw1]; exact O3.out.drew)
  have XB1 := Lib.hid (show Blk w1 w.heap.size 23 [.int .i64 (c : Int), .int .i64 (p : Int)] by rw [hw1]; exact X3.out.drew)
  have WB1 := Lib.hid (show Below w.heap.size w w1 by rw [hw1]; exact W3.out.on (Below.refl _ _).drew)
  have HBB := Lib.hid (show w.heap.size + 1 ≤ w1.heap.size by have := XB1.out.lt; omega)
  have HOLD := Lib.hid (fun g (hg : (Value.slice oa 10 oc).ownBlock = some g) => (OW1.out.from g hg).2)
  have HNX := Lib.hid (show some w.heap.size ≠ (Value.slice oa 10 oc).ownBlock from fun e => by
    have h := (O3.out.from w.heap.size e.symm).1
    omega)
  clear hw1
  refine wp_region_w (by kernel_rfl) [4, 5, 9, 10] (by kernel_rfl) (by kernel_rfl) (TwoA 4 5 9 10 w1 (w.heap.size + 1) (.slice oa 10 oc) (head9 ++ [1]) (be c 2) [p]) [.pre (.slice oa 10 oc), .pre (.pointer (some ⟨w.heap.size, 0, none⟩)), .pre (.int .i64 (c : Int)), .pre (.int .u64 (c : Int)), .of 4 (fun u v => v = u), .of 5 (fun u v => v = u), .pre (.pointer (some ⟨w.heap.size, 1, none⟩)), .pre (.int .i64 (p : Int)), .pre (.int .u8 (p : Int)), .of 9 (fun u v => v = u), .of 10 (fun u v => v = u), .of 10 (fun u v => v = u)] (fun i hi hq => by
      simp only [List.mem_cons, List.mem_nil_iff, or_false] at hi
      rcases hi with rfl | rfl | rfl | rfl
      · exact absurd hq (by decide +kernel)
      · exact absurd hq (by decide +kernel)
      · exact absurd hq (by decide +kernel)
      · exact absurd hq (by decide +kernel)) (TwoA.zero (show _ = w1 from HW1.out.symm) OW1.out) ?_ ?_
  · refine ⟨?_, ?_, ?_, ?_, ?_, ?_, ?_, ?_, ?_, ?_, ?_, ?_, trivial⟩
    · intro a w5 r hF hI hns hri h1 h2 hd
      have e4 : a.eval (.tmp 4) = .slice oa 10 oc := hF 4 (by decide +kernel)
      exact doesZ_read (v := .slice oa 10 oc) (by decide) rfl (ex_move rfl e4) hI rfl
    · intro a w5 r hF hI hns hri h1 h2 hd
      have e1 : a.eval (.tmp 1) = .pointer (some ⟨w.heap.size, 0, none⟩) := hF 1 (by decide +kernel)
      exact doesZ_read (v := .pointer (some ⟨w.heap.size, 0, none⟩)) (by decide) rfl (by unfold execOp; simp only [e1]; go_simp) hI rfl
    · intro a w5 r hF hI hns hri h1 h2 hd
      have e13 : a.eval (.tmp 13) = .pointer (some ⟨w.heap.size, 0, none⟩) := hd 1 (by decide +kernel)
      have c0 := (XB1.out.grown hI.grow HNX.out).cell 0 _ rfl
      exact doesZ_read (v := .int .i64 (c : Int)) (by decide) rfl (by unfold execOp; simp only [e13]; go_simp) hI rfl
    · intro a w5 r hF hI hns hri h1 h2 hd
      have e14 : a.eval (.tmp 14) = .int .i64 (c : Int) := hd 2 (by decide +kernel)
      exact doesZ_read (v := .int .u64 (c : Int)) (by decide) rfl (ex_convert rfl e14 (by go_simp)) hI rfl
    · intro a w5 r hF hI hns hri h1 h2 hd
      have e15 : a.eval (.tmp 15) = .int .u64 (c : Int) := hd 3 (by decide +kernel)
      have h5 := h1 5 (by decide) (by decide +kernel)
      have h10 := h1 10 (by decide) (by decide +kernel)
      exact doesZ_call (by decide) rfl (ex_call (vs := #[.int .u64 (c : Int), .int .i64 2]) rfl (by simp only [List.map_toArray, List.map_cons, List.map_nil, e15]; rfl) (by go_simp)) ((HNUM.out w5).mono fun e w6 hh => by obtain ⟨v, he, ho, hb⟩ := hh; exact ⟨v, he, hI.make1 (by decide) h5 h10 ho hb, v, Told.set_same _ _ _, rfl⟩)
    · intro a w5 r hF hI hns hri h1 h2 hd
      have e12 : a.eval (.tmp 12) = .slice oa 10 oc := hd 0 (by decide +kernel)
      obtain ⟨u16, hu16, e16⟩ : ∃ u, r 4 = some u ∧ a.eval (.tmp 16) = u := hd 4 (by decide +kernel)
      have h10 := h1 10 (by decide) (by decide +kernel)
      exact doesZ_app8 (by decide) rfl (.tmp 12) (.tmp 16) rfl (w.heap.size + 1) (.slice oa 10 oc) u16 (head9 ++ [1]) (be c 2) e12 e16 (hI.out0 hri) (hI.one u16 hu16 hri).1 (by rw [be_len]; decide) (Nat.le_trans HBB.out hI.grow.size) (fun v' w' o' g' k' => ⟨hI.first (by decide) h10 HOLD.out o' g' k', _, Told.set_same _ _ _, rfl⟩)
    · intro a w5 r hF hI hns hri h1 h2 hd
      have e1 : a.eval (.tmp 1) = .pointer (some ⟨w.heap.size, 0, none⟩) := hF 1 (by decide +kernel)
      exact doesZ_read (v := .pointer (some ⟨w.heap.size, 1, none⟩)) (by decide) rfl (by unfold execOp; simp only [e1]; go_simp) hI rfl
    · intro a w5 r hF hI hns hri h1 h2 hd
      have e18 : a.eval (.tmp 18) = .pointer (some ⟨w.heap.size, 1, none⟩) := hd 6 (by decide +kernel)
      have c1 := (XB1.out.grown hI.grow HNX.out).cell 1 _ rfl
      exact doesZ_read (v := .int .i64 (p : Int)) (by decide) rfl (by unfold execOp; simp only [e18]; go_simp) hI rfl
    · intro a w5 r hF hI hns hri h1 h2 hd
      have e19 : a.eval (.tmp 19) = .int .i64 (p : Int) := hd 7 (by decide +kernel)
      exact doesZ_read (v := .int .u8 (p : Int)) (by decide) rfl (ex_convert rfl e19 (by go_simp)) hI rfl
    · intro a w5 r hF hI hns hri h1 h2 hd
      have e20 : a.eval (.tmp 20) = .int .u8 (p : Int) := hd 8 (by decide +kernel)
      have h10 := h1 10 (by decide) (by decide +kernel)
      refine doesZ_byte (by decide) rfl (.tmp 20) rfl p e20 ⟨hI.make2 (by decide) h10 (own_new w5 [p] P256.out (by simp) rfl (Nat.le_refl _)) ((Below.refl _ _).alloc (Nat.le_refl _) _), _, Told.set_same _ _ _, rfl⟩
    · intro a w5 r hF hI hns hri h1 h2 hd
      obtain ⟨u17, hu17, e17⟩ : ∃ u, r 5 = some u ∧ a.eval (.tmp 17) = u := hd 5 (by decide +kernel)
      obtain ⟨u21, hu21, e21⟩ : ∃ u, r 9 = some u ∧ a.eval (.tmp 21) = u := hd 9 (by decide +kernel)
      exact doesZ_app8 (by decide) rfl (.tmp 17) (.tmp 21) rfl (w.heap.size + 1) u17 u21 (head9 ++ [1] ++ be c 2) [p] e17 e21 (hI.out1 u17 hu17 hri).own (hI.two u21 hu21 hri).1 (by rw [List.length_append, be_len]; simp; decide) (Nat.le_trans HBB.out hI.grow.size) (fun v' w' o' g' k' => ⟨hI.second (by decide) hu17 hri o' g' k', _, Told.set_same _ _ _, rfl⟩)
    · intro a w5 r hF hI hns hri h1 h2 hd
      obtain ⟨u22, hu22, e22⟩ : ∃ u, r 10 = some u ∧ a.eval (.tmp 22) = u := hd 10 (by decide +kernel)
      exact doesZ_read (by decide) rfl (ex_assign rfl e22) hI ⟨u22, hu22, rfl⟩
  · intro vs r w5 hI hS hvs
    obtain ⟨u, hu⟩ := hS 10 (by decide)
    obtain ⟨v3, hv3, e3⟩ : ∃ u, r 10 = some u ∧ vs 11 = u := hvs 11 (by decide)
    obtain rfl := Option.some.inj (hu.symm.trans hv3)
    have G5 := Lib.hid (hI.out2 u hu)
    have O5 := Lib.hid (show Own w5 (w.heap.size + 1) u (raw c p) from by rw [← HRAW.out]; exact G5.out.own)
    have WB5 := Lib.hid (WB1.out.grown G5.out.grow WB1.out.size (fun g hg => by have := (OW1.out.from g hg).1; omega))
    clear hI hS hvs hu hv3
    obtain ⟨oa2, oc2, rfl, _⟩ := O5.out.rd.shape
    rw [raw_len] at e3 O5
    simp only [putOps, Act.put, List.setIfInBounds_toArray, List.set_cons_zero, List.set_cons_succ, e3]
    clear e3
    go_wp2_with (refine wpList_app0 rfl (.tmp 23) (.tmp 26) rfl (w.heap.size + 1) (.slice oa2 13 oc2) (raw c p) 499 rfl rfl O5.out (by rw [raw_len]; decide) (Nat.le_trans HBB.out G5.out.grow.size) ?_; intro v6 w6 o6 g6 k6; have O6 := Lib.hid (show Own w6 (w.heap.size + 1) v6 (laid c p) by unfold laid padTo; rw [raw_len]; exact o6); have W6 := Lib.hid (WB5.out.grown g6 WB5.out.size (fun g hg => by have := (O5.out.from g hg).1; omega)); clear o6 g6 k6)
    go_ret2
    exact ⟨_, rfl, O6.out.lower (Nat.le_succ _), W6.out⟩
theorem rsuput_any (C P : Int) (w : World) : Calls Tryd.prog 7 #[.agg #[.int .i64 C, .int .i64 P]] w fun e w' => ∃ v, e = .returned (.tuple #[v, .int .i64 (perr C P)]) ∧ Own w' w.heap.size v (put C P) ∧ Below w.heap.size w w' := by
  cases hm : may C P with
  | true =>
    obtain ⟨c, p, rfl, rfl, h⟩ := may_nat hm
    rw [(put_yes hm).1, (put_yes hm).2]
    exact rsuput_ok c p h w
  | false =>
    rw [(put_no hm).1, (put_no hm).2]
    exact (rsuput_no C P hm w).mono fun e w' hh => ⟨_, hh.1, (own_nil w').lower hh.2.size, hh.2⟩
end Go.Proofs.YtflegnlldidmaaaDoor

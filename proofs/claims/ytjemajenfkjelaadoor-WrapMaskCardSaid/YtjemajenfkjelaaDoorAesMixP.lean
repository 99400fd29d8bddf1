/- The program's mixed columns, and the way back as three times more: contracts. Own work. -/
import Derived.Test.YtjemajenfkjelaaDoorAesStep
import Derived.Test.YtjemajenfkjelaaDoorAesEnc
import Derived.Test.YtjemajenfkjelaaDoorReg
namespace Go.Proofs.YtjemajenfkjelaaDoor
open Go.ChangeShapes Go.WideShapes Go.ChangeAt Go.RowKit
open AM FM
namespace AM
theorem mix_said (a b c d S : Nat) (hb : b < 256) (h : S = a ^^^ b ^^^ c ^^^ d) : a ^^^ (S ^^^ mul 2 (a ^^^ b)) = mul 2 a ^^^ mul 3 b ^^^ c ^^^ d := by
  rw [h, mul_xor_right, ← mul_three b hb]
  generalize mul 2 a = x
  generalize mul 2 b = y
  calc _ = (a ^^^ a) ^^^ (x ^^^ (y ^^^ b) ^^^ c ^^^ d) := by ac_rfl
    _ = _ := by rw [Nat.xor_self, Nat.zero_xor]
theorem mx_mx (t : List Nat) (ht : Bytes 16 t) : mx (mx t) = row fun i => mul 5 (at_ t i 0) ^^^ mul 4 (at_ t i 2) :=
  bytes_ext (n := 16) (row_len _) (row_len _) fun k hk => by
    have ex : ∀ t, mx t = row (mxE t) := fun _ => rfl
    rw [ex (mx t), row_get _ _ hk, row_get _ _ hk]
    unfold mxE
    rw [ex t, at_row _ _ _ hk, at_row _ _ _ hk, at_row _ _ _ hk, at_row _ _ _ hk]
    unfold mxE
    simp only [at_at, Nat.reduceAdd, Nat.reduceMod]
    have b0 := at_lt ht k 0
    have b1 := at_lt ht k 1
    have b2 := at_lt ht k 2
    have b3 := at_lt ht k 3
    generalize at_ t k 0 = a at *
    generalize at_ t k 1 = b at *
    generalize at_ t k 2 = c at *
    generalize at_ t k 3 = d at *
    simp only [mul_xor_right]
    rw [mm 2 2 a (by omega) (by omega) b0, mm 2 3 b (by omega) (by omega) b1, mm 3 2 b (by omega) (by omega) b1, mm 3 3 c (by omega) (by omega) b2]
    have e0 := four (mul 2 2) 1 0 0 5 a (by decide +kernel)
    have e1 := four (mul 2 3) (mul 3 2) 0 0 0 b (by decide +kernel)
    have e2 := four 2 (mul 3 3) 2 1 4 c (by decide +kernel)
    rw [one_mul a b0, mul_zero_left] at e0
    rw [mul_zero_left, Nat.xor_zero, Nat.xor_zero] at e1
    rw [one_mul c b2] at e2
    rw [← e0, ← e2]
    generalize mul (mul 2 2) a = x1 at *
    generalize mul (mul 2 3) b = x2 at *
    generalize mul (mul 3 2) b = x3 at *
    generalize mul (mul 3 3) c = x4 at *
    generalize mul 2 c = x5 at *
    generalize mul 2 d = x6 at *
    generalize mul 3 d = x7 at *
    generalize mul 3 a = x8 at *
    calc _ = (x1 ^^^ a) ^^^ (x5 ^^^ x4 ^^^ x5 ^^^ c) ^^^ (x2 ^^^ x3) ^^^ (b ^^^ b) ^^^ (x6 ^^^ x6) ^^^ (x7 ^^^ x7) ^^^ (x8 ^^^ x8) := by ac_rfl
      _ = _ := by rw [e1]; simp only [Nat.xor_self, Nat.xor_zero]
theorem mx_four {t : List Nat} (ht : Bytes 16 t) : mx (mx (mx (mx t))) = t :=
  bytes_ext (n := 16) (row_len _) ht.1 fun k hk => by
    rw [mx_mx (mx (mx t)) (mx_bytes (mx_bytes ht)), mx_mx t ht, row_get _ _ hk, at_row _ _ _ hk, at_row _ _ _ hk]
    simp only [at_at, Nat.reduceAdd, Nat.reduceMod]
    have b0 := at_lt ht k 0
    have b2 := at_lt ht k 2
    rw [← at_zero t k]
    generalize at_ t k 0 = a at *
    generalize at_ t k 2 = c at *
    simp only [mul_xor_right]
    rw [mm 5 5 a (by omega) (by omega) b0, mm 5 4 c (by omega) (by omega) b2, mm 4 5 c (by omega) (by omega) b2, mm 4 4 a (by omega) (by omega) b0]
    have e0 := four (mul 5 5) (mul 4 4) 0 0 1 a (by decide +kernel)
    have e1 := four (mul 5 4) (mul 4 5) 0 0 0 c (by decide +kernel)
    rw [one_mul a b0, mul_zero_left, Nat.xor_zero, Nat.xor_zero] at e0
    rw [mul_zero_left, Nat.xor_zero, Nat.xor_zero] at e1
    calc _ = (mul (mul 5 5) a ^^^ mul (mul 4 4) a) ^^^ (mul (mul 5 4) c ^^^ mul (mul 4 5) c) := by ac_rfl
      _ = _ := by rw [e0, e1, Nat.xor_zero]
theorem imx_said {t : List Nat} (ht : Bytes 16 t) : mx (mx (mx t)) = imx t := by
  have h := imx_mx (mx_bytes (mx_bytes (mx_bytes ht)))
  rw [mx_four ht] at h
  exact h.symm
end AM
set_option maxRecDepth 100000 in
set_option maxHeartbeats 4000000 in
theorem mixed_any (t : List Nat) (ht : Bytes 16 t) (w : World) :
    Calls Tryd.prog 34 #[.agg (row8 t).toArray] w fun e w' => e = .returned (.agg (row8 (mx t)).toArray) ∧ Below w.heap.size w w' := by
  obtain ⟨C0, hC0⟩ : ∃ C0, C0 = row8 (List.replicate 16 0) := ⟨_, rfl⟩
  have hz : ∀ w, (zeroValue 47).run Tryd.prog w = .ok (.agg C0.toArray) w := by rw [hC0]; exact zero16
  have hc0 : C0.length = 16 := by rw [hC0, row8_len, List.length_replicate]
  have w1 := (Below.refl w.heap.size w).alloc (Nat.le_refl _) (.cells (row8 t).toArray 47)
  have w2 := w1.alloc w1.size (.cells C0.toArray 47)
  have N0 := Lib.hid ((Blk.new w 47 (row8 t) _ rfl).alloc (.cells C0.toArray 47))
  have N1 := Lib.hid (Blk.new (w.alloc (.cells (row8 t).toArray 47)) 47 C0 (w.heap.size + 1) (by simp))
  have W2 := Lib.hid w2
  have HT := Lib.hid ht
  obtain ⟨M, hM⟩ : ∃ M, M = mx t := ⟨_, rfl⟩
  rw [← hM]
  have HM := Lib.hid hM
  have M16 := Lib.hid (show (row8 M).length = 16 by rw [hM, row8_len]; exact row_len _)
  clear hC0 w1 w2 ht hM
  go_enter Tryd.func34, Tryd.ntmps34
  go_wp2_with fail
  go_loopw [10] (fun i wr => ∃ c : Nat, c ≤ 4 ∧ i = .int .i64 (c : Int) ∧ Blk wr w.heap.size 47 (row8 (mxTo t (4 * c))) ∧ Blk wr (w.heap.size + 1) 47 C0 ∧ Below w.heap.size w wr) (fun i _ => 4 - (intOf i).toNat)
  case atStart => exact ⟨0, Nat.zero_le _, rfl, by rw [Nat.mul_zero, mxTo_zero HT.out.1]; exact N0.out, N1.out, W2.out⟩
  case round =>
    clear N0 N1 W2
    obtain ⟨c, hc, rfl, b0, b1, bb⟩ := hrel
    by_cases hlt : c < 4
    · obtain ⟨q, hq⟩ : ∃ q, q = 4 * c := ⟨_, rfl⟩
      have hqI : 4 * (c : Int) = (q : Int) := by omega
      have hq16 : q < 16 := by omega
      rw [← hq] at b0
      have go : ∀ j n, q ≤ n → n ≤ q + j → j < 4 → gb (mxTo t n) (q + j) = gb t (q + j) := fun j n h1 h2 h3 => by rw [mxTo_get _ _ _ (by omega), if_neg (by omega)]
      obtain ⟨y0, hy0⟩ : ∃ y, y = gb t q := ⟨_, rfl⟩
      obtain ⟨y1, hy1⟩ : ∃ y, y = gb t (q + 1) := ⟨_, rfl⟩
      obtain ⟨y2, hy2⟩ : ∃ y, y = gb t (q + 2) := ⟨_, rfl⟩
      obtain ⟨y3, hy3⟩ : ∃ y, y = gb t (q + 3) := ⟨_, rfl⟩
      have l0 : y0 < 256 := by rw [hy0]; exact HT.out.2 _
      have l1 : y1 < 256 := by rw [hy1]; exact HT.out.2 _
      have l2 : y2 < 256 := by rw [hy2]; exact HT.out.2 _
      have l3 : y3 < 256 := by rw [hy3]; exact HT.out.2 _
      have vat : ∀ j n, q ≤ n → n ≤ q + j → j < 4 → (row8 (mxTo t n))[q + j]? = some (.int .u8 ((gb t (q + j) : Nat) : Int)) := fun j n h1 h2 h3 => by
        rw [row8_val _ _ (by rw [mxTo_len]; omega), go j n h1 h2 h3]
      have d0 := b0.cell q _ (vat 0 q (by omega) (by omega) (by omega))
      have d1 := b0.cell (q + 1) _ (vat 1 q (by omega) (by omega) (by omega))
      have d2 := b0.cell (q + 2) _ (vat 2 q (by omega) (by omega) (by omega))
      have d3 := b0.cell (q + 3) _ (vat 3 q (by omega) (by omega) (by omega))
      rw [Nat.add_zero, ← hy0] at d0
      rw [← hy1] at d1
      rw [← hy2] at d2
      rw [← hy3] at d3
      have HC0 := Lib.hid (show (row8 (mxTo t q))[q]? = some (.int .u8 (y0 : Int)) by rw [hy0]; exact vat 0 q (by omega) (by omega) (by omega))
      have HC1 := Lib.hid (show (row8 (mxTo t (q + 1)))[q + 1]? = some (.int .u8 (y1 : Int)) by rw [hy1]; exact vat 1 (q + 1) (by omega) (by omega) (by omega))
      have HC2 := Lib.hid (show (row8 (mxTo t (q + 2)))[q + 2]? = some (.int .u8 (y2 : Int)) by rw [hy2]; exact vat 2 (q + 2) (by omega) (by omega) (by omega))
      have HC3 := Lib.hid (show (row8 (mxTo t (q + 3)))[q + 3]? = some (.int .u8 (y3 : Int)) by rw [hy3]; exact vat 3 (q + 3) (by omega) (by omega) (by omega))
      obtain ⟨S, hS⟩ : ∃ S, S = y0 ^^^ y1 ^^^ y2 ^^^ y3 := ⟨_, rfl⟩
      have lS : S < 256 := by rw [hS]; exact lt_of_xor (lt_of_xor (lt_of_xor l0 l1) l2) l3
      have x1 := u8_xor_nat y0 y1 l0 l1
      have x2 := u8_xor_nat (y0 ^^^ y1) y2 (lt_of_xor l0 l1) l2
      have x3 := u8_xor_nat (y0 ^^^ y1 ^^^ y2) y3 (lt_of_xor (lt_of_xor l0 l1) l2) l3
      rw [← hS] at x3
      have at4 : ∀ r j, r < 4 → at_ t (q + r) j = gb t (q + (r + j) % 4) := fun r j h => by
        unfold at_; congr 1; omega
      have HM0 := Lib.hid (show (mxTo t q).set q (y0 ^^^ (S ^^^ mul 2 (y0 ^^^ y1))) = mxTo t (q + 1) by
        rw [mix_said y0 y1 y2 y3 S l1 hS, hy0, hy1, hy2, hy3, ← mxTo_step t q (by omega)]; unfold mxE; rw [show at_ t q 0 = _ from at4 0 0 (by omega), show at_ t q 1 = _ from at4 0 1 (by omega), show at_ t q 2 = _ from at4 0 2 (by omega), show at_ t q 3 = _ from at4 0 3 (by omega)]; rfl)
      have HM1 := Lib.hid (show (mxTo t (q + 1)).set (q + 1) (y1 ^^^ (S ^^^ mul 2 (y1 ^^^ y2))) = mxTo t (q + 1 + 1) by
        rw [mix_said y1 y2 y3 y0 S l2 (by rw [hS]; ac_rfl), hy0, hy1, hy2, hy3, ← mxTo_step t (q + 1) (by omega)]; unfold mxE; rw [at4 1 0 (by omega), at4 1 1 (by omega), at4 1 2 (by omega), at4 1 3 (by omega)]; rfl)
      have HM2 := Lib.hid (show (mxTo t (q + 2)).set (q + 2) (y2 ^^^ (S ^^^ mul 2 (y2 ^^^ y3))) = mxTo t (q + 2 + 1) by
        rw [mix_said y2 y3 y0 y1 S l3 (by rw [hS]; ac_rfl), hy0, hy1, hy2, hy3, ← mxTo_step t (q + 2) (by omega)]; unfold mxE; rw [at4 2 0 (by omega), at4 2 1 (by omega), at4 2 2 (by omega), at4 2 3 (by omega)]; rfl)
      have HM3 := Lib.hid (show (mxTo t (q + 3)).set (q + 3) (y3 ^^^ (S ^^^ mul 2 (y3 ^^^ y0))) = mxTo t (q + 3 + 1) by
        rw [mix_said y3 y0 y1 y2 S l0 (by rw [hS]; ac_rfl), hy0, hy1, hy2, hy3, ← mxTo_step t (q + 3) (by omega)]; unfold mxE; rw [at4 3 0 (by omega), at4 3 1 (by omega), at4 3 2 (by omega), at4 3 3 (by omega)]; rfl)
      have B0 := Lib.hid b0
      have B1 := Lib.hid b1
      have BB := Lib.hid bb
      have HQ := Lib.hid hq
      clear b0 b1 bb hS vat go at4 hy0 hy1 hy2 hy3 hq
      have z1 : ((q : Int) + 1).toNat = q + 1 := by omega
      have z2 : ((q : Int) + 2).toNat = q + 2 := by omega
      have z3 : ((q : Int) + 3).toNat = q + 3 := by omega
      have z4 : (0 : Int) ≤ (q : Int) + 1 := by omega
      have z5 : (0 : Int) ≤ (q : Int) + 2 := by omega
      have z6 : (0 : Int) ≤ (q : Int) + 3 := by omega
      have hq12 : q ≤ 12 := by have := HQ.out; omega
      have z0 : (q : Int) < 16 := by omega
      have z7 : (q : Int) + 1 < 16 := by omega
      have z8 : (q : Int) + 2 < 16 := by omega
      have z9 : (q : Int) + 3 < 16 := by omega
      go_upto_region 5 with (fail)
      go_big_quiet (fail)
      have N5 := Lib.hid (show Blk (wr.drewN nq) w.heap.size 47 (row8 (mxTo t q)) from B0.out)
      have R5 := Lib.hid (show Blk (wr.drewN nq) (w.heap.size + 1) 47 C0 from B1.out)
      have B5 := Lib.hid (below_dN BB.out nq)
      clear d0 d1 d2 d3 B0 B1 BB
      generalize wr.drewN nq = wd at *
      go_upto_region 7 with (fail)
      refine wp_region_g (by kernel_rfl) 11 (by decide) (by kernel_rfl) (by kernel_rfl) (by kernel_rfl) (wd.heap.size) (Nat.le_refl _) [.val (.int .i64 (q : Int)), .val (.pointer (some ⟨w.heap.size, q, none⟩)), .val (.int .u8 (y0 : Int)), .val (.int .u8 (S : Int)), .val (.int .u8 (y0 : Int)), .val (.int .u8 (y1 : Int)), .val (.int .u8 ((y0 ^^^ y1 : Nat) : Int)), .val (.int .u8 ((mul 2 (y0 ^^^ y1) : Nat) : Int)), .val (.int .u8 ((S ^^^ mul 2 (y0 ^^^ y1) : Nat) : Int)), .val (.int .u8 ((y0 ^^^ (S ^^^ mul 2 (y0 ^^^ y1)) : Nat) : Int)), .val (.pointer (some ⟨w.heap.size, q, none⟩))] (fun _ => 12) ?_ ?_
      · refine ⟨?_, ?_, ?_, ?_, ?_, ?_, ?_, ?_, ?_, ?_, ?_, trivial⟩
        · intro a w' hF hB hd
          have e4 : a.eval (.tmp 4) = .int .i64 (q : Int) := hF 4 (by decide +kernel)
          exact doesG_val rfl (ex_move rfl e4) rfl rfl
        · intro a w' hF hB hd
          have e1 : a.eval (.tmp 1) = .pointer (some ⟨w.heap.size, 0, none⟩) := hF 1 (by decide +kernel)
          have e37 : a.eval (.tmp 37) = .int .i64 (q : Int) := hd 0 (by decide +kernel) (.inr (by decide))
          exact doesG_val rfl (v := .pointer (some ⟨w.heap.size, q, none⟩)) (by unfold execOp; simp only [e1, e37]; go_simp) rfl rfl
        · intro a w' hF hB hd
          have e38 : a.eval (.tmp 38) = .pointer (some ⟨w.heap.size, q, none⟩) := hd 1 (by decide +kernel) (.inr (by decide))
          have c := (N5.out.below hB N5.out.lt).cell (q) (.int .u8 (y0 : Int)) HC0.out
          exact doesG_val rfl (v := .int .u8 (y0 : Int)) (by unfold execOp; simp only [e38]; go_simp) rfl rfl
        · intro a w' hF hB hd
          have e9 : a.eval (.tmp 9) = .int .u8 (S : Int) := hF 9 (by decide +kernel)
          exact doesG_val rfl (ex_move rfl e9) rfl rfl
        · intro a w' hF hB hd
          have e5 : a.eval (.tmp 5) = .int .u8 (y0 : Int) := hF 5 (by decide +kernel)
          exact doesG_val rfl (ex_move rfl e5) rfl rfl
        · intro a w' hF hB hd
          have e6 : a.eval (.tmp 6) = .int .u8 (y1 : Int) := hF 6 (by decide +kernel)
          exact doesG_val rfl (ex_move rfl e6) rfl rfl
        · intro a w' hF hB hd
          have e41 : a.eval (.tmp 41) = .int .u8 (y0 : Int) := hd 4 (by decide +kernel) (.inr (by decide))
          have e42 : a.eval (.tmp 42) = .int .u8 (y1 : Int) := hd 5 (by decide +kernel) (.inr (by decide))
          have hx := u8_xor_nat (y0) (y1) (l0) (l1)
          exact doesG_val rfl (v := .int .u8 ((y0 ^^^ y1 : Nat) : Int)) (by unfold execOp; simp only [e41, e42]; go_simp) rfl rfl
        · intro a w' hF hB hd
          have e43 : a.eval (.tmp 43) = .int .u8 ((y0 ^^^ y1 : Nat) : Int) := hd 6 (by decide +kernel) (.inr (by decide))
          exact doesG_call rfl (ex_call (vs := #[.int .u8 ((y0 ^^^ y1 : Nat) : Int)]) rfl (by simp only [List.map_toArray, List.map_cons, List.map_nil, e43]) (by go_simp)) rfl ((dbl_any (y0 ^^^ y1) (lt_of_xor l0 l1) w').mono fun e w2 hh => by obtain ⟨h1, rfl⟩ := hh; exact ⟨_, h1, rfl, Below.refl _ _⟩)
        · intro a w' hF hB hd
          have e40 : a.eval (.tmp 40) = .int .u8 (S : Int) := hd 3 (by decide +kernel) (.inr (by decide))
          have e44 : a.eval (.tmp 44) = .int .u8 ((mul 2 (y0 ^^^ y1) : Nat) : Int) := hd 7 (by decide +kernel) (.inr (by decide))
          have hx := u8_xor_nat (S) (mul 2 (y0 ^^^ y1)) (lS) (mul_lt 2 (y0 ^^^ y1) (by omega))
          exact doesG_val rfl (v := .int .u8 ((S ^^^ mul 2 (y0 ^^^ y1) : Nat) : Int)) (by unfold execOp; simp only [e40, e44]; go_simp) rfl rfl
        · intro a w' hF hB hd
          have e39 : a.eval (.tmp 39) = .int .u8 (y0 : Int) := hd 2 (by decide +kernel) (.inr (by decide))
          have e45 : a.eval (.tmp 45) = .int .u8 ((S ^^^ mul 2 (y0 ^^^ y1) : Nat) : Int) := hd 8 (by decide +kernel) (.inr (by decide))
          have hx := u8_xor_nat (y0) ((S ^^^ mul 2 (y0 ^^^ y1))) (l0) (lt_of_xor lS (mul_lt 2 (y0 ^^^ y1) (by omega)))
          exact doesG_val rfl (v := .int .u8 ((y0 ^^^ (S ^^^ mul 2 (y0 ^^^ y1)) : Nat) : Int)) (by unfold execOp; simp only [e39, e45]; go_simp) rfl rfl
        · intro a w' hF hB hd
          have e1 : a.eval (.tmp 1) = .pointer (some ⟨w.heap.size, 0, none⟩) := hF 1 (by decide +kernel)
          have e37 : a.eval (.tmp 37) = .int .i64 (q : Int) := hd 0 (by decide +kernel) (.inr (by decide))
          exact doesG_val rfl (v := .pointer (some ⟨w.heap.size, q, none⟩)) (by unfold execOp; simp only [e1, e37]; go_simp) rfl rfl
      · intro vs w6 hB hv hap
        have e46 : vs 9 = .int .u8 ((y0 ^^^ (S ^^^ mul 2 (y0 ^^^ y1)) : Nat) : Int) := hv 9 (by decide) (by decide)
        have e47 : vs 10 = .pointer (some ⟨w.heap.size, q, none⟩) := hv 10 (by decide) (by decide)
        simp only [List.take_succ_cons, List.take_zero, List.drop_succ_cons, List.drop_zero, putOps, Act.put, List.setIfInBounds_toArray, List.set_cons_zero, List.set_cons_succ, e46, e47]
        have c6 := (N5.out.below hB N5.out.lt).cell (q) (.int .u8 (y0 : Int)) HC0.out
        have f6 := (N5.out.below hB N5.out.lt).free (q)
        have N6 := Lib.hid ((N5.out.below hB N5.out.lt).set (q) (.int .u8 ((y0 ^^^ (S ^^^ mul 2 (y0 ^^^ y1)) : Nat) : Int)))
        have R6 := Lib.hid ((R5.out.below hB R5.out.lt).other ⟨w.heap.size, q, none⟩ (.int .u8 ((y0 ^^^ (S ^^^ mul 2 (y0 ^^^ y1)) : Nat) : Int)) (by simp <;> omega))
        have B6 := Lib.hid ((B5.out.on hB).setCell (p := ⟨w.heap.size, q, none⟩) (by simp <;> omega) (.int .u8 ((y0 ^^^ (S ^^^ mul 2 (y0 ^^^ y1)) : Nat) : Int)))
        clear hv hap e46 e47 hB
        generalize vs 0 = v0 at *
        generalize vs 1 = v1 at *
        generalize vs 2 = v2 at *
        generalize vs 3 = v3 at *
        generalize vs 4 = v4 at *
        generalize vs 5 = v5 at *
        generalize vs 6 = v6 at *
        generalize vs 7 = v7 at *
        generalize vs 8 = v8 at *
        go_upto_region 8 with (fail)
        rw [row8_set, HM0.out] at N6
        clear c6 f6 N5 R5 B5 
        generalize w6.setCell ⟨w.heap.size, q, none⟩ (.int .u8 ((y0 ^^^ (S ^^^ mul 2 (y0 ^^^ y1)) : Nat) : Int)) = wd at *
        have N5 := N6
        have R5 := R6
        have B5 := B6
        clear N6 R6 B6
        rename_i wd0
        refine wp_region_g (by kernel_rfl) 12 (by decide) (by kernel_rfl) (by kernel_rfl) (by kernel_rfl) (wd.heap.size) (Nat.le_refl _) [.val (.int .i64 (q : Int)), .val (.int .i64 ((q : Int) + 1)), .val (.pointer (some ⟨w.heap.size, q + 1, none⟩)), .val (.int .u8 (y1 : Int)), .val (.int .u8 (S : Int)), .val (.int .u8 (y1 : Int)), .val (.int .u8 (y2 : Int)), .val (.int .u8 ((y1 ^^^ y2 : Nat) : Int)), .val (.int .u8 ((mul 2 (y1 ^^^ y2) : Nat) : Int)), .val (.int .u8 ((S ^^^ mul 2 (y1 ^^^ y2) : Nat) : Int)), .val (.int .u8 ((y1 ^^^ (S ^^^ mul 2 (y1 ^^^ y2)) : Nat) : Int)), .val (.pointer (some ⟨w.heap.size, q + 1, none⟩))] (fun _ => 13) ?_ ?_
        · refine ⟨?_, ?_, ?_, ?_, ?_, ?_, ?_, ?_, ?_, ?_, ?_, ?_, trivial⟩
          · intro a w' hF hB hd
            have e4 : a.eval (.tmp 4) = .int .i64 (q : Int) := hF 4 (by decide +kernel)
            exact doesG_val rfl (ex_move rfl e4) rfl rfl
          · intro a w' hF hB hd
            have e48 : a.eval (.tmp 48) = .int .i64 (q : Int) := hd 0 (by decide +kernel) (.inr (by decide))
            exact doesG_val rfl (v := .int .i64 ((q : Int) + 1)) (by unfold execOp; simp only [e48]; go_simp; rw [IntKind.wrap_i64] <;> omega) rfl rfl
          · intro a w' hF hB hd
            have e1 : a.eval (.tmp 1) = .pointer (some ⟨w.heap.size, 0, none⟩) := hF 1 (by decide +kernel)
            have e49 : a.eval (.tmp 49) = .int .i64 ((q : Int) + 1) := hd 1 (by decide +kernel) (.inr (by decide))
            exact doesG_val rfl (v := .pointer (some ⟨w.heap.size, q + 1, none⟩)) (by unfold execOp; simp only [e1, e49]; go_simp) rfl rfl
          · intro a w' hF hB hd
            have e50 : a.eval (.tmp 50) = .pointer (some ⟨w.heap.size, q + 1, none⟩) := hd 2 (by decide +kernel) (.inr (by decide))
            have c := (N5.out.below hB N5.out.lt).cell (q + 1) (.int .u8 (y1 : Int)) HC1.out
            exact doesG_val rfl (v := .int .u8 (y1 : Int)) (by unfold execOp; simp only [e50]; go_simp) rfl rfl
          · intro a w' hF hB hd
            have e9 : a.eval (.tmp 9) = .int .u8 (S : Int) := hF 9 (by decide +kernel)
            exact doesG_val rfl (ex_move rfl e9) rfl rfl
          · intro a w' hF hB hd
            have e6 : a.eval (.tmp 6) = .int .u8 (y1 : Int) := hF 6 (by decide +kernel)
            exact doesG_val rfl (ex_move rfl e6) rfl rfl
          · intro a w' hF hB hd
            have e7 : a.eval (.tmp 7) = .int .u8 (y2 : Int) := hF 7 (by decide +kernel)
            exact doesG_val rfl (ex_move rfl e7) rfl rfl
          · intro a w' hF hB hd
            have e53 : a.eval (.tmp 53) = .int .u8 (y1 : Int) := hd 5 (by decide +kernel) (.inr (by decide))
            have e54 : a.eval (.tmp 54) = .int .u8 (y2 : Int) := hd 6 (by decide +kernel) (.inr (by decide))
            have hx := u8_xor_nat (y1) (y2) (l1) (l2)
            exact doesG_val rfl (v := .int .u8 ((y1 ^^^ y2 : Nat) : Int)) (by unfold execOp; simp only [e53, e54]; go_simp) rfl rfl
          · intro a w' hF hB hd
            have e55 : a.eval (.tmp 55) = .int .u8 ((y1 ^^^ y2 : Nat) : Int) := hd 7 (by decide +kernel) (.inr (by decide))
            exact doesG_call rfl (ex_call (vs := #[.int .u8 ((y1 ^^^ y2 : Nat) : Int)]) rfl (by simp only [List.map_toArray, List.map_cons, List.map_nil, e55]) (by go_simp)) rfl ((dbl_any (y1 ^^^ y2) (lt_of_xor l1 l2) w').mono fun e w2 hh => by obtain ⟨h1, rfl⟩ := hh; exact ⟨_, h1, rfl, Below.refl _ _⟩)
          · intro a w' hF hB hd
            have e52 : a.eval (.tmp 52) = .int .u8 (S : Int) := hd 4 (by decide +kernel) (.inr (by decide))
            have e56 : a.eval (.tmp 56) = .int .u8 ((mul 2 (y1 ^^^ y2) : Nat) : Int) := hd 8 (by decide +kernel) (.inr (by decide))
            have hx := u8_xor_nat (S) (mul 2 (y1 ^^^ y2)) (lS) (mul_lt 2 (y1 ^^^ y2) (by omega))
            exact doesG_val rfl (v := .int .u8 ((S ^^^ mul 2 (y1 ^^^ y2) : Nat) : Int)) (by unfold execOp; simp only [e52, e56]; go_simp) rfl rfl
          · intro a w' hF hB hd
            have e51 : a.eval (.tmp 51) = .int .u8 (y1 : Int) := hd 3 (by decide +kernel) (.inr (by decide))
            have e57 : a.eval (.tmp 57) = .int .u8 ((S ^^^ mul 2 (y1 ^^^ y2) : Nat) : Int) := hd 9 (by decide +kernel) (.inr (by decide))
            have hx := u8_xor_nat (y1) ((S ^^^ mul 2 (y1 ^^^ y2))) (l1) (lt_of_xor lS (mul_lt 2 (y1 ^^^ y2) (by omega)))
            exact doesG_val rfl (v := .int .u8 ((y1 ^^^ (S ^^^ mul 2 (y1 ^^^ y2)) : Nat) : Int)) (by unfold execOp; simp only [e51, e57]; go_simp) rfl rfl
          · intro a w' hF hB hd
            have e1 : a.eval (.tmp 1) = .pointer (some ⟨w.heap.size, 0, none⟩) := hF 1 (by decide +kernel)
            have e49 : a.eval (.tmp 49) = .int .i64 ((q : Int) + 1) := hd 1 (by decide +kernel) (.inr (by decide))
            exact doesG_val rfl (v := .pointer (some ⟨w.heap.size, q + 1, none⟩)) (by unfold execOp; simp only [e1, e49]; go_simp) rfl rfl
        · intro vs w6 hB hv hap
          have e58 : vs 10 = .int .u8 ((y1 ^^^ (S ^^^ mul 2 (y1 ^^^ y2)) : Nat) : Int) := hv 10 (by decide) (by decide)
          have e59 : vs 11 = .pointer (some ⟨w.heap.size, q + 1, none⟩) := hv 11 (by decide) (by decide)
          simp only [List.take_succ_cons, List.take_zero, List.drop_succ_cons, List.drop_zero, putOps, Act.put, List.setIfInBounds_toArray, List.set_cons_zero, List.set_cons_succ, e58, e59]
          have c6 := (N5.out.below hB N5.out.lt).cell (q + 1) (.int .u8 (y1 : Int)) HC1.out
          have f6 := (N5.out.below hB N5.out.lt).free (q + 1)
          have N6 := Lib.hid ((N5.out.below hB N5.out.lt).set (q + 1) (.int .u8 ((y1 ^^^ (S ^^^ mul 2 (y1 ^^^ y2)) : Nat) : Int)))
          have R6 := Lib.hid ((R5.out.below hB R5.out.lt).other ⟨w.heap.size, q + 1, none⟩ (.int .u8 ((y1 ^^^ (S ^^^ mul 2 (y1 ^^^ y2)) : Nat) : Int)) (by simp <;> omega))
          have B6 := Lib.hid ((B5.out.on hB).setCell (p := ⟨w.heap.size, q + 1, none⟩) (by simp <;> omega) (.int .u8 ((y1 ^^^ (S ^^^ mul 2 (y1 ^^^ y2)) : Nat) : Int)))
          clear hv hap e58 e59 hB
          generalize vs 0 = v0 at *
          generalize vs 1 = v1 at *
          generalize vs 2 = v2 at *
          generalize vs 3 = v3 at *
          generalize vs 4 = v4 at *
          generalize vs 5 = v5 at *
          generalize vs 6 = v6 at *
          generalize vs 7 = v7 at *
          generalize vs 8 = v8 at *
          generalize vs 9 = v9 at *
          go_upto_region 9 with (fail)
          rw [row8_set, HM1.out] at N6
          clear c6 f6 N5 R5 B5 
          generalize w6.setCell ⟨w.heap.size, q + 1, none⟩ (.int .u8 ((y1 ^^^ (S ^^^ mul 2 (y1 ^^^ y2)) : Nat) : Int)) = wd at *
          have N5 := N6
          have R5 := R6
          have B5 := B6
          clear N6 R6 B6
          rename_i wd0
          refine wp_region_g (by kernel_rfl) 12 (by decide) (by kernel_rfl) (by kernel_rfl) (by kernel_rfl) (wd.heap.size) (Nat.le_refl _) [.val (.int .i64 (q : Int)), .val (.int .i64 ((q : Int) + 2)), .val (.pointer (some ⟨w.heap.size, q + 2, none⟩)), .val (.int .u8 (y2 : Int)), .val (.int .u8 (S : Int)), .val (.int .u8 (y2 : Int)), .val (.int .u8 (y3 : Int)), .val (.int .u8 ((y2 ^^^ y3 : Nat) : Int)), .val (.int .u8 ((mul 2 (y2 ^^^ y3) : Nat) : Int)), .val (.int .u8 ((S ^^^ mul 2 (y2 ^^^ y3) : Nat) : Int)), .val (.int .u8 ((y2 ^^^ (S ^^^ mul 2 (y2 ^^^ y3)) : Nat) : Int)), .val (.pointer (some ⟨w.heap.size, q + 2, none⟩))] (fun _ => 13) ?_ ?_
          · refine ⟨?_, ?_, ?_, ?_, ?_, ?_, ?_, ?_, ?_, ?_, ?_, ?_, trivial⟩
            · intro a w' hF hB hd
              have e4 : a.eval (.tmp 4) = .int .i64 (q : Int) := hF 4 (by decide +kernel)
              exact doesG_val rfl (ex_move rfl e4) rfl rfl
            · intro a w' hF hB hd
              have e60 : a.eval (.tmp 60) = .int .i64 (q : Int) := hd 0 (by decide +kernel) (.inr (by decide))
              exact doesG_val rfl (v := .int .i64 ((q : Int) + 2)) (by unfold execOp; simp only [e60]; go_simp; rw [IntKind.wrap_i64] <;> omega) rfl rfl
            · intro a w' hF hB hd
              have e1 : a.eval (.tmp 1) = .pointer (some ⟨w.heap.size, 0, none⟩) := hF 1 (by decide +kernel)
              have e61 : a.eval (.tmp 61) = .int .i64 ((q : Int) + 2) := hd 1 (by decide +kernel) (.inr (by decide))
              exact doesG_val rfl (v := .pointer (some ⟨w.heap.size, q + 2, none⟩)) (by unfold execOp; simp only [e1, e61]; go_simp) rfl rfl
            · intro a w' hF hB hd
              have e62 : a.eval (.tmp 62) = .pointer (some ⟨w.heap.size, q + 2, none⟩) := hd 2 (by decide +kernel) (.inr (by decide))
              have c := (N5.out.below hB N5.out.lt).cell (q + 2) (.int .u8 (y2 : Int)) HC2.out
              exact doesG_val rfl (v := .int .u8 (y2 : Int)) (by unfold execOp; simp only [e62]; go_simp) rfl rfl
            · intro a w' hF hB hd
              have e9 : a.eval (.tmp 9) = .int .u8 (S : Int) := hF 9 (by decide +kernel)
              exact doesG_val rfl (ex_move rfl e9) rfl rfl
            · intro a w' hF hB hd
              have e7 : a.eval (.tmp 7) = .int .u8 (y2 : Int) := hF 7 (by decide +kernel)
              exact doesG_val rfl (ex_move rfl e7) rfl rfl
            · intro a w' hF hB hd
              have e8 : a.eval (.tmp 8) = .int .u8 (y3 : Int) := hF 8 (by decide +kernel)
              exact doesG_val rfl (ex_move rfl e8) rfl rfl
            · intro a w' hF hB hd
              have e65 : a.eval (.tmp 65) = .int .u8 (y2 : Int) := hd 5 (by decide +kernel) (.inr (by decide))
              have e66 : a.eval (.tmp 66) = .int .u8 (y3 : Int) := hd 6 (by decide +kernel) (.inr (by decide))
              have hx := u8_xor_nat (y2) (y3) (l2) (l3)
              exact doesG_val rfl (v := .int .u8 ((y2 ^^^ y3 : Nat) : Int)) (by unfold execOp; simp only [e65, e66]; go_simp) rfl rfl
            · intro a w' hF hB hd
              have e67 : a.eval (.tmp 67) = .int .u8 ((y2 ^^^ y3 : Nat) : Int) := hd 7 (by decide +kernel) (.inr (by decide))
              exact doesG_call rfl (ex_call (vs := #[.int .u8 ((y2 ^^^ y3 : Nat) : Int)]) rfl (by simp only [List.map_toArray, List.map_cons, List.map_nil, e67]) (by go_simp)) rfl ((dbl_any (y2 ^^^ y3) (lt_of_xor l2 l3) w').mono fun e w2 hh => by obtain ⟨h1, rfl⟩ := hh; exact ⟨_, h1, rfl, Below.refl _ _⟩)
            · intro a w' hF hB hd
              have e64 : a.eval (.tmp 64) = .int .u8 (S : Int) := hd 4 (by decide +kernel) (.inr (by decide))
              have e68 : a.eval (.tmp 68) = .int .u8 ((mul 2 (y2 ^^^ y3) : Nat) : Int) := hd 8 (by decide +kernel) (.inr (by decide))
              have hx := u8_xor_nat (S) (mul 2 (y2 ^^^ y3)) (lS) (mul_lt 2 (y2 ^^^ y3) (by omega))
              exact doesG_val rfl (v := .int .u8 ((S ^^^ mul 2 (y2 ^^^ y3) : Nat) : Int)) (by unfold execOp; simp only [e64, e68]; go_simp) rfl rfl
            · intro a w' hF hB hd
              have e63 : a.eval (.tmp 63) = .int .u8 (y2 : Int) := hd 3 (by decide +kernel) (.inr (by decide))
              have e69 : a.eval (.tmp 69) = .int .u8 ((S ^^^ mul 2 (y2 ^^^ y3) : Nat) : Int) := hd 9 (by decide +kernel) (.inr (by decide))
              have hx := u8_xor_nat (y2) ((S ^^^ mul 2 (y2 ^^^ y3))) (l2) (lt_of_xor lS (mul_lt 2 (y2 ^^^ y3) (by omega)))
              exact doesG_val rfl (v := .int .u8 ((y2 ^^^ (S ^^^ mul 2 (y2 ^^^ y3)) : Nat) : Int)) (by unfold execOp; simp only [e63, e69]; go_simp) rfl rfl
            · intro a w' hF hB hd
              have e1 : a.eval (.tmp 1) = .pointer (some ⟨w.heap.size, 0, none⟩) := hF 1 (by decide +kernel)
              have e61 : a.eval (.tmp 61) = .int .i64 ((q : Int) + 2) := hd 1 (by decide +kernel) (.inr (by decide))
              exact doesG_val rfl (v := .pointer (some ⟨w.heap.size, q + 2, none⟩)) (by unfold execOp; simp only [e1, e61]; go_simp) rfl rfl
          · intro vs w6 hB hv hap
            have e70 : vs 10 = .int .u8 ((y2 ^^^ (S ^^^ mul 2 (y2 ^^^ y3)) : Nat) : Int) := hv 10 (by decide) (by decide)
            have e71 : vs 11 = .pointer (some ⟨w.heap.size, q + 2, none⟩) := hv 11 (by decide) (by decide)
            simp only [List.take_succ_cons, List.take_zero, List.drop_succ_cons, List.drop_zero, putOps, Act.put, List.setIfInBounds_toArray, List.set_cons_zero, List.set_cons_succ, e70, e71]
            have c6 := (N5.out.below hB N5.out.lt).cell (q + 2) (.int .u8 (y2 : Int)) HC2.out
            have f6 := (N5.out.below hB N5.out.lt).free (q + 2)
            have N6 := Lib.hid ((N5.out.below hB N5.out.lt).set (q + 2) (.int .u8 ((y2 ^^^ (S ^^^ mul 2 (y2 ^^^ y3)) : Nat) : Int)))
            have R6 := Lib.hid ((R5.out.below hB R5.out.lt).other ⟨w.heap.size, q + 2, none⟩ (.int .u8 ((y2 ^^^ (S ^^^ mul 2 (y2 ^^^ y3)) : Nat) : Int)) (by simp <;> omega))
            have B6 := Lib.hid ((B5.out.on hB).setCell (p := ⟨w.heap.size, q + 2, none⟩) (by simp <;> omega) (.int .u8 ((y2 ^^^ (S ^^^ mul 2 (y2 ^^^ y3)) : Nat) : Int)))
            clear hv hap e70 e71 hB
            generalize vs 0 = v0 at *
            generalize vs 1 = v1 at *
            generalize vs 2 = v2 at *
            generalize vs 3 = v3 at *
            generalize vs 4 = v4 at *
            generalize vs 5 = v5 at *
            generalize vs 6 = v6 at *
            generalize vs 7 = v7 at *
            generalize vs 8 = v8 at *
            generalize vs 9 = v9 at *
            go_upto_region 10 with (fail)
            rw [row8_set, HM2.out] at N6
            clear c6 f6 N5 R5 B5 
            generalize w6.setCell ⟨w.heap.size, q + 2, none⟩ (.int .u8 ((y2 ^^^ (S ^^^ mul 2 (y2 ^^^ y3)) : Nat) : Int)) = wd at *
            have N5 := N6
            have R5 := R6
            have B5 := B6
            clear N6 R6 B6
            rename_i wd0
            refine wp_region_g (by kernel_rfl) 12 (by decide) (by kernel_rfl) (by kernel_rfl) (by kernel_rfl) (wd.heap.size) (Nat.le_refl _) [.val (.int .i64 (q : Int)), .val (.int .i64 ((q : Int) + 3)), .val (.pointer (some ⟨w.heap.size, q + 3, none⟩)), .val (.int .u8 (y3 : Int)), .val (.int .u8 (S : Int)), .val (.int .u8 (y3 : Int)), .val (.int .u8 (y0 : Int)), .val (.int .u8 ((y3 ^^^ y0 : Nat) : Int)), .val (.int .u8 ((mul 2 (y3 ^^^ y0) : Nat) : Int)), .val (.int .u8 ((S ^^^ mul 2 (y3 ^^^ y0) : Nat) : Int)), .val (.int .u8 ((y3 ^^^ (S ^^^ mul 2 (y3 ^^^ y0)) : Nat) : Int)), .val (.pointer (some ⟨w.heap.size, q + 3, none⟩))] (fun _ => 13) ?_ ?_
            · refine ⟨?_, ?_, ?_, ?_, ?_, ?_, ?_, ?_, ?_, ?_, ?_, ?_, trivial⟩
              · intro a w' hF hB hd
                have e4 : a.eval (.tmp 4) = .int .i64 (q : Int) := hF 4 (by decide +kernel)
                exact doesG_val rfl (ex_move rfl e4) rfl rfl
              · intro a w' hF hB hd
                have e72 : a.eval (.tmp 72) = .int .i64 (q : Int) := hd 0 (by decide +kernel) (.inr (by decide))
                exact doesG_val rfl (v := .int .i64 ((q : Int) + 3)) (by unfold execOp; simp only [e72]; go_simp; rw [IntKind.wrap_i64] <;> omega) rfl rfl
              · intro a w' hF hB hd
                have e1 : a.eval (.tmp 1) = .pointer (some ⟨w.heap.size, 0, none⟩) := hF 1 (by decide +kernel)
                have e73 : a.eval (.tmp 73) = .int .i64 ((q : Int) + 3) := hd 1 (by decide +kernel) (.inr (by decide))
                exact doesG_val rfl (v := .pointer (some ⟨w.heap.size, q + 3, none⟩)) (by unfold execOp; simp only [e1, e73]; go_simp) rfl rfl
              · intro a w' hF hB hd
                have e74 : a.eval (.tmp 74) = .pointer (some ⟨w.heap.size, q + 3, none⟩) := hd 2 (by decide +kernel) (.inr (by decide))
                have c := (N5.out.below hB N5.out.lt).cell (q + 3) (.int .u8 (y3 : Int)) HC3.out
                exact doesG_val rfl (v := .int .u8 (y3 : Int)) (by unfold execOp; simp only [e74]; go_simp) rfl rfl
              · intro a w' hF hB hd
                have e9 : a.eval (.tmp 9) = .int .u8 (S : Int) := hF 9 (by decide +kernel)
                exact doesG_val rfl (ex_move rfl e9) rfl rfl
              · intro a w' hF hB hd
                have e8 : a.eval (.tmp 8) = .int .u8 (y3 : Int) := hF 8 (by decide +kernel)
                exact doesG_val rfl (ex_move rfl e8) rfl rfl
              · intro a w' hF hB hd
                have e5 : a.eval (.tmp 5) = .int .u8 (y0 : Int) := hF 5 (by decide +kernel)
                exact doesG_val rfl (ex_move rfl e5) rfl rfl
              · intro a w' hF hB hd
                have e77 : a.eval (.tmp 77) = .int .u8 (y3 : Int) := hd 5 (by decide +kernel) (.inr (by decide))
                have e78 : a.eval (.tmp 78) = .int .u8 (y0 : Int) := hd 6 (by decide +kernel) (.inr (by decide))
                have hx := u8_xor_nat (y3) (y0) (l3) (l0)
                exact doesG_val rfl (v := .int .u8 ((y3 ^^^ y0 : Nat) : Int)) (by unfold execOp; simp only [e77, e78]; go_simp) rfl rfl
              · intro a w' hF hB hd
                have e79 : a.eval (.tmp 79) = .int .u8 ((y3 ^^^ y0 : Nat) : Int) := hd 7 (by decide +kernel) (.inr (by decide))
                exact doesG_call rfl (ex_call (vs := #[.int .u8 ((y3 ^^^ y0 : Nat) : Int)]) rfl (by simp only [List.map_toArray, List.map_cons, List.map_nil, e79]) (by go_simp)) rfl ((dbl_any (y3 ^^^ y0) (lt_of_xor l3 l0) w').mono fun e w2 hh => by obtain ⟨h1, rfl⟩ := hh; exact ⟨_, h1, rfl, Below.refl _ _⟩)
              · intro a w' hF hB hd
                have e76 : a.eval (.tmp 76) = .int .u8 (S : Int) := hd 4 (by decide +kernel) (.inr (by decide))
                have e80 : a.eval (.tmp 80) = .int .u8 ((mul 2 (y3 ^^^ y0) : Nat) : Int) := hd 8 (by decide +kernel) (.inr (by decide))
                have hx := u8_xor_nat (S) (mul 2 (y3 ^^^ y0)) (lS) (mul_lt 2 (y3 ^^^ y0) (by omega))
                exact doesG_val rfl (v := .int .u8 ((S ^^^ mul 2 (y3 ^^^ y0) : Nat) : Int)) (by unfold execOp; simp only [e76, e80]; go_simp) rfl rfl
              · intro a w' hF hB hd
                have e75 : a.eval (.tmp 75) = .int .u8 (y3 : Int) := hd 3 (by decide +kernel) (.inr (by decide))
                have e81 : a.eval (.tmp 81) = .int .u8 ((S ^^^ mul 2 (y3 ^^^ y0) : Nat) : Int) := hd 9 (by decide +kernel) (.inr (by decide))
                have hx := u8_xor_nat (y3) ((S ^^^ mul 2 (y3 ^^^ y0))) (l3) (lt_of_xor lS (mul_lt 2 (y3 ^^^ y0) (by omega)))
                exact doesG_val rfl (v := .int .u8 ((y3 ^^^ (S ^^^ mul 2 (y3 ^^^ y0)) : Nat) : Int)) (by unfold execOp; simp only [e75, e81]; go_simp) rfl rfl
              · intro a w' hF hB hd
                have e1 : a.eval (.tmp 1) = .pointer (some ⟨w.heap.size, 0, none⟩) := hF 1 (by decide +kernel)
                have e73 : a.eval (.tmp 73) = .int .i64 ((q : Int) + 3) := hd 1 (by decide +kernel) (.inr (by decide))
                exact doesG_val rfl (v := .pointer (some ⟨w.heap.size, q + 3, none⟩)) (by unfold execOp; simp only [e1, e73]; go_simp) rfl rfl
            · intro vs w6 hB hv hap
              have e82 : vs 10 = .int .u8 ((y3 ^^^ (S ^^^ mul 2 (y3 ^^^ y0)) : Nat) : Int) := hv 10 (by decide) (by decide)
              have e83 : vs 11 = .pointer (some ⟨w.heap.size, q + 3, none⟩) := hv 11 (by decide) (by decide)
              simp only [List.take_succ_cons, List.take_zero, List.drop_succ_cons, List.drop_zero, putOps, Act.put, List.setIfInBounds_toArray, List.set_cons_zero, List.set_cons_succ, e82, e83]
              have c6 := (N5.out.below hB N5.out.lt).cell (q + 3) (.int .u8 (y3 : Int)) HC3.out
              have f6 := (N5.out.below hB N5.out.lt).free (q + 3)
              have N6 := Lib.hid ((N5.out.below hB N5.out.lt).set (q + 3) (.int .u8 ((y3 ^^^ (S ^^^ mul 2 (y3 ^^^ y0)) : Nat) : Int)))
              have R6 := Lib.hid ((R5.out.below hB R5.out.lt).other ⟨w.heap.size, q + 3, none⟩ (.int .u8 ((y3 ^^^ (S ^^^ mul 2 (y3 ^^^ y0)) : Nat) : Int)) (by simp <;> omega))
              have B6 := Lib.hid ((B5.out.on hB).setCell (p := ⟨w.heap.size, q + 3, none⟩) (by simp <;> omega) (.int .u8 ((y3 ^^^ (S ^^^ mul 2 (y3 ^^^ y0)) : Nat) : Int)))
              clear hv hap e82 e83 hB
              generalize vs 0 = v0 at *
              generalize vs 1 = v1 at *
              generalize vs 2 = v2 at *
              generalize vs 3 = v3 at *
              generalize vs 4 = v4 at *
              generalize vs 5 = v5 at *
              generalize vs 6 = v6 at *
              generalize vs 7 = v7 at *
              generalize vs 8 = v8 at *
              generalize vs 9 = v9 at *
              go_wp2_with fail
              rw [row8_set, HM3.out] at N6
              clear c6 f6 N5 R5 B5 
              exact ⟨⟨c + 1, by omega, by go_num, by rw [show 4 * (c + 1) = q + 3 + 1 by omega]; exact N6.out, R6.out, B6.out⟩, by simp [intOf]; omega⟩
    · obtain rfl : c = 4 := by omega
      rw [show 4 * 4 = 16 from rfl, mxTo_all, ← HM.out] at b0
      have B0 := Lib.hid b0
      have B1 := Lib.hid b1
      have BB := Lib.hid bb
      clear b0 b1 bb
      go_wp2_with (first
        | (refine wpList_load_mid rfl 47 (.tmp 1) rfl w.heap.size 0 rfl (row8 M) _ B0.out.range Tryd.underlying47 rfl (by rw [M16.out]; exact info16) ?_)
        | (refine wpList_store_mid rfl 47 (.tmp 2) (.tmp 85) rfl (w.heap.size + 1) 0 (row8 M).toArray rfl rfl (B1.out.there _ (by rw [List.size_toArray, M16.out, hc0])) (by rw [List.size_toArray, M16.out]; exact info16) (row8_one _) ?_))
      have fin := B1.out.whole (row8 M) (by rw [M16.out, hc0])
      exact bodyPost_ret (v := .agg (row8 M).toArray) (results_mid rfl _ _ (w.heap.size + 1) (row8 M) _ rfl fin.range Tryd.underlying47 rfl (by rw [M16.out]; exact info16)) rfl ⟨rfl, below_setCells (w.heap.size + 1) (by omega) _ 0 _ BB.out⟩
end Go.Proofs.YtjemajenfkjelaaDoor

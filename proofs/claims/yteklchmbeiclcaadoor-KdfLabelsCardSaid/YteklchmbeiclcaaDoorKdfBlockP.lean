/- The program's keys of passphrases: a block: contract. Own work. -/
import Derived.Test.YteklchmbeiclcaaDoorKdfMath
import Derived.Test.YteklchmbeiclcaaDoorOct
import Derived.Test.YteklchmbeiclcaaDoorHmacA
import Derived.BigRegion
namespace Go.Proofs.YteklchmbeiclcaaDoor
open Go.ChangeShapes Go.WideShapes Go.ChangeAt Go.RowKit
open SM
set_option maxRecDepth 100000 in
set_option maxHeartbeats 4000000 in
theorem kblock_any (p s : List Nat) (t i : Nat) (hs : s.length ≤ 1024) (ht1 : 1 ≤ t) (ht2 : t ≤ 4096) (hi : i < 4294967296) (u v : Value) (w : World) (hu : Rd w u p) (hv : Rd w v s) (ht : TabP w) :
    Calls Tryd.prog 16 #[u, v, .int .i64 (t : Int), .int .u32 (i : Int)] w fun e w' => e = .returned (.agg (row8 (kt p s i (t - 1))).toArray) ∧ Below w.heap.size w w' := by
  obtain ⟨au, cu, rfl, hcu⟩ := hu.shape
  obtain ⟨av, cv, rfl, hcv⟩ := hv.shape
  have HU := Lib.hid hu
  have HV := Lib.hid hv
  have HT := Lib.hid ht
  obtain ⟨D0, hD0⟩ : ∃ C0, C0 = row8 (List.replicate 32 0) := ⟨_, rfl⟩
  have hzs : ∀ w, (zeroValue 39).run Tryd.prog w = .ok (.agg D0.toArray) w := by rw [hD0]; exact zeroSum
  have hd0 : D0.length = 32 := by rw [hD0, row8_len, List.length_replicate]
  have BB1 := Lib.hid ((Below.refl w.heap.size w).alloc (Nat.le_refl _) (.cells D0.toArray 39))
  have R1 := Lib.hid (Blk.new w 39 D0 _ rfl)
  have P1 := Lib.hid (put32_any i hi (w.alloc (.cells D0.toArray 39)))
  obtain ⟨U0, hU0⟩ : ∃ U, U = ku p s i 0 := ⟨_, rfl⟩
  have HU0 := Lib.hid hU0
  have bU0 : Bytes 32 U0 := by rw [hU0]; exact ku_bytes p s i 0
  have U32 := Lib.hid (show (row8 U0).length = 32 by rw [row8_len]; exact bU0.1)
  have HBE := Lib.hid (be_len i 4)
  clear hu hv ht hD0 hU0 bU0
  go_enter Tryd.func16, Tryd.ntmps16
  go_upto_region 4 with (first
    | (go_at_call 25; (with_reducible refine P1.out.mono ?_); rintro e w3 ⟨y3, rfl, o3, b3⟩; obtain ⟨a3, c3, rfl, hc3⟩ := o3.rd.shape; rw [HBE.out] at hc3 o3 ⊢; have B3 := Lib.hid (BB1.out.on b3); have R3 := Lib.hid (R1.out.below b3 R1.out.lt); have F3 := Lib.hid (hof_two_at (w := w3) (b := w3.heap.size) rfl (HU.out.below B3.out) (HV.out.below B3.out) o3.rd (HT.out.below B3.out) (by rw [HBE.out]; omega) HU0.out); clear o3 b3 hc3)
    | (go_at_call 14; (with_reducible refine F3.out.mono ?_); rintro e w5 ⟨rfl, b5⟩; have B5 := Lib.hid (B3.out.on b5); have R5 := Lib.hid (R3.out.below b5 R3.out.lt); clear b5)
    | (refine wpList_store_blk rfl 39 (.tmp 9) (.tmp 17) rfl w5.heap.size 0 (row8 U0) rfl rfl 39 D0 (Blk.new w5 39 D0 _ rfl) (by rw [U32.out, hd0]; exact Nat.le_refl _) (by rw [U32.out]; exact infoS) (row8_one _) ?_; intro w6 b6 g6; rw [splice_all _ _ (by rw [U32.out, hd0])] at b6; have N6 := Lib.hid b6; have B6 := Lib.hid (own_turn B5.out g6); have R6 := Lib.hid ((R5.out.alloc (.cells D0.toArray 39)).grown g6 (fun q => by have e : w.heap.size = w5.heap.size := Option.some.inj q; have := R5.out.lt; omega)); clear b6 g6)
    | (refine wpList_load_mid rfl 39 (.tmp 9) rfl w5.heap.size 0 rfl (row8 U0) _ N6.out.range Tryd.underlying39 rfl (by rw [U32.out]; exact infoS) ?_)
    | (refine wpList_store_blk rfl 39 (.tmp 10) (.tmp 18) rfl w6.heap.size 0 (row8 U0) rfl rfl 39 D0 (Blk.new w6 39 D0 _ rfl) (by rw [U32.out, hd0]; exact Nat.le_refl _) (by rw [U32.out]; exact infoS) (row8_one _) ?_; intro w7 b7 g7; rw [splice_all _ _ (by rw [U32.out, hd0])] at b7; have T7 := Lib.hid b7; have B7 := Lib.hid (own_turn B6.out g7); have R7 := Lib.hid ((R6.out.alloc (.cells D0.toArray 39)).grown g7 (fun q => by have e : w.heap.size = w6.heap.size := Option.some.inj q; have := R6.out.lt; omega)); have N7 := Lib.hid ((N6.out.alloc (.cells D0.toArray 39)).grown g7 (fun q => by have e : w5.heap.size = w6.heap.size := Option.some.inj q; have := N6.out.lt; omega)); clear b7 g7))
  have hne : w5.heap.size ≠ w6.heap.size := by have := N6.out.lt; omega
  have hwu : w.heap.size < w5.heap.size := R5.out.lt
  have hwt : w.heap.size < w6.heap.size := R6.out.lt
  obtain ⟨ub, hub⟩ : ∃ b, b = w5.heap.size := ⟨_, rfl⟩
  obtain ⟨tb, htb⟩ : ∃ b, b = w6.heap.size := ⟨_, rfl⟩
  rw [← hub] at N7 hne hwu ⊢
  rw [← htb] at T7 hne hwt ⊢
  rw [HU0.out] at N7 T7
  clear hub htb N6 B6 R6 B5 R5 F3 B3 R3 P1 BB1 R1 HBE hzs U32
  go_loopw [21] (fun x wr => ∃ n : Nat, n ≤ t - 1 ∧ x = .int .i64 (n : Int) ∧ Blk wr w.heap.size 39 D0 ∧ Blk wr ub 39 (row8 (ku p s i n)) ∧ Blk wr tb 39 (row8 (kt p s i n)) ∧ Below w.heap.size w wr) (fun x _ => t - 1 - (intOf x).toNat)
  case atStart => exact ⟨0, by omega, rfl, R7.out, N7.out, T7.out, B7.out⟩
  case round =>
    clear R7 N7 T7 B7
    obtain ⟨n, hn, rfl, r0, n0, t0, b0⟩ := hrel
    obtain ⟨U, hU⟩ : ∃ U, U = ku p s i n := ⟨_, rfl⟩
    obtain ⟨X, hX⟩ : ∃ X, X = kt p s i n := ⟨_, rfl⟩
    rw [← hU] at n0
    rw [← hX] at t0
    have bU : Bytes 32 U := by rw [hU]; exact ku_bytes p s i n
    have bX : Bytes 32 X := by rw [hX]; exact kt_bytes p s i n
    by_cases hlt : n < t - 1
    · have hltI : (n : Int) < (t : Int) - 1 := by omega
      obtain ⟨V, hVe⟩ : ∃ V, V = mac p U := ⟨_, rfl⟩
      have hV2 : V = ku p s i (n + 1) := by rw [hVe, hU]; rfl
      have bV : Bytes 32 V := by rw [hV2]; exact ku_bytes p s i (n + 1)
      have V32 := Lib.hid (show (row8 V).length = 32 by rw [row8_len]; exact bV.1)
      have u9 := blk_rd n0 bU.2 (n := 32) (cap := 32) (by rw [bU.1]; omega) (by omega) (by rw [bU.1]; omega)
      rw [List.take_of_length_le (by rw [bU.1]; omega)] at u9
      have F0 := Lib.hid (hof_one_at (w := wr) (b := wr.heap.size) rfl (HU.out.below b0) u9 (HT.out.below b0) (by rw [bU.1]; omega) hVe)
      have UL := Lib.hid (show (row8 U).length = 32 by rw [row8_len]; exact bU.1)
      have R0 := Lib.hid r0
      have N0 := Lib.hid n0
      have T0 := Lib.hid t0
      have B0 := Lib.hid b0
      have HXB := Lib.hid bX
      have HVB := Lib.hid bV
      have HXK := Lib.hid (show xq X V 32 = kt p s i (n + 1) by rw [hX, hV2]; rfl)
      have HV2 := Lib.hid hV2
      clear r0 n0 t0 b0 u9 bU bX bV hU hX hVe hV2
      go_upto_region 6 with (first
        | (go_at_call 14; (with_reducible refine F0.out.mono ?_); rintro e w8 ⟨rfl, b8⟩; have B8 := Lib.hid (B0.out.on b8); have R8 := Lib.hid (R0.out.below b8 R0.out.lt); have N8 := Lib.hid (N0.out.below b8 N0.out.lt); have T8 := Lib.hid (T0.out.below b8 T0.out.lt); clear b8)
        | (refine wpList_store_blk rfl 39 (.tmp 9) (.tmp 26) rfl ub 0 (row8 V) rfl rfl 39 (row8 U) N8.out (by rw [V32.out, UL.out]; exact Nat.le_refl _) (by rw [V32.out]; exact infoS) (row8_one _) ?_; intro w9 b9 g9; rw [splice_all _ _ (by rw [V32.out, UL.out])] at b9; have N9 := Lib.hid b9; have B9 := Lib.hid (B8.out.grown g9 B8.out.size (fun k hk => by have e : ub = k := Option.some.inj hk; omega)); have R9 := Lib.hid (R8.out.grown g9 (fun q => by have e : w.heap.size = ub := Option.some.inj q; omega)); have T9 := Lib.hid (T8.out.grown g9 (fun q => by have e : tb = ub := Option.some.inj q; omega)); clear b9 g9))
      go_upto_region 7 with (fail)
      clear F0 B0 R0 N0 T0 B8 R8 N8 T8
      go_loopw [27] (fun x wq => ∃ k : Nat, k ≤ 32 ∧ x = .int .i64 (k : Int) ∧ Blk wq w.heap.size 39 D0 ∧ Blk wq ub 39 (row8 V) ∧ Blk wq tb 39 (row8 (xq X V k)) ∧ Below w.heap.size w wq) (fun x _ => 32 - (intOf x).toNat)
      case atStart => exact ⟨0, by omega, rfl, R9.out, N9.out, by rw [xq_zero HXB.out.1]; exact T9.out, B9.out⟩
      case round =>
        clear R9 N9 T9 B9
        obtain ⟨k, hk, rfl, r0, n0, t0, b0⟩ := hrel
        by_cases hlk : k < 32
        · have c1 := n0.cell k _ (row8_val _ k (by rw [HVB.out.1]; exact hlk))
          have c2 := t0.cell k _ (row8_val _ k (by rw [xq_len]; exact hlk))
          rw [xq_get _ _ _ _ hlk, if_neg (by omega)] at c2
          have f2 := t0.free k
          have hxr := u8_xor_nat (gb X k) (gb V k) (HXB.out.2 k) (HVB.out.2 k)
          have R0 := Lib.hid r0
          have N0 := Lib.hid n0
          have T0 := Lib.hid t0
          have B0 := Lib.hid b0
          clear r0 n0 t0 b0
          go_upto_region 9 with (fail)
          go_region
          have nt := (T0.out.set k (.int .u8 ((gb X k ^^^ gb V k : Nat) : Int))).drew
          rw [row8_set, xq_step _ _ _ hlk] at nt
          have NT := Lib.hid nt
          have NR := Lib.hid (R0.out.other ⟨tb, k, none⟩ (.int .u8 ((gb X k ^^^ gb V k : Nat) : Int)) (by simp <;> omega)).drew
          have NN := Lib.hid (N0.out.other ⟨tb, k, none⟩ (.int .u8 ((gb X k ^^^ gb V k : Nat) : Int)) (by simp <;> omega)).drew
          have NB := Lib.hid (B0.out.setCell (p := ⟨tb, k, none⟩) (by simp <;> omega) (.int .u8 ((gb X k ^^^ gb V k : Nat) : Int))).drew
          clear nt
          go_wp2_with fail
          exact ⟨⟨k + 1, by omega, by go_num, NR.out, NN.out, NT.out, NB.out⟩, by simp [intOf]; omega⟩
        · obtain rfl : k = 32 := by omega
          rw [HXK.out] at t0
          rw [HV2.out] at n0
          have R0 := Lib.hid r0
          have N0 := Lib.hid n0
          have T0 := Lib.hid t0
          have B0 := Lib.hid b0
          clear r0 n0 t0 b0
          go_wp2_with fail
          exact ⟨⟨n + 1, by omega, by go_num, R0.out, N0.out, T0.out, B0.out⟩, by simp [intOf]; omega⟩
    · have hltI : ¬ (n : Int) < (t : Int) - 1 := by omega
      have hnt : n = t - 1 := by omega
      rw [hnt] at hX
      have HXE := Lib.hid hX
      have X32 := Lib.hid (show (row8 X).length = 32 by rw [row8_len]; exact bX.1)
      have R0 := Lib.hid r0
      have T0 := Lib.hid t0
      have B0 := Lib.hid b0
      clear r0 n0 t0 b0 bU bX hU hX hnt
      go_wp2_with (first
        | (refine wpList_load_mid rfl 39 (.tmp 10) rfl tb 0 rfl (row8 X) _ T0.out.range Tryd.underlying39 rfl (by rw [X32.out]; exact infoS) ?_)
        | (refine wpList_store_mid rfl 39 (.tmp 8) (.tmp 40) rfl w.heap.size 0 (row8 X).toArray rfl rfl (R0.out.there _ (by rw [List.size_toArray, X32.out, hd0])) (by rw [List.size_toArray, X32.out]; exact infoS) (row8_one _) ?_))
      have fin := R0.out.whole (row8 X) (by rw [X32.out, hd0])
      exact bodyPost_ret (v := .agg (row8 X).toArray) (results_mid rfl _ _ w.heap.size (row8 X) _ rfl fin.range Tryd.underlying39 rfl (by rw [X32.out]; exact infoS)) rfl ⟨by rw [HXE.out], below_setCells w.heap.size (Nat.le_refl _) _ 0 _ B0.out⟩
end Go.Proofs.YteklchmbeiclcaaDoor

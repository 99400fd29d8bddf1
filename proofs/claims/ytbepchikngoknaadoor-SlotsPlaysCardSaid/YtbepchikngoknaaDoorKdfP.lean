/- Texts of one subject in one file: KdfLabelP, KdfBlockP, KdfDeriveP. Own work. -/
import Derived.Test.YtbepchikngoknaaDoorKdfMath
import Derived.Test.YtbepchikngoknaaDoorHmacA
import Derived.Test.YtbepchikngoknaaDoorStrConv
import Derived.Test.YtbepchikngoknaaDoorRdConst
import Derived.Lib.SlBytesConst
import Derived.Test.YtbepchikngoknaaDoorOct
import Derived.BigRegion
import Derived.Test.YtbepchikngoknaaDoorShaD
import Derived.Test.YtbepchikngoknaaDoorMem
/- The program's key of a key: contract. Own work. -/
namespace Go.Proofs.YtbepchikngoknaaDoor
open Go.ChangeShapes Go.WideShapes Go.ChangeAt Go.RowKit
open SM
theorem infoKeyL : (Tryd.prog.info? 25).map (·.size) = some 32 := by kernel_rfl
set_option maxRecDepth 100000 in
set_option maxHeartbeats 2000000 in
theorem klabel_any (K : List Nat) (hK : Bytes 32 K) (s : ByteArray) (hs : s.size ≤ 140737488355328) (w : World) (ht : TabP w) :
    Calls Tryd.prog 89 #[.agg (row8 K).toArray, .string s] w fun e w' => e = .returned (.agg (row8 (klabel K (sb s))).toArray) ∧ Below w.heap.size w w' := by
  obtain ⟨M, hM⟩ : ∃ M, M = klabel K (sb s) := ⟨_, rfl⟩
  have bM : Bytes 32 M := by rw [hM]; exact sha_bytes _
  rw [← hM]
  have HMM := Lib.hid hM
  have HK := Lib.hid hK
  have HT := Lib.hid ht
  have K32 := Lib.hid (show (row8 K).length = 32 by rw [row8_len]; exact hK.1)
  have M32 := Lib.hid (show (row8 M).length = 32 by rw [row8_len]; exact bM.1)
  obtain ⟨D0, hD0⟩ : ∃ C0, C0 = row8 (List.replicate 32 0) := ⟨_, rfl⟩
  have hzk : ∀ w, (zeroValue 25).run Tryd.prog w = .ok (.agg D0.toArray) w := by
    rw [hD0]; intro w; kernel_rfl
  have hd0 : D0.length = 32 := by rw [hD0, row8_len, List.length_replicate]

  have w1 := (Below.refl w.heap.size w).alloc (Nat.le_refl _) (.cells (row8 K).toArray 25)
  have w2 := w1.alloc w1.size (.cells D0.toArray 25)
  have w3 := w2.alloc w2.size (.cells (row8 SM.ahead).toArray 5 (10, 11))
  have N3 := Lib.hid (((Blk.new w 25 (row8 K) _ rfl).alloc (.cells D0.toArray 25)).alloc (.cells (row8 SM.ahead).toArray 5 (10, 11)))
  have R3 := Lib.hid ((Blk.new (w.alloc (.cells (row8 K).toArray 25)) 25 D0 (w.heap.size + 1) (by simp)).alloc (.cells (row8 SM.ahead).toArray 5 (10, 11)))
  have A3 := Lib.hid (rd_const ((w.alloc (.cells (row8 K).toArray 25)).alloc (.cells D0.toArray 25)) SM.ahead (small_bytes (by decide)) (by decide) 10 rfl (w.heap.size + 1 + 1) (by simp) (10, 11))
  have W3 := Lib.hid w3
  have kc := fun (C : Array Value) (n c : Nat) => Lib.run_convert_bytes_const (P := Tryd.prog) ((w.alloc (.cells (row8 K).toArray 25)).alloc (.cells D0.toArray 25)) 31 5 C n c Tryd.underlying31 Tryd.underlying5
  have hsz : ((w.alloc (.cells (row8 K).toArray 25)).alloc (.cells D0.toArray 25)).heap.size = w.heap.size + 1 + 1 := by simp
  simp only [hsz] at kc
  clear hsz w1 w2 w3 hM hK hD0 ht bM
  go_enter Tryd.func89, Tryd.ntmps89
  go_wp2_with (first
    | ((with_reducible show wpList _ _ _ _ _ _); refine wpList_conv_str rfl (.tmp 8) rfl s rfl hs ?_; intro b cap w4 hb hr b4 hlt; rw [← sb_len s] at hr ⊢; have B4 := Lib.hid (W3.out.on b4); have R4 := Lib.hid (R3.out.below b4 R3.out.lt); have k4 := blk_rd (N3.out.below b4 N3.out.lt) HK.out.2 (n := 32) (cap := 32) (by rw [HK.out.1]; omega) (by omega) (by rw [HK.out.1]; omega); rw [List.take_of_length_le (by rw [HK.out.1]; omega)] at k4; have F4 := Lib.hid (hof_two_at (w := w4) (b := w4.heap.size) rfl k4 (A3.out.below b4) hr (HT.out.below (W3.out.on b4)) (by rw [sb_len]; have : SM.ahead.length = 10 := rfl; omega) HMM.out); clear hr b4 k4 hb hlt)
    | (go_at_call 64; (with_reducible refine F4.out.mono ?_); rintro e w5 ⟨rfl, b5⟩; have B5 := Lib.hid (B4.out.on b5); have R5 := Lib.hid (R4.out.below b5 R4.out.lt); clear b5)
    | (refine wpList_store_mid rfl 25 (.tmp 4) (.tmp 11) rfl (w.heap.size + 1) 0 (row8 M).toArray rfl rfl (R5.out.there _ (by rw [List.size_toArray, M32.out, hd0])) (by rw [List.size_toArray, M32.out]; exact infoKeyL) (row8_one _) ?_))
  have fin := R5.out.whole (row8 M) (by rw [M32.out, hd0])
  exact bodyPost_ret (v := .agg (row8 M).toArray) (results_mid rfl _ _ (w.heap.size + 1) (row8 M) _ rfl fin.range Tryd.underlying25 rfl (by rw [M32.out]; exact infoKeyL)) rfl ⟨rfl, below_setCells (w.heap.size + 1) (by omega) _ 0 _ B5.out⟩
end Go.Proofs.YtbepchikngoknaaDoor
/- The program's keys of passphrases: a block: contract. Own work. -/
namespace Go.Proofs.YtbepchikngoknaaDoor
open Go.ChangeShapes Go.WideShapes Go.ChangeAt Go.RowKit
open SM
set_option maxRecDepth 100000 in
set_option maxHeartbeats 4000000 in
theorem kblock_any (p s : List Nat) (t i : Nat) (hs : s.length ≤ 1024) (ht1 : 1 ≤ t) (ht2 : t ≤ 4096) (hi : i < 4294967296) (u v : Value) (w : World) (hu : Rd w u p) (hv : Rd w v s) (ht : TabP w) :
    Calls Tryd.prog 45 #[u, v, .int .i64 (t : Int), .int .u32 (i : Int)] w fun e w' => e = .returned (.agg (row8 (kt p s i (t - 1))).toArray) ∧ Below w.heap.size w w' := by
  obtain ⟨au, cu, rfl, hcu⟩ := hu.shape
  obtain ⟨av, cv, rfl, hcv⟩ := hv.shape
  have HU := Lib.hid hu
  have HV := Lib.hid hv
  have HT := Lib.hid ht
  obtain ⟨D0, hD0⟩ : ∃ C0, C0 = row8 (List.replicate 32 0) := ⟨_, rfl⟩
  have hzs : ∀ w, (zeroValue 26).run Tryd.prog w = .ok (.agg D0.toArray) w := by rw [hD0]; exact zeroSum
  have hd0 : D0.length = 32 := by rw [hD0, row8_len, List.length_replicate]
  have BB1 := Lib.hid ((Below.refl w.heap.size w).alloc (Nat.le_refl _) (.cells D0.toArray 26))
  have R1 := Lib.hid (Blk.new w 26 D0 _ rfl)
  have P1 := Lib.hid (put32_any i hi (w.alloc (.cells D0.toArray 26)))
  obtain ⟨U0, hU0⟩ : ∃ U, U = ku p s i 0 := ⟨_, rfl⟩
  have HU0 := Lib.hid hU0
  have bU0 : Bytes 32 U0 := by rw [hU0]; exact ku_bytes p s i 0
  have U32 := Lib.hid (show (row8 U0).length = 32 by rw [row8_len]; exact bU0.1)
  have HBE := Lib.hid (be_len i 4)
  clear hu hv ht hD0 hU0 bU0
  go_enter Tryd.func45, Tryd.ntmps45
  go_upto_region 4 with (first
    | (go_at_call 65; (with_reducible refine P1.out.mono ?_); rintro e w3 ⟨y3, rfl, o3, b3⟩; obtain ⟨a3, c3, rfl, hc3⟩ := o3.rd.shape; rw [HBE.out] at hc3 o3 ⊢; have B3 := Lib.hid (BB1.out.on b3); have R3 := Lib.hid (R1.out.below b3 R1.out.lt); have F3 := Lib.hid (hof_two_at (w := w3) (b := w3.heap.size) rfl (HU.out.below B3.out) (HV.out.below B3.out) o3.rd (HT.out.below B3.out) (by rw [HBE.out]; omega) HU0.out); clear o3 b3 hc3)
    | (go_at_call 64; (with_reducible refine F3.out.mono ?_); rintro e w5 ⟨rfl, b5⟩; have B5 := Lib.hid (B3.out.on b5); have R5 := Lib.hid (R3.out.below b5 R3.out.lt); clear b5)
    | (refine wpList_store_blk rfl 26 (.tmp 9) (.tmp 17) rfl w5.heap.size 0 (row8 U0) rfl rfl 26 D0 (Blk.new w5 26 D0 _ rfl) (by rw [U32.out, hd0]; exact Nat.le_refl _) (by rw [U32.out]; exact infoS) (row8_one _) ?_; intro w6 b6 g6; rw [splice_all _ _ (by rw [U32.out, hd0])] at b6; have N6 := Lib.hid b6; have B6 := Lib.hid (own_turn B5.out g6); have R6 := Lib.hid ((R5.out.alloc (.cells D0.toArray 26)).grown g6 (fun q => by have e : w.heap.size = w5.heap.size := Option.some.inj q; have := R5.out.lt; omega)); clear b6 g6)
    | (refine wpList_load_mid rfl 26 (.tmp 9) rfl w5.heap.size 0 rfl (row8 U0) _ N6.out.range Tryd.underlying26 rfl (by rw [U32.out]; exact infoS) ?_)
    | (refine wpList_store_blk rfl 26 (.tmp 10) (.tmp 18) rfl w6.heap.size 0 (row8 U0) rfl rfl 26 D0 (Blk.new w6 26 D0 _ rfl) (by rw [U32.out, hd0]; exact Nat.le_refl _) (by rw [U32.out]; exact infoS) (row8_one _) ?_; intro w7 b7 g7; rw [splice_all _ _ (by rw [U32.out, hd0])] at b7; have T7 := Lib.hid b7; have B7 := Lib.hid (own_turn B6.out g7); have R7 := Lib.hid ((R6.out.alloc (.cells D0.toArray 26)).grown g7 (fun q => by have e : w.heap.size = w6.heap.size := Option.some.inj q; have := R6.out.lt; omega)); have N7 := Lib.hid ((N6.out.alloc (.cells D0.toArray 26)).grown g7 (fun q => by have e : w5.heap.size = w6.heap.size := Option.some.inj q; have := N6.out.lt; omega)); clear b7 g7))
  have hne : w5.heap.size ≠ w6.heap.size := by have := N6.out.lt; omega
  have hwu : w.heap.size < w5.heap.size := R5.out.lt
  have hwt : w.heap.size < w6.heap.size := R6.out.lt
  obtain ⟨ub, hub⟩ : ∃ b, b = w5.heap.size := ⟨_, rfl⟩
  obtain ⟨tb, htb⟩ : ∃ b, b = w6.heap.size := ⟨_, rfl⟩
  rw [← hub] at N7 hne hwu ⊢
  rw [← htb] at T7 hne hwt ⊢
  rw [HU0.out] at N7 T7
  clear hub htb N6 B6 R6 B5 R5 F3 B3 R3 P1 BB1 R1 HBE hzs U32
  go_loopw [21] (fun x wr => ∃ n : Nat, n ≤ t - 1 ∧ x = .int .i64 (n : Int) ∧ Blk wr w.heap.size 26 D0 ∧ Blk wr ub 26 (row8 (ku p s i n)) ∧ Blk wr tb 26 (row8 (kt p s i n)) ∧ Below w.heap.size w wr) (fun x _ => t - 1 - (intOf x).toNat)
  case atStart => exact ⟨0, by omega, rfl, R7.out, N7.out, T7.out, B7.out⟩
  case round =>
    clear R7 N7 T7 B7
    obtain ⟨n, hn, rfl, r0, n0, t0, b0⟩ := hrel
    obtain ⟨U, hU⟩ : ∃ U, U = ku p s i n := ⟨_, rfl⟩
    obtain ⟨X, hX⟩ : ∃ X, X = kt p s i n := ⟨_, rfl⟩
    rw [← hU] at n0
    rw [← hX] at t0
    have bU : Bytes 32 U := by rw [hU]; exact ku_bytes p s i n
    have bX : Bytes 32 X := by rw [hX]; exact kt_bytes p s i n
    by_cases hlt : n < t - 1
    · have hltI : (n : Int) < (t : Int) - 1 := by omega
      obtain ⟨V, hVe⟩ : ∃ V, V = mac p U := ⟨_, rfl⟩
      have hV2 : V = ku p s i (n + 1) := by rw [hVe, hU]; rfl
      have bV : Bytes 32 V := by rw [hV2]; exact ku_bytes p s i (n + 1)
      have V32 := Lib.hid (show (row8 V).length = 32 by rw [row8_len]; exact bV.1)
      have u9 := blk_rd n0 bU.2 (n := 32) (cap := 32) (by rw [bU.1]; omega) (by omega) (by rw [bU.1]; omega)
      rw [List.take_of_length_le (by rw [bU.1]; omega)] at u9
      have F0 := Lib.hid (hof_one_at (w := wr) (b := wr.heap.size) rfl (HU.out.below b0) u9 (HT.out.below b0) (by rw [bU.1]; omega) hVe)
      have UL := Lib.hid (show (row8 U).length = 32 by rw [row8_len]; exact bU.1)
      have R0 := Lib.hid r0
      have N0 := Lib.hid n0
      have T0 := Lib.hid t0
      have B0 := Lib.hid b0
      have HXB := Lib.hid bX
      have HVB := Lib.hid bV
      have HXK := Lib.hid (show xq X V 32 = kt p s i (n + 1) by rw [hX, hV2]; rfl)
      have HV2 := Lib.hid hV2
      clear r0 n0 t0 b0 u9 bU bX bV hU hX hVe hV2
      go_upto_region 6 with (first
        | (go_at_call 64; (with_reducible refine F0.out.mono ?_); rintro e w8 ⟨rfl, b8⟩; have B8 := Lib.hid (B0.out.on b8); have R8 := Lib.hid (R0.out.below b8 R0.out.lt); have N8 := Lib.hid (N0.out.below b8 N0.out.lt); have T8 := Lib.hid (T0.out.below b8 T0.out.lt); clear b8)
        | (refine wpList_store_blk rfl 26 (.tmp 9) (.tmp 26) rfl ub 0 (row8 V) rfl rfl 26 (row8 U) N8.out (by rw [V32.out, UL.out]; exact Nat.le_refl _) (by rw [V32.out]; exact infoS) (row8_one _) ?_; intro w9 b9 g9; rw [splice_all _ _ (by rw [V32.out, UL.out])] at b9; have N9 := Lib.hid b9; have B9 := Lib.hid (B8.out.grown g9 B8.out.size (fun k hk => by have e : ub = k := Option.some.inj hk; omega)); have R9 := Lib.hid (R8.out.grown g9 (fun q => by have e : w.heap.size = ub := Option.some.inj q; omega)); have T9 := Lib.hid (T8.out.grown g9 (fun q => by have e : tb = ub := Option.some.inj q; omega)); clear b9 g9))
      go_upto_region 7 with (fail)
      clear F0 B0 R0 N0 T0 B8 R8 N8 T8
      go_loopw [27] (fun x wq => ∃ k : Nat, k ≤ 32 ∧ x = .int .i64 (k : Int) ∧ Blk wq w.heap.size 26 D0 ∧ Blk wq ub 26 (row8 V) ∧ Blk wq tb 26 (row8 (xq X V k)) ∧ Below w.heap.size w wq) (fun x _ => 32 - (intOf x).toNat)
      case atStart => exact ⟨0, by omega, rfl, R9.out, N9.out, by rw [xq_zero HXB.out.1]; exact T9.out, B9.out⟩
      case round =>
        clear R9 N9 T9 B9
        obtain ⟨k, hk, rfl, r0, n0, t0, b0⟩ := hrel
        by_cases hlk : k < 32
        · have c1 := n0.cell k _ (row8_val _ k (by rw [HVB.out.1]; exact hlk))
          have c2 := t0.cell k _ (row8_val _ k (by rw [xq_len]; exact hlk))
          rw [xq_get _ _ _ _ hlk, if_neg (by omega)] at c2
          have f2 := t0.free k
          have hxr := u8_xor_nat (gb X k) (gb V k) (HXB.out.2 k) (HVB.out.2 k)
          have R0 := Lib.hid r0
          have N0 := Lib.hid n0
          have T0 := Lib.hid t0
          have B0 := Lib.hid b0
          clear r0 n0 t0 b0
          go_upto_region 9 with (fail)
          go_region
          have nt := (T0.out.set k (.int .u8 ((gb X k ^^^ gb V k : Nat) : Int))).drew
          rw [row8_set, xq_step _ _ _ hlk] at nt
          have NT := Lib.hid nt
          have NR := Lib.hid (R0.out.other ⟨tb, k, none⟩ (.int .u8 ((gb X k ^^^ gb V k : Nat) : Int)) (by simp <;> omega)).drew
          have NN := Lib.hid (N0.out.other ⟨tb, k, none⟩ (.int .u8 ((gb X k ^^^ gb V k : Nat) : Int)) (by simp <;> omega)).drew
          have NB := Lib.hid (B0.out.setCell (p := ⟨tb, k, none⟩) (by simp <;> omega) (.int .u8 ((gb X k ^^^ gb V k : Nat) : Int))).drew
          clear nt
          go_wp2_with fail
          exact ⟨⟨k + 1, by omega, by go_num, NR.out, NN.out, NT.out, NB.out⟩, by simp [intOf]; omega⟩
        · obtain rfl : k = 32 := by omega
          rw [HXK.out] at t0
          rw [HV2.out] at n0
          have R0 := Lib.hid r0
          have N0 := Lib.hid n0
          have T0 := Lib.hid t0
          have B0 := Lib.hid b0
          clear r0 n0 t0 b0
          go_wp2_with fail
          exact ⟨⟨n + 1, by omega, by go_num, R0.out, N0.out, T0.out, B0.out⟩, by simp [intOf]; omega⟩
    · have hltI : ¬ (n : Int) < (t : Int) - 1 := by omega
      have hnt : n = t - 1 := by omega
      rw [hnt] at hX
      have HXE := Lib.hid hX
      have X32 := Lib.hid (show (row8 X).length = 32 by rw [row8_len]; exact bX.1)
      have R0 := Lib.hid r0
      have T0 := Lib.hid t0
      have B0 := Lib.hid b0
      clear r0 n0 t0 b0 bU bX hU hX hnt
      go_wp2_with (first
        | (refine wpList_load_mid rfl 26 (.tmp 10) rfl tb 0 rfl (row8 X) _ T0.out.range Tryd.underlying26 rfl (by rw [X32.out]; exact infoS) ?_)
        | (refine wpList_store_mid rfl 26 (.tmp 8) (.tmp 40) rfl w.heap.size 0 (row8 X).toArray rfl rfl (R0.out.there _ (by rw [List.size_toArray, X32.out, hd0])) (by rw [List.size_toArray, X32.out]; exact infoS) (row8_one _) ?_))
      have fin := R0.out.whole (row8 X) (by rw [X32.out, hd0])
      exact bodyPost_ret (v := .agg (row8 X).toArray) (results_mid rfl _ _ w.heap.size (row8 X) _ rfl fin.range Tryd.underlying26 rfl (by rw [X32.out]; exact infoS)) rfl ⟨by rw [HXE.out], below_setCells w.heap.size (Nat.le_refl _) _ 0 _ B0.out⟩
end Go.Proofs.YtbepchikngoknaaDoor
/- The program's keys of passphrases: the whole: contract. Own work. -/
namespace Go.Proofs.YtbepchikngoknaaDoor
open Go.ChangeShapes Go.WideShapes Go.ChangeAt Go.RowKit
namespace SM
/-- The first z bytes of the first k blocks, and noughts behind them: as many as there are to be. -/
def kz (p s : List Nat) (t z k : Nat) : List Nat := (kblocks p s t k).take z ++ List.replicate (z - 32 * k) 0
theorem kz_zero (p s : List Nat) (t z : Nat) : kz p s t z 0 = List.replicate z 0 := by
  unfold kz kblocks; simp
theorem kz_len (p s : List Nat) (t z k : Nat) : (kz p s t z k).length = z := by
  unfold kz; rw [List.length_append, List.length_take, kblocks_len, List.length_replicate]; omega
theorem kz_byte (p s : List Nat) (t z k : Nat) : ∀ j, gb (kz p s t z k) j < 256 :=
  gb_app _ _ (gb_take_byte _ _ (kblocks_byte p s t k)) (bytes_zero _).2
theorem kz_all (p s : List Nat) (t z : Nat) : kz p s t z ((z + 31) / 32) = kder p s t z := by
  unfold kz kder
  rw [show z - 32 * ((z + 31) / 32) = 0 by omega, List.replicate_zero, List.append_nil]
theorem kz_step (p s : List Nat) (t z k : Nat) (h : 32 * k < z) : splice (row8 (kz p s t z k)) (32 * k) (row8 ((kt p s (k + 1) (t - 1)).take (min 32 (z - 32 * k)))) = row8 (kz p s t z (k + 1)) := by
  have hl : (kblocks p s t k).length = 32 * k := kblocks_len p s t k
  have hx : (kt p s (k + 1) (t - 1)).length = 32 := (kt_bytes _ _ _ _).1
  have e1 : kz p s t z k = kblocks p s t k ++ List.replicate (z - 32 * k) 0 := by
    unfold kz; rw [List.take_of_length_le (by omega)]
  have e2 : kz p s t z (k + 1) = kblocks p s t k ++ ((kt p s (k + 1) (t - 1)).take (z - 32 * k) ++ List.replicate (z - 32 * k - 32) 0) := by
    unfold kz
    rw [← kblocks_step, List.take_append, hl, List.take_of_length_le (by omega), List.append_assoc, show z - 32 * (k + 1) = z - 32 * k - 32 by omega]
  have e3 : (kt p s (k + 1) (t - 1)).take (min 32 (z - 32 * k)) = (kt p s (k + 1) (t - 1)).take (z - 32 * k) := by
    rcases Nat.le_total 32 (z - 32 * k) with q | q
    · rw [Nat.min_eq_left q, List.take_of_length_le (by omega), List.take_of_length_le (by omega)]
    · rw [Nat.min_eq_right q]
  have e4 : (row8 ((kt p s (k + 1) (t - 1)).take (z - 32 * k))).length = min 32 (z - 32 * k) := by
    rw [row8_len, List.length_take, hx, Nat.min_comm]
  rw [e1, e2, e3]
  unfold splice
  rw [e4, row8_app, row8_app, row8_app, List.take_append_of_le_length (by rw [row8_len]; omega), List.take_of_length_le (by rw [row8_len]; omega)]
  congr 2
  rw [List.drop_append, row8_len, hl, List.drop_eq_nil_of_le (by rw [row8_len]; omega), List.nil_append]
  unfold row8
  rw [← List.map_drop, List.drop_replicate]
  congr 2
  omega
end SM
open SM
theorem ex_slice_l {o : Oper} {a : Act} {w : World} {x y : Operand} {b off n cap k : Nat} (ho : o.op = .slice 31 x (some y) none none) (hx : a.eval x = .slice (some ⟨b, off, none⟩) n cap) (hy : a.eval y = .int .i64 (k : Int)) (hk : k ≤ n) (hc : k < cap) :
    (execOp a.eval o).run Tryd.prog w = .ok (.value (.slice (some ⟨b, off + k, none⟩) (n - k) (cap - k))) w := by
  have q : (k : Int) ≤ (n : Int) := by omega
  have q2 : cap ≠ k := by omega
  unfold execOp
  rw [ho]
  simp only [Option.map_some, Option.map_none, hx, hy]
  go_simp
theorem zeros8 (n : Nat) : row8 (List.replicate n 0) = List.replicate n (.int .u8 0) := by unfold row8; rw [List.map_replicate]; rfl
set_option maxRecDepth 100000 in
set_option maxHeartbeats 4000000 in
theorem kderive_any (p s : List Nat) (t z : Int) (u v : Value) (w : World) (hu : Rd w u p) (hv : Rd w v s) (ht : TabP w) :
    Calls Tryd.prog 24 #[u, v, .int .i64 t, .int .i64 z] w fun e w' => ∃ y, e = .returned (.tuple #[y, .int .i64 (kerr p s t z)]) ∧ Rd w' y (kres p s t z) ∧ Below w.heap.size w w' := by
  obtain ⟨au, cu, rfl, hcu⟩ := hu.shape
  obtain ⟨av, cv, rfl, hcv⟩ := hv.shape
  have HU := Lib.hid hu
  have HV := Lib.hid hv
  have HT := Lib.hid ht
  have HE := Lib.hid (fun (x : Int) (h : kerr p s t z = x) (h0 : x ≠ 0) => (show kres p s t z = [] by unfold kres; rw [if_neg (by rw [h]; exact h0)]))
  clear hu hv ht
  by_cases h1 : 512 < p.length
  · have h1I : (512 : Int) < (p.length : Int) := by omega
    have hk : kerr p s t z = 5 := by unfold kerr; rw [if_pos (.inl h1)]
    have HK := Lib.hid hk
    clear hk
    go_enter Tryd.func24, Tryd.ntmps24
    go_wp2_with fail
    go_ret2
    exact ⟨.slice none 0 0, by rw [HK.out]; rfl, by rw [HE.out 5 HK.out (by omega)]; exact Rd.none_ w, Below.refl _ _⟩
  have h1I : ¬ (512 : Int) < (p.length : Int) := by omega
  by_cases h2 : 1024 < s.length
  · have h2I : (1024 : Int) < (s.length : Int) := by omega
    have hk : kerr p s t z = 5 := by unfold kerr; rw [if_pos (.inr h2)]
    have HK := Lib.hid hk
    clear hk
    go_enter Tryd.func24, Tryd.ntmps24
    go_wp2_with fail
    go_ret2
    exact ⟨.slice none 0 0, by rw [HK.out]; rfl, by rw [HE.out 5 HK.out (by omega)]; exact Rd.none_ w, Below.refl _ _⟩
  have h2I : ¬ (1024 : Int) < (s.length : Int) := by omega
  have h12 : ¬ (512 < p.length ∨ 1024 < s.length) := by omega
  by_cases h3 : t < 1 ∨ 4096 < t ∨ z < 0 ∨ 1024 < z
  · have hk : kerr p s t z = 2 := by unfold kerr; rw [if_neg h12, if_pos h3]
    have HK := Lib.hid hk
    clear hk
    by_cases t1 : t < 1
    · go_enter Tryd.func24, Tryd.ntmps24
      go_wp2_with fail
      go_ret2
      exact ⟨.slice none 0 0, by rw [HK.out]; rfl, by rw [HE.out 2 HK.out (by omega)]; exact Rd.none_ w, Below.refl _ _⟩
    by_cases t2 : 4096 < t
    · go_enter Tryd.func24, Tryd.ntmps24
      go_wp2_with fail
      go_ret2
      exact ⟨.slice none 0 0, by rw [HK.out]; rfl, by rw [HE.out 2 HK.out (by omega)]; exact Rd.none_ w, Below.refl _ _⟩
    by_cases z1 : z < 0
    · go_enter Tryd.func24, Tryd.ntmps24
      go_wp2_with fail
      go_ret2
      exact ⟨.slice none 0 0, by rw [HK.out]; rfl, by rw [HE.out 2 HK.out (by omega)]; exact Rd.none_ w, Below.refl _ _⟩
    have z2 : 1024 < z := by omega
    go_enter Tryd.func24, Tryd.ntmps24
    go_wp2_with fail
    go_ret2
    exact ⟨.slice none 0 0, by rw [HK.out]; rfl, by rw [HE.out 2 HK.out (by omega)]; exact Rd.none_ w, Below.refl _ _⟩
  have hk : kerr p s t z = 0 := by unfold kerr; rw [if_neg h12, if_neg h3]
  obtain ⟨n, rfl⟩ : ∃ n : Nat, t = (n : Int) := ⟨t.toNat, by omega⟩
  obtain ⟨m, rfl⟩ : ∃ m : Nat, z = (m : Int) := ⟨z.toNat, by omega⟩
  have t1 : ¬ (n : Int) < 1 := by omega
  have t2 : ¬ (4096 : Int) < (n : Int) := by omega
  have z1 : ¬ (m : Int) < 0 := by omega
  have z2 : ¬ (1024 : Int) < (m : Int) := by omega
  have hr : kres p s (n : Int) (m : Int) = kder p s n m := by unfold kres; rw [if_pos hk]; simp
  have HK := Lib.hid hk
  have HR := Lib.hid hr
  obtain ⟨D0, hD0⟩ : ∃ C0, C0 = row8 (List.replicate 32 0) := ⟨_, rfl⟩
  have hzs : ∀ w, (zeroValue 26).run Tryd.prog w = .ok (.agg D0.toArray) w := by rw [hD0]; exact zeroSum
  have hd0 : D0.length = 32 := by rw [hD0, row8_len, List.length_replicate]
  obtain ⟨i0, hi, hz0, hz1, hz2⟩ := info_parts infoB
  have HI := Lib.hid hi
  have HZ0 := Lib.hid hz0
  have HZ1 := Lib.hid hz1
  have HB2 := Lib.hid (show i0.bytes * m ≤ 281474976710656 by rw [hz2]; omega)
  have HB3 := Lib.hid (show m ≤ maxLen by unfold maxLen; omega)
  clear hk hr hD0 HE h3 hi hz0 hz1 hz2
  have hq : ((m : Int) + 32 - 1).tdiv 32 = (((m + 31) / 32 : Nat) : Int) := by rw [Int.tdiv_eq_ediv_of_nonneg (by omega)]; omega
  go_enter Tryd.func24, Tryd.ntmps24
  go_upto_region 7 with (refine wpList_make_full _ rfl (.tmp 35) (.tmp 35) 31 rfl w.heap.size 5 i0 (.int .u8 0) 1 Tryd.underlying31 HI.out HZ0.out HZ1.out .i64 .i64 _ _ m rfl rfl rfl rfl HB2.out HB3.out (Nat.le_refl _) ?_; intro w1 hown hg; have b1 : Blk w1 w.heap.size 5 (row8 (List.replicate m 0)) := (own_blk (l := List.replicate m 0) (by rw [zeros8, ← toList_madeCells_one]; rw [Nat.mul_one] at hown; exact hown)); have B1 := Lib.hid b1; have G1 := Lib.hid (below_of_grown hg); clear hown hg b1)
  go_loopw [41] (fun x wr => ∃ k : Nat, k ≤ (m + 31) / 32 ∧ x = .int .i64 (k : Int) ∧ Blk wr w.heap.size 5 (row8 (kz p s n m k)) ∧ Below w.heap.size w wr) (fun x _ => (m + 31) / 32 - (intOf x).toNat)
  case atStart => exact ⟨0, by omega, rfl, by rw [kz_zero]; exact B1.out, G1.out⟩
  case round =>
    clear B1 G1
    obtain ⟨k, hk, rfl, r0, b0⟩ := hrel
    have R0 := Lib.hid r0
    have B0 := Lib.hid b0
    have hwr := b0.size
    have hwl := r0.lt
    clear r0 b0
    by_cases hlt : k < (m + 31) / 32
    · have hltI : (k : Int) < ((m : Int) + 31) / 32 := by omega
      have hkm : 32 * k < m := by omega
      have hkI : (k : Int) * 32 < (m : Int) := by omega
      have hiw : ((k : Int) + 1) % 4294967296 = (k : Int) + 1 := by omega
      obtain ⟨X, hX⟩ : ∃ X, X = kt p s (k + 1) (n - 1) := ⟨_, rfl⟩
      have bX : Bytes 32 X := by rw [hX]; exact kt_bytes _ _ _ _
      have HST := Lib.hid (show splice (row8 (kz p s n m k)) (32 * k) (row8 (X.take (min 32 (m - 32 * k)))) = row8 (kz p s n m (k + 1)) by rw [hX]; exact kz_step p s n m k hkm)
      have F0 := kblock_any p s n (k + 1) (by omega) (by omega) (by omega) (by omega) (.slice au p.length cu) (.slice av s.length cv) wr (HU.out.below B0.out) (HV.out.below B0.out) (HT.out.below B0.out)
      rw [← hX, show ((k + 1 : Nat) : Int) = (k : Int) + 1 by omega] at F0
      have FF := Lib.hid F0
      have X32 := Lib.hid (show (row8 X).length = 32 by rw [row8_len]; exact bX.1)
      have HXB := Lib.hid bX
      clear F0 bX hX
      go_upto_region 10 with (first
        | (go_at_call 45; (with_reducible refine FF.out.mono ?_); rintro e w2 ⟨rfl, b2⟩; have B2 := Lib.hid (B0.out.on b2); have R2 := Lib.hid (R0.out.below b2 R0.out.lt); clear b2)
        | (refine wpList_store_blk rfl 26 (.tmp 12) (.tmp 50) rfl w2.heap.size 0 (row8 X) rfl rfl 26 D0 (Blk.new w2 26 D0 _ rfl) (by rw [X32.out, hd0]; exact Nat.le_refl _) (by rw [X32.out]; exact infoS) (row8_one _) ?_; intro w3 b3 g3; rw [splice_all _ _ (by rw [X32.out, hd0])] at b3; have B3 := Lib.hid (own_turn B2.out g3); have R3 := Lib.hid ((R2.out.alloc (.cells D0.toArray 26)).grown g3 (fun q => by have e : w.heap.size = w2.heap.size := Option.some.inj q; have := R2.out.lt; omega)); have r3 := blk_rd b3 HXB.out.2 (n := 32) (cap := 32) (by rw [HXB.out.1]; omega) (by omega) (by rw [HXB.out.1]; omega); rw [List.take_of_length_le (by rw [HXB.out.1]; omega)] at r3; have X3 := Lib.hid r3; clear b3 g3 r3))
      simp only [put_none]
      obtain ⟨xb, hxb⟩ : ∃ b, b = w2.heap.size := ⟨_, rfl⟩
      rw [← hxb] at X3 ⊢
      have hxw : w.heap.size < xb := by rw [hxb]; exact R2.out.lt
      clear B2 R2 FF R0 B0 hxb
      refine wp_region_g (by kernel_rfl) 5 (by decide) (by kernel_rfl) (by kernel_rfl) (by kernel_rfl) w3.heap.size (Nat.le_refl _) [.val (.slice (some ⟨w.heap.size, 0, none⟩) m m), .val (.int .i64 (k : Int)), .val (.int .i64 ((32 * k : Nat) : Int)), .val (.slice (some ⟨w.heap.size, 0 + 32 * k, none⟩) (m - 32 * k) (m - 32 * k)), .val (.slice (some ⟨xb, 0, none⟩) 32 32)] (fun _ => 6) ?_ ?_
      · refine ⟨?_, ?_, ?_, ?_, ?_, trivial⟩
        · intro a w' hF hB hd
          have e0 : a.eval (.tmp 10) = .slice (some ⟨w.heap.size, 0, none⟩) m m := hF 10 (by decide +kernel)
          exact doesG_val rfl (ex_move rfl e0) rfl rfl
        · intro a w' hF hB hd
          have e0 : a.eval (.tmp 11) = .int .i64 (k : Int) := hF 11 (by decide +kernel)
          exact doesG_val rfl (ex_move rfl e0) rfl rfl
        · intro a w' hF hB hd
          have e0 : a.eval (.tmp 52) = .int .i64 (k : Int) := hd 1 (by decide +kernel) (.inr (by decide))
          exact doesG_val rfl (v := .int .i64 ((32 * k : Nat) : Int)) (by unfold execOp; simp only [e0]; go_simp; rw [IntKind.wrap_i64]; omega) rfl rfl
        · intro a w' hF hB hd
          have e0 : a.eval (.tmp 51) = .slice (some ⟨w.heap.size, 0, none⟩) m m := hd 0 (by decide +kernel) (.inr (by decide))
          have e1 : a.eval (.tmp 53) = .int .i64 ((32 * k : Nat) : Int) := hd 2 (by decide +kernel) (.inr (by decide))
          exact doesG_val rfl (ex_slice_l rfl e0 e1 (by omega) (by omega)) rfl rfl
        · intro a w' hF hB hd
          have e0 : a.eval (.tmp 12) = .pointer (some ⟨xb, 0, none⟩) := hF 12 (by decide +kernel)
          exact doesG_val rfl (v := .slice (some ⟨xb, 0, none⟩) 32 32) (by unfold execOp; simp only [e0]; go_simp) rfl rfl
      · intro vs w6 hB hv hap
        have e3 : vs 3 = .slice (some ⟨w.heap.size, 0 + 32 * k, none⟩) (m - 32 * k) (m - 32 * k) := hv 3 (by omega) (by omega)
        have e4 : vs 4 = .slice (some ⟨xb, 0, none⟩) 32 32 := hv 4 (by omega) (by omega)
        have B6 := Lib.hid (B3.out.on hB)
        have R6 := Lib.hid (R3.out.below hB R3.out.lt)
        have X6 := Lib.hid (X3.out.below hB)
        simp only [List.take_succ_cons, List.take_zero, List.drop_succ_cons, List.drop_zero, putOps, Act.put, List.setIfInBounds_toArray, List.set_cons_zero, List.set_cons_succ, e3, e4]
        obtain ⟨y3, hy3⟩ : ∃ y, y = vs 3 := ⟨_, rfl⟩
        generalize vs 0 = z0 at *
        generalize vs 1 = z1 at *
        generalize vs 2 = z2 at *
        have HST' := HST.out
        have hml : min 32 (m - 32 * k) = min X.length (m - 32 * k) := by rw [HXB.out.1]
        have HML := Lib.hid hml
        have HLE := Lib.hid (show 32 * k + min 32 (m - 32 * k) ≤ (row8 (kz p s n m k)).length by rw [row8_len, kz_len]; omega)
        clear hv hap e3 e4 hB hml HST'
        go_wp2_with ((with_reducible show wpList _ _ _ _ _ _); refine wpList_copy_blk rfl (.tmp 54) (.tmp 55) 31 31 rfl Tryd.underlying31 w.heap.size (32 * k) (m - 32 * k) (m - 32 * k) 5 (row8 (kz p s n m k)) R6.out (some ⟨w.heap.size, 0 + 32 * k, none⟩) rfl (.slice (some ⟨xb, 0, none⟩) 32 32) rfl X X6.out (min 32 (m - 32 * k)) HML.out (fun _ => by rw [Nat.zero_add]) HLE.out ?_; intro w7 r7 g7; rw [HST.out] at r7; have R7 := Lib.hid r7; have B7 := Lib.hid (B6.out.grown g7 B6.out.size (fun j hj => by have e : w.heap.size = j := Option.some.inj hj; omega)); clear r7 g7)
        exact ⟨⟨k + 1, by omega, by go_num, R7.out, B7.out⟩, by simp [intOf]; omega⟩
    · have hltI : ¬ (k : Int) < ((m : Int) + 31) / 32 := by omega
      obtain rfl : k = (m + 31) / 32 := by omega
      have r9 := R0.out
      rw [kz_all] at r9
      have q9 := (blk_own (base := w.heap.size) r9 (Nat.le_refl _) (by rw [← kz_all]; exact kz_byte _ _ _ _ _) (by rw [kder_len]; omega)).rd
      rw [kder_len] at q9
      have Q9 := Lib.hid q9
      clear r9 q9
      go_wp2_with fail
      go_ret2
      exact ⟨.slice (some ⟨w.heap.size, 0, none⟩) m m, by rw [HK.out]; rfl, by rw [HR.out]; exact Q9.out, B0.out⟩
end Go.Proofs.YtbepchikngoknaaDoor

/- Texts of one subject in one file: KdfRef, KdfDerive, KdfLabel. Own work. -/
import Derived.Test.YtbepchikngoknaaDoorKdfMath
import Derived.Test.YtbepchikngoknaaDoorOct
import Derived.Test.YtbepchikngoknaaDoorHmacR
import Derived.BigRegion
import Derived.Test.YtbepchikngoknaaDoorStrConv
import Derived.Test.YtbepchikngoknaaDoorMem
/- The document's keys of passphrases: a block: contract. Own work. -/
namespace Go.Proofs.YtbepchikngoknaaDoor
open Go.ChangeShapes Go.WideShapes Go.ChangeAt Go.RowKit
open SM
set_option maxRecDepth 100000 in
set_option maxHeartbeats 4000000 in
theorem rkblock_any (p s : List Nat) (t i : Nat) (hp : p.length ≤ 512) (hs : s.length ≤ 1024) (ht1 : 1 ≤ t) (ht2 : t ≤ 4096) (hi : i < 4294967296) (u v : Value) (w : World) (hu : Rd w u p) (hv : Rd w v s) (ht : Tab w) :
    Calls Tryd.prog 79 #[u, v, .int .i64 (t : Int), .int .i64 (i : Int)] w fun e w' => e = .returned (.agg (row8 (kt p s i (t - 1))).toArray) ∧ Below w.heap.size w w' := by
  obtain ⟨au, cu, rfl, hcu⟩ := hu.shape
  obtain ⟨av, cv, rfl, hcv⟩ := hv.shape
  have HU := Lib.hid hu
  have HV := Lib.hid hv
  have HT := Lib.hid ht
  obtain ⟨D0, hD0⟩ : ∃ C0, C0 = row8 (List.replicate 32 0) := ⟨_, rfl⟩
  have hzs : ∀ w, (zeroValue 26).run Tryd.prog w = .ok (.agg D0.toArray) w := by rw [hD0]; exact zeroSum
  have hd0 : D0.length = 32 := by rw [hD0, row8_len, List.length_replicate]
  have BB1 := Lib.hid ((Below.refl w.heap.size w).alloc (Nat.le_refl _) (.cells D0.toArray 26))
  have R1 := Lib.hid (Blk.new w 26 D0 _ rfl)
  have E0 := Lib.hid (show Own ((w.alloc (.cells D0.toArray 26)).alloc (.cells #[] 5)) w.heap.size (.slice (some ⟨w.heap.size + 1, 0, none⟩) 0 0) [] from own_empty _ (by simp) (by simp))
  have BE := Lib.hid (((Below.refl w.heap.size w).alloc (Nat.le_refl _) (.cells D0.toArray 26)).alloc (by simp) (.cells #[] 5))
  have RE := Lib.hid ((Blk.new w 26 D0 _ rfl).alloc (.cells #[] 5))
  obtain ⟨U0, hU0⟩ : ∃ U, U = ku p s i 0 := ⟨_, rfl⟩
  have HU0 := Lib.hid hU0
  have bU0 : Bytes 32 U0 := by rw [hU0]; exact ku_bytes p s i 0
  have U32 := Lib.hid (show (row8 U0).length = 32 by rw [row8_len]; exact bU0.1)
  have HBE := Lib.hid (be_len i 4)
  clear hu hv ht hD0 hU0 bU0
  go_enter Tryd.func79, Tryd.ntmps79
  have hiw : ((i : Int) % 18446744073709551616) = (i : Int) := by omega
  go_upto_region 4 with (first
    | (at_builtin; refine wpList_app rfl (.tmp 14) (.tmp 15) rfl w.heap.size (.slice (some ⟨w.heap.size + 1, 0, none⟩) 0 0) (.slice av s.length cv) [] s rfl rfl E0.out (HV.out.below BE.out) (by simp; omega) BE.out.size ?_; intro y2 w2 o2 g2 k2; rw [List.nil_append] at o2; have O2 := Lib.hid o2; have B2 := Lib.hid (BE.out.grown g2 BE.out.size (fun k hk => (E0.out.from k hk).1)); have R2 := Lib.hid (RE.out.grown g2 (fun q => by have e : w.heap.size = w.heap.size + 1 := Option.some.inj q; omega)); have N2 := Lib.hid (show y2.ownBlock ≠ some w.heap.size from fun q => by rcases k2 with z | z <;> rw [z] at q <;> have e := Option.some.inj q <;> simp at e <;> omega); clear o2 g2 k2)
    | (go_at_call 28; refine (rput_any i 4 (by omega) (by omega) _).mono ?_; rintro e w3 ⟨y3, rfl, o3, b3⟩; have B3 := Lib.hid (B2.out.on b3); have R3 := Lib.hid (R2.out.below b3 R2.out.lt); have O3 := Lib.hid (O2.out.below b3); have P3 := Lib.hid o3.rd; clear o3 b3)
    | (at_builtin; refine wpList_app rfl (.tmp 16) (.tmp 19) rfl w.heap.size y2 y3 s (be i 4) rfl rfl O3.out P3.out (by have := HBE.out; omega) B3.out.size ?_; intro y4 w4 o4 g4 k4; have B4 := Lib.hid (B3.out.grown g4 B3.out.size (fun k hk => (O3.out.from k hk).1)); have R4 := Lib.hid (R3.out.grown g4 (fun q => N2.out q.symm)); have F4 := Lib.hid (rmac_any p (s ++ be i 4) (by omega) (by rw [List.length_append]; have := HBE.out; omega) (.slice au p.length cu) y4 w4 (HU.out.below B4.out) o4.rd (HT.out.below B4.out)); rw [show mac p (s ++ be i 4) = U0 from HU0.out.symm] at F4; clear o4 g4 k4)
    | (go_at_call 76; (with_reducible refine F4.out.mono ?_); rintro e w5 ⟨rfl, b5⟩; have B5 := Lib.hid (B4.out.on b5); have R5 := Lib.hid (R4.out.below b5 R4.out.lt); clear b5)
    | (refine wpList_store_blk rfl 26 (.tmp 9) (.tmp 21) rfl w5.heap.size 0 (row8 U0) rfl rfl 26 D0 (Blk.new w5 26 D0 _ rfl) (by rw [U32.out, hd0]; exact Nat.le_refl _) (by rw [U32.out]; exact infoS) (row8_one _) ?_; intro w6 b6 g6; rw [splice_all _ _ (by rw [U32.out, hd0])] at b6; have N6 := Lib.hid b6; have B6 := Lib.hid (own_turn B5.out g6); have R6 := Lib.hid ((R5.out.alloc (.cells D0.toArray 26)).grown g6 (fun q => by have e : w.heap.size = w5.heap.size := Option.some.inj q; have := R5.out.lt; omega)); clear b6 g6)
    | (refine wpList_load_mid rfl 26 (.tmp 9) rfl w5.heap.size 0 rfl (row8 U0) _ N6.out.range Tryd.underlying26 rfl (by rw [U32.out]; exact infoS) ?_)
    | (refine wpList_store_blk rfl 26 (.tmp 10) (.tmp 22) rfl w6.heap.size 0 (row8 U0) rfl rfl 26 D0 (Blk.new w6 26 D0 _ rfl) (by rw [U32.out, hd0]; exact Nat.le_refl _) (by rw [U32.out]; exact infoS) (row8_one _) ?_; intro w7 b7 g7; rw [splice_all _ _ (by rw [U32.out, hd0])] at b7; have T7 := Lib.hid b7; have B7 := Lib.hid (own_turn B6.out g7); have R7 := Lib.hid ((R6.out.alloc (.cells D0.toArray 26)).grown g7 (fun q => by have e : w.heap.size = w6.heap.size := Option.some.inj q; have := R6.out.lt; omega)); have N7 := Lib.hid ((N6.out.alloc (.cells D0.toArray 26)).grown g7 (fun q => by have e : w5.heap.size = w6.heap.size := Option.some.inj q; have := N6.out.lt; omega)); clear b7 g7))
  have hne : w5.heap.size ≠ w6.heap.size := by have := N6.out.lt; omega
  have hwu : w.heap.size < w5.heap.size := R5.out.lt
  have hwt : w.heap.size < w6.heap.size := R6.out.lt
  obtain ⟨ub, hub⟩ : ∃ b, b = w5.heap.size := ⟨_, rfl⟩
  obtain ⟨tb, htb⟩ : ∃ b, b = w6.heap.size := ⟨_, rfl⟩
  rw [← hub] at N7 hne hwu ⊢
  rw [← htb] at T7 hne hwt ⊢
  rw [HU0.out] at N7 T7
  clear hub htb N6 B6 R6 B5 R5 F4 B4 R4 B3 R3 O3 P3 N2 O2 B2 R2 E0 BE RE BB1 R1 HBE hzs hiw U32
  go_loopw [11] (fun x wr => ∃ n : Nat, n + 1 ≤ t ∧ x = .int .i64 ((n : Int) + 1) ∧ Blk wr w.heap.size 26 D0 ∧ Blk wr ub 26 (row8 (ku p s i n)) ∧ Blk wr tb 26 (row8 (kt p s i n)) ∧ Below w.heap.size w wr) (fun x _ => t - (intOf x).toNat)
  case atStart => exact ⟨0, by omega, rfl, R7.out, N7.out, T7.out, B7.out⟩
  case round =>
    clear R7 N7 T7 B7
    obtain ⟨n, hn, rfl, r0, n0, t0, b0⟩ := hrel
    obtain ⟨U, hU⟩ : ∃ U, U = ku p s i n := ⟨_, rfl⟩
    obtain ⟨X, hX⟩ : ∃ X, X = kt p s i n := ⟨_, rfl⟩
    rw [← hU] at n0
    rw [← hX] at t0
    have bU : Bytes 32 U := by rw [hU]; exact ku_bytes p s i n
    have bX : Bytes 32 X := by rw [hX]; exact kt_bytes p s i n
    by_cases hlt : n + 1 < t
    · have hltI : (n : Int) + 1 < (t : Int) := by omega
      obtain ⟨V, hVe⟩ : ∃ V, V = mac p U := ⟨_, rfl⟩
      have hV2 : V = ku p s i (n + 1) := by rw [hVe, hU]; rfl
      have bV : Bytes 32 V := by rw [hV2]; exact ku_bytes p s i (n + 1)
      have V32 := Lib.hid (show (row8 V).length = 32 by rw [row8_len]; exact bV.1)
      have u9 := blk_rd n0 bU.2 (n := 32) (cap := 32) (by rw [bU.1]; omega) (by omega) (by rw [bU.1]; omega)
      rw [List.take_of_length_le (by rw [bU.1]; omega)] at u9
      have F0 := Lib.hid (rmac_any p U (by omega) (by rw [bU.1]; omega) (.slice au p.length cu) (.slice (some ⟨ub, 0, none⟩) 32 32) wr (HU.out.below b0) u9 (HT.out.below b0))
      rw [← hVe] at F0
      have UL := Lib.hid (show (row8 U).length = 32 by rw [row8_len]; exact bU.1)
      have R0 := Lib.hid r0
      have N0 := Lib.hid n0
      have T0 := Lib.hid t0
      have B0 := Lib.hid b0
      have HXB := Lib.hid bX
      have HVB := Lib.hid bV
      have HXK := Lib.hid (show xq X V 32 = kt p s i (n + 1) by rw [hX, hV2]; rfl)
      have HV2 := Lib.hid hV2
      clear r0 n0 t0 b0 u9 bU bX bV hU hX hVe hV2
      go_upto_region 7 with (first
        | (go_at_call 76; (with_reducible refine F0.out.mono ?_); rintro e w8 ⟨rfl, b8⟩; have B8 := Lib.hid (B0.out.on b8); have R8 := Lib.hid (R0.out.below b8 R0.out.lt); have N8 := Lib.hid (N0.out.below b8 N0.out.lt); have T8 := Lib.hid (T0.out.below b8 T0.out.lt); clear b8)
        | (refine wpList_store_blk rfl 26 (.tmp 9) (.tmp 30) rfl ub 0 (row8 V) rfl rfl 26 (row8 U) N8.out (by rw [V32.out, UL.out]; exact Nat.le_refl _) (by rw [V32.out]; exact infoS) (row8_one _) ?_; intro w9 b9 g9; rw [splice_all _ _ (by rw [V32.out, UL.out])] at b9; have N9 := Lib.hid b9; have B9 := Lib.hid (B8.out.grown g9 B8.out.size (fun k hk => by have e : ub = k := Option.some.inj hk; omega)); have R9 := Lib.hid (R8.out.grown g9 (fun q => by have e : w.heap.size = ub := Option.some.inj q; omega)); have T9 := Lib.hid (T8.out.grown g9 (fun q => by have e : tb = ub := Option.some.inj q; omega)); clear b9 g9))
      go_upto_region 8 with (fail)
      clear F0 B0 R0 N0 T0 B8 R8 N8 T8
      go_loopw [12] (fun x wq => ∃ k : Nat, k ≤ 32 ∧ x = .int .i64 (k : Int) ∧ Blk wq w.heap.size 26 D0 ∧ Blk wq ub 26 (row8 V) ∧ Blk wq tb 26 (row8 (xq X V k)) ∧ Below w.heap.size w wq) (fun x _ => 32 - (intOf x).toNat)
      case atStart => exact ⟨0, by omega, rfl, R9.out, N9.out, by rw [xq_zero HXB.out.1]; exact T9.out, B9.out⟩
      case round =>
        clear R9 N9 T9 B9
        obtain ⟨k, hk, rfl, r0, n0, t0, b0⟩ := hrel
        by_cases hlk : k < 32
        · have c1 := n0.cell k _ (row8_val _ k (by rw [HVB.out.1]; exact hlk))
          have c2 := t0.cell k _ (row8_val _ k (by rw [xq_len]; exact hlk))
          rw [xq_get _ _ _ _ hlk, if_neg (by omega)] at c2
          have f2 := t0.free k
          have hxr := u8_xor_nat (gb X k) (gb V k) (HXB.out.2 k) (HVB.out.2 k)
          have R0 := Lib.hid r0
          have N0 := Lib.hid n0
          have T0 := Lib.hid t0
          have B0 := Lib.hid b0
          clear r0 n0 t0 b0
          go_upto_region 10 with (fail)
          go_region
          have nt := (T0.out.set k (.int .u8 ((gb X k ^^^ gb V k : Nat) : Int))).drew
          rw [row8_set, xq_step _ _ _ hlk] at nt
          have NT := Lib.hid nt
          have NR := Lib.hid (R0.out.other ⟨tb, k, none⟩ (.int .u8 ((gb X k ^^^ gb V k : Nat) : Int)) (by simp <;> omega)).drew
          have NN := Lib.hid (N0.out.other ⟨tb, k, none⟩ (.int .u8 ((gb X k ^^^ gb V k : Nat) : Int)) (by simp <;> omega)).drew
          have NB := Lib.hid (B0.out.setCell (p := ⟨tb, k, none⟩) (by simp <;> omega) (.int .u8 ((gb X k ^^^ gb V k : Nat) : Int))).drew
          clear nt
          go_wp2_with fail
          exact ⟨⟨k + 1, by omega, by go_num, NR.out, NN.out, NT.out, NB.out⟩, by simp [intOf]; omega⟩
        · obtain rfl : k = 32 := by omega
          rw [HXK.out] at t0
          rw [HV2.out] at n0
          have R0 := Lib.hid r0
          have N0 := Lib.hid n0
          have T0 := Lib.hid t0
          have B0 := Lib.hid b0
          clear r0 n0 t0 b0
          go_wp2_with fail
          exact ⟨⟨n + 1, by omega, by go_num, R0.out, N0.out, T0.out, B0.out⟩, by simp [intOf]; omega⟩
    · have hltI : ¬ (n : Int) + 1 < (t : Int) := by omega
      have hnt : n = t - 1 := by omega
      rw [hnt] at hX
      have HXE := Lib.hid hX
      have X32 := Lib.hid (show (row8 X).length = 32 by rw [row8_len]; exact bX.1)
      have R0 := Lib.hid r0
      have T0 := Lib.hid t0
      have B0 := Lib.hid b0
      clear r0 n0 t0 b0 bU bX hU hX hnt
      go_wp2_with (first
        | (refine wpList_load_mid rfl 26 (.tmp 10) rfl tb 0 rfl (row8 X) _ T0.out.range Tryd.underlying26 rfl (by rw [X32.out]; exact infoS) ?_)
        | (refine wpList_store_mid rfl 26 (.tmp 8) (.tmp 44) rfl w.heap.size 0 (row8 X).toArray rfl rfl (R0.out.there _ (by rw [List.size_toArray, X32.out, hd0])) (by rw [List.size_toArray, X32.out]; exact infoS) (row8_one _) ?_))
      have fin := R0.out.whole (row8 X) (by rw [X32.out, hd0])
      exact bodyPost_ret (v := .agg (row8 X).toArray) (results_mid rfl _ _ w.heap.size (row8 X) _ rfl fin.range Tryd.underlying26 rfl (by rw [X32.out]; exact infoS)) rfl ⟨by rw [HXE.out], below_setCells w.heap.size (Nat.le_refl _) _ 0 _ B0.out⟩
end Go.Proofs.YtbepchikngoknaaDoor
/- The document's keys of passphrases: the whole: contract. Own work. -/
namespace Go.Proofs.YtbepchikngoknaaDoor
open Go.ChangeShapes Go.WideShapes Go.ChangeAt Go.RowKit
open SM
set_option maxRecDepth 100000 in
set_option maxHeartbeats 4000000 in
theorem rderive_any (p s : List Nat) (t z : Int) (u v : Value) (w : World) (hu : Rd w u p) (hv : Rd w v s) (ht : Tab w) :
    Calls Tryd.prog 60 #[u, v, .int .i64 t, .int .i64 z] w fun e w' => ∃ y, e = .returned (.tuple #[y, .int .i64 (kerr p s t z)]) ∧ Rd w' y (kres p s t z) ∧ Below w.heap.size w w' := by
  obtain ⟨au, cu, rfl, hcu⟩ := hu.shape
  obtain ⟨av, cv, rfl, hcv⟩ := hv.shape
  have HU := Lib.hid hu
  have HV := Lib.hid hv
  have HT := Lib.hid ht
  have HE := Lib.hid (fun (x : Int) (h : kerr p s t z = x) (h0 : x ≠ 0) => (show kres p s t z = [] by unfold kres; rw [if_neg (by rw [h]; exact h0)]))
  clear hu hv ht
  by_cases h1 : 512 < p.length
  · have h1I : (512 : Int) < (p.length : Int) := by omega
    have hk : kerr p s t z = 5 := by unfold kerr; rw [if_pos (.inl h1)]
    have HK := Lib.hid hk
    clear hk
    go_enter Tryd.func60, Tryd.ntmps60
    go_wp2_with fail
    go_ret2
    exact ⟨.slice none 0 0, by rw [HK.out]; rfl, by rw [HE.out 5 HK.out (by omega)]; exact Rd.none_ w, Below.refl _ _⟩
  have h1I : ¬ (512 : Int) < (p.length : Int) := by omega
  by_cases h2 : 1024 < s.length
  · have h2I : (1024 : Int) < (s.length : Int) := by omega
    have hk : kerr p s t z = 5 := by unfold kerr; rw [if_pos (.inr h2)]
    have HK := Lib.hid hk
    clear hk
    go_enter Tryd.func60, Tryd.ntmps60
    go_wp2_with fail
    go_ret2
    exact ⟨.slice none 0 0, by rw [HK.out]; rfl, by rw [HE.out 5 HK.out (by omega)]; exact Rd.none_ w, Below.refl _ _⟩
  have h2I : ¬ (1024 : Int) < (s.length : Int) := by omega
  have h12 : ¬ (512 < p.length ∨ 1024 < s.length) := by omega
  by_cases h3 : t < 1 ∨ 4096 < t ∨ z < 0 ∨ 1024 < z
  · have hk : kerr p s t z = 2 := by unfold kerr; rw [if_neg h12, if_pos h3]
    have HK := Lib.hid hk
    clear hk
    by_cases t1 : t < 1
    · go_enter Tryd.func60, Tryd.ntmps60
      go_wp2_with fail
      go_ret2
      exact ⟨.slice none 0 0, by rw [HK.out]; rfl, by rw [HE.out 2 HK.out (by omega)]; exact Rd.none_ w, Below.refl _ _⟩
    by_cases t2 : 4096 < t
    · go_enter Tryd.func60, Tryd.ntmps60
      go_wp2_with fail
      go_ret2
      exact ⟨.slice none 0 0, by rw [HK.out]; rfl, by rw [HE.out 2 HK.out (by omega)]; exact Rd.none_ w, Below.refl _ _⟩
    by_cases z1 : z < 0
    · go_enter Tryd.func60, Tryd.ntmps60
      go_wp2_with fail
      go_ret2
      exact ⟨.slice none 0 0, by rw [HK.out]; rfl, by rw [HE.out 2 HK.out (by omega)]; exact Rd.none_ w, Below.refl _ _⟩
    have z2 : 1024 < z := by omega
    go_enter Tryd.func60, Tryd.ntmps60
    go_wp2_with fail
    go_ret2
    exact ⟨.slice none 0 0, by rw [HK.out]; rfl, by rw [HE.out 2 HK.out (by omega)]; exact Rd.none_ w, Below.refl _ _⟩
  have hk : kerr p s t z = 0 := by unfold kerr; rw [if_neg h12, if_neg h3]
  obtain ⟨n, rfl⟩ : ∃ n : Nat, t = (n : Int) := ⟨t.toNat, by omega⟩
  obtain ⟨m, rfl⟩ : ∃ m : Nat, z = (m : Int) := ⟨z.toNat, by omega⟩
  have t1 : ¬ (n : Int) < 1 := by omega
  have t2 : ¬ (4096 : Int) < (n : Int) := by omega
  have z1 : ¬ (m : Int) < 0 := by omega
  have z2 : ¬ (1024 : Int) < (m : Int) := by omega
  have hr : kres p s (n : Int) (m : Int) = kder p s n m := by unfold kres; rw [if_pos hk]; simp
  have HK := Lib.hid hk
  have HR := Lib.hid hr
  obtain ⟨D0, hD0⟩ : ∃ C0, C0 = row8 (List.replicate 32 0) := ⟨_, rfl⟩
  have hzs : ∀ w, (zeroValue 26).run Tryd.prog w = .ok (.agg D0.toArray) w := by rw [hD0]; exact zeroSum
  have hd0 : D0.length = 32 := by rw [hD0, row8_len, List.length_replicate]
  clear hk hr hD0 HE h3
  go_enter Tryd.func60, Tryd.ntmps60
  go_wp2_with fail
  go_loopw [10, 11] (fun x i wr => ∃ k : Nat, 32 * k < m + 32 ∧ i = .int .i64 ((k : Int) + 1) ∧ Own wr w.heap.size x (kblocks p s n k) ∧ Below w.heap.size w wr) (fun x _ _ => m + 32 - vlen x)
  case atStart => exact ⟨0, by omega, rfl, own_nil w, Below.refl _ _⟩
  case round =>
    obtain ⟨k, hk, rfl, ho, bb⟩ := hrel
    obtain ⟨K, hKe⟩ : ∃ K, K = kblocks p s n k := ⟨_, rfl⟩
    rw [← hKe] at ho
    have hKL : K.length = 32 * k := by rw [hKe]; exact kblocks_len p s n k
    obtain ⟨ax, cx, rfl, hcx⟩ := ho.rd.shape
    by_cases hlt : K.length < m
    · have hltI : (K.length : Int) < (m : Int) := by omega
      have HKL := Lib.hid hKL
      obtain ⟨X, hX⟩ : ∃ X, X = kt p s (k + 1) (n - 1) := ⟨_, rfl⟩
      have bX : Bytes 32 X := by rw [hX]; exact kt_bytes _ _ _ _
      have HST := Lib.hid (show K ++ X = kblocks p s n (k + 1) by rw [hKe, hX]; exact kblocks_step p s n k)
      have F0 := rkblock_any p s n (k + 1) (by omega) (by omega) (by omega) (by omega) (by omega) (.slice au p.length cu) (.slice av s.length cv) wr (HU.out.below bb) (HV.out.below bb) (HT.out.below bb)
      rw [← hX, show ((k + 1 : Nat) : Int) = (k : Int) + 1 by omega] at F0
      have FF := Lib.hid F0
      have X32 := Lib.hid (show (row8 X).length = 32 by rw [row8_len]; exact bX.1)
      have HXB := Lib.hid bX
      have O0 := Lib.hid ho
      have B0 := Lib.hid bb
      clear F0 ho bb bX hX hKe hKL
      go_wp2_with (first
        | (go_at_call 79; (with_reducible refine FF.out.mono ?_); rintro e w2 ⟨rfl, b2⟩; have B2 := Lib.hid (B0.out.on b2); have O2 := Lib.hid (O0.out.below b2); clear b2)
        | (refine wpList_store_blk rfl 26 (.tmp 12) (.tmp 47) rfl w2.heap.size 0 (row8 X) rfl rfl 26 D0 (Blk.new w2 26 D0 _ rfl) (by rw [X32.out, hd0]; exact Nat.le_refl _) (by rw [X32.out]; exact infoS) (row8_one _) ?_; intro w3 b3 g3; rw [splice_all _ _ (by rw [X32.out, hd0])] at b3; have B3 := Lib.hid (own_turn B2.out g3); have O3 := Lib.hid ((O2.out.alloc (.cells D0.toArray 26)).keep g3 (.inr fun q => by have := (O2.out.from _ q).2; omega)); have r3 := blk_rd b3 HXB.out.2 (n := 32) (cap := 32) (by rw [HXB.out.1]; omega) (by omega) (by rw [HXB.out.1]; omega); rw [List.take_of_length_le (by rw [HXB.out.1]; omega)] at r3; have R3 := Lib.hid r3; clear b3 g3 r3)
        | (at_builtin; refine wpList_app rfl (.tmp 48) (.tmp 49) rfl w.heap.size (.slice ax K.length cx) (.slice (some ⟨w2.heap.size, 0, none⟩) 32 32) K X rfl rfl O3.out R3.out (by have := HXB.out.1; have := HKL.out; omega) B3.out.size ?_; intro y4 w4 o4 g4 k4; rw [HST.out] at o4; have O4 := Lib.hid o4; have B4 := Lib.hid (B3.out.grown g4 B3.out.size (fun k hk => (O3.out.from k hk).1)); clear o4 g4 k4))
      have hKL := HKL.out
      refine ⟨⟨k + 1, by omega, by go_num, O4.out, B4.out⟩, ?_⟩
      have e4 := O4.out.vlen
      rw [kblocks_len] at e4
      show m + 32 - vlen y4 < m + 32 - K.length
      omega
    · have hltI : ¬ (K.length : Int) < (m : Int) := by omega
      have p2 : (m : Int) ≤ (K.length : Int) := by omega
      have p3 : (m : Int) ≤ (cx : Int) := by omega
      have hcut : K.take m = kder p s n m := by rw [hKe]; exact kder_cut p s n k m (by omega)
      have R0 := Lib.hid (ho.rd.take m (by omega))
      rw [hcut] at R0
      have B0 := Lib.hid bb
      clear ho bb hKe hcut hKL
      go_wp2_with fail
      go_ret2
      exact ⟨.slice ax m cx, by rw [HK.out]; rfl, by rw [HR.out]; exact R0.out, B0.out⟩
end Go.Proofs.YtbepchikngoknaaDoor
/- The document's key of a key: contract. Own work. -/
namespace Go.Proofs.YtbepchikngoknaaDoor
open Go.ChangeShapes Go.WideShapes Go.ChangeAt Go.RowKit
open SM
theorem sb_append (a b : ByteArray) : sb (a ++ b) = sb a ++ sb b := by
  unfold sb
  rw [show (a ++ b).data.toList = a.data.toList ++ b.data.toList by simp]
  simp
theorem infoKey : (Tryd.prog.info? 25).map (·.size) = some 32 := by kernel_rfl
set_option maxRecDepth 100000 in
set_option maxHeartbeats 2000000 in
theorem rlabel_any (K : List Nat) (hK : Bytes 32 K) (s : ByteArray) (hs : s.size ≤ 140737488351232) (w : World) (ht : Tab w) :
    Calls Tryd.prog 75 #[.agg (row8 K).toArray, .string s] w fun e w' => e = .returned (.agg (row8 (klabel K (sb s))).toArray) ∧ Below w.heap.size w w' := by
  obtain ⟨M, hM⟩ : ∃ M, M = klabel K (sb s) := ⟨_, rfl⟩
  have bM : Bytes 32 M := by rw [hM]; exact sha_bytes _
  rw [← hM]
  have HMM := Lib.hid hM
  have HK := Lib.hid hK
  have HT := Lib.hid ht
  have K32 := Lib.hid (show (row8 K).length = 32 by rw [row8_len]; exact hK.1)
  have M32 := Lib.hid (show (row8 M).length = 32 by rw [row8_len]; exact bM.1)
  obtain ⟨D0, hD0⟩ : ∃ C0, C0 = row8 (List.replicate 32 0) := ⟨_, rfl⟩
  have hzk : ∀ w, (zeroValue 25).run Tryd.prog w = .ok (.agg D0.toArray) w := by
    rw [hD0]; intro w; kernel_rfl
  have hd0 : D0.length = 32 := by rw [hD0, row8_len, List.length_replicate]
  have n0 := Blk.new w 25 (row8 K) _ rfl
  have w1 := (Below.refl w.heap.size w).alloc (Nat.le_refl _) (.cells (row8 K).toArray 25)
  have w2 := w1.alloc w1.size (.cells D0.toArray 25)
  have N2 := Lib.hid (n0.alloc (.cells D0.toArray 25))
  have R2 := Lib.hid (Blk.new (w.alloc (.cells (row8 K).toArray 25)) 25 D0 (w.heap.size + 1) (by simp))
  have W2 := Lib.hid w2
  have HS := Lib.hid (show (sb ⟨#[114, 101, 108, 105, 113, 117, 97, 114, 121, 32]⟩ ++ sb s) = SM.ahead ++ sb s from rfl)
  clear hM bM hK ht hD0 n0 w1 w2
  go_enter Tryd.func75, Tryd.ntmps75
  go_wp2_with (first
    | ((with_reducible show wpList _ _ _ _ _ _); refine wpList_conv_str rfl (.tmp 7) rfl (⟨#[114, 101, 108, 105, 113, 117, 97, 114, 121, 32]⟩ ++ s) rfl (by rw [ByteArray.size_append]; have : (⟨#[114, 101, 108, 105, 113, 117, 97, 114, 121, 32]⟩ : ByteArray).size = 10 := rfl; omega) ?_; intro b cap w3 hb hr b3 hlt; rw [sb_append, HS.out, show ((⟨#[114, 101, 108, 105, 113, 117, 97, 114, 121, 32]⟩ : ByteArray) ++ s).size = 10 + s.size from ByteArray.size_append] at hr; have B3 := Lib.hid (W2.out.on b3); have R3 := Lib.hid (R2.out.below b3 R2.out.lt); have N3 := Lib.hid (N2.out.below b3 N2.out.lt); have k3 := blk_rd (N2.out.below b3 N2.out.lt) HK.out.2 (n := 32) (cap := 32) (by rw [HK.out.1]; omega) (by omega) (by rw [HK.out.1]; omega); rw [List.take_of_length_le (by rw [HK.out.1]; omega)] at k3; have F3 := Lib.hid (rmac_any K (SM.ahead ++ sb s) (by rw [HK.out.1]; omega) (by rw [List.length_append, sb_len]; have : SM.ahead.length = 10 := rfl; omega) _ _ w3 k3 hr (HT.out.below (W2.out.on b3))); rw [show mac K (SM.ahead ++ sb s) = M from HMM.out.symm] at F3; clear hr b3 k3 hb hlt)
    | (go_at_call 76; (with_reducible refine F3.out.mono ?_); rintro e w4 ⟨rfl, b4⟩; have B4 := Lib.hid (B3.out.on b4); have R4 := Lib.hid (R3.out.below b4 R3.out.lt); clear b4)
    | (refine wpList_store_mid rfl 25 (.tmp 4) (.tmp 9) rfl (w.heap.size + 1) 0 (row8 M).toArray rfl rfl (R4.out.there _ (by rw [List.size_toArray, M32.out, hd0])) (by rw [List.size_toArray, M32.out]; exact infoKey) (row8_one _) ?_))
  have fin := R4.out.whole (row8 M) (by rw [M32.out, hd0])
  exact bodyPost_ret (v := .agg (row8 M).toArray) (results_mid rfl _ _ (w.heap.size + 1) (row8 M) _ rfl fin.range Tryd.underlying25 rfl (by rw [M32.out]; exact infoKey)) rfl ⟨rfl, below_setCells (w.heap.size + 1) (by omega) _ 0 _ B4.out⟩
end Go.Proofs.YtbepchikngoknaaDoor

/- The program's keys of passphrases: the whole: contract. Own work. -/
import Derived.Test.YteklchmbeiclcaaDoorKdfBlockP
import Derived.Test.YteklchmbeiclcaaDoorShaD
import Derived.Test.YteklchmbeiclcaaDoorMem
namespace Go.Proofs.YteklchmbeiclcaaDoor
open Go.ChangeShapes Go.WideShapes Go.ChangeAt Go.RowKit
namespace SM
/-- The first z bytes of the first k blocks, and noughts behind them: as many as there are to be. -/
def kz (p s : List Nat) (t z k : Nat) : List Nat := (kblocks p s t k).take z ++ List.replicate (z - 32 * k) 0
theorem kz_zero (p s : List Nat) (t z : Nat) : kz p s t z 0 = List.replicate z 0 := by
  unfold kz kblocks; simp
theorem kz_len (p s : List Nat) (t z k : Nat) : (kz p s t z k).length = z := by
  unfold kz; rw [List.length_append, List.length_take, kblocks_len, List.length_replicate]; omega
theorem kz_byte (p s : List Nat) (t z k : Nat) : ∀ j, gb (kz p s t z k) j < 256 :=
  gb_app _ _ (gb_take_byte _ _ (kblocks_byte p s t k)) (bytes_zero _).2
theorem kz_all (p s : List Nat) (t z : Nat) : kz p s t z ((z + 31) / 32) = kder p s t z := by
  unfold kz kder
  rw [show z - 32 * ((z + 31) / 32) = 0 by omega, List.replicate_zero, List.append_nil]
theorem kz_step (p s : List Nat) (t z k : Nat) (h : 32 * k < z) : splice (row8 (kz p s t z k)) (32 * k) (row8 ((kt p s (k + 1) (t - 1)).take (min 32 (z - 32 * k)))) = row8 (kz p s t z (k + 1)) := by
  have hl : (kblocks p s t k).length = 32 * k := kblocks_len p s t k
  have hx : (kt p s (k + 1) (t - 1)).length = 32 := (kt_bytes _ _ _ _).1
  have e1 : kz p s t z k = kblocks p s t k ++ List.replicate (z - 32 * k) 0 := by
    unfold kz; rw [List.take_of_length_le (by omega)]
  have e2 : kz p s t z (k + 1) = kblocks p s t k ++ ((kt p s (k + 1) (t - 1)).take (z - 32 * k) ++ List.replicate (z - 32 * k - 32) 0) := by
    unfold kz
    rw [← kblocks_step, List.take_append, hl, List.take_of_length_le (by omega), List.append_assoc, show z - 32 * (k + 1) = z - 32 * k - 32 by omega]
  have e3 : (kt p s (k + 1) (t - 1)).take (min 32 (z - 32 * k)) = (kt p s (k + 1) (t - 1)).take (z - 32 * k) := by
    rcases Nat.le_total 32 (z - 32 * k) with q | q
    · rw [Nat.min_eq_left q, List.take_of_length_le (by omega), List.take_of_length_le (by omega)]
    · rw [Nat.min_eq_right q]
  have e4 : (row8 ((kt p s (k + 1) (t - 1)).take (z - 32 * k))).length = min 32 (z - 32 * k) := by
    rw [row8_len, List.length_take, hx, Nat.min_comm]
  rw [e1, e2, e3]
  unfold splice
  rw [e4, row8_app, row8_app, row8_app, List.take_append_of_le_length (by rw [row8_len]; omega), List.take_of_length_le (by rw [row8_len]; omega)]
  congr 2
  rw [List.drop_append, row8_len, hl, List.drop_eq_nil_of_le (by rw [row8_len]; omega), List.nil_append]
  unfold row8
  rw [← List.map_drop, List.drop_replicate]
  congr 2
  omega
end SM
open SM
theorem ex_slice_l {o : Oper} {a : Act} {w : World} {x y : Operand} {b off n cap k : Nat} (ho : o.op = .slice 22 x (some y) none none) (hx : a.eval x = .slice (some ⟨b, off, none⟩) n cap) (hy : a.eval y = .int .i64 (k : Int)) (hk : k ≤ n) (hc : k < cap) :
    (execOp a.eval o).run Tryd.prog w = .ok (.value (.slice (some ⟨b, off + k, none⟩) (n - k) (cap - k))) w := by
  have q : (k : Int) ≤ (n : Int) := by omega
  have q2 : cap ≠ k := by omega
  unfold execOp
  rw [ho]
  simp only [Option.map_some, Option.map_none, hx, hy]
  go_simp
theorem zeros8 (n : Nat) : row8 (List.replicate n 0) = List.replicate n (.int .u8 0) := by unfold row8; rw [List.map_replicate]; rfl
set_option maxRecDepth 100000 in
set_option maxHeartbeats 4000000 in
theorem kderive_any (p s : List Nat) (t z : Int) (u v : Value) (w : World) (hu : Rd w u p) (hv : Rd w v s) (ht : TabP w) :
    Calls Tryd.prog 10 #[u, v, .int .i64 t, .int .i64 z] w fun e w' => ∃ y, e = .returned (.tuple #[y, .int .i64 (kerr p s t z)]) ∧ Rd w' y (kres p s t z) ∧ Below w.heap.size w w' := by
  obtain ⟨au, cu, rfl, hcu⟩ := hu.shape
  obtain ⟨av, cv, rfl, hcv⟩ := hv.shape
  have HU := Lib.hid hu
  have HV := Lib.hid hv
  have HT := Lib.hid ht
  have HE := Lib.hid (fun (x : Int) (h : kerr p s t z = x) (h0 : x ≠ 0) => (show kres p s t z = [] by unfold kres; rw [if_neg (by rw [h]; exact h0)]))
  clear hu hv ht
  by_cases h1 : 512 < p.length
  · have h1I : (512 : Int) < (p.length : Int) := by omega
    have hk : kerr p s t z = 5 := by unfold kerr; rw [if_pos (.inl h1)]
    have HK := Lib.hid hk
    clear hk
    go_enter Tryd.func10, Tryd.ntmps10
    go_wp2_with fail
    go_ret2
    exact ⟨.slice none 0 0, by rw [HK.out]; rfl, by rw [HE.out 5 HK.out (by omega)]; exact Rd.none_ w, Below.refl _ _⟩
  have h1I : ¬ (512 : Int) < (p.length : Int) := by omega
  by_cases h2 : 1024 < s.length
  · have h2I : (1024 : Int) < (s.length : Int) := by omega
    have hk : kerr p s t z = 5 := by unfold kerr; rw [if_pos (.inr h2)]
    have HK := Lib.hid hk
    clear hk
    go_enter Tryd.func10, Tryd.ntmps10
    go_wp2_with fail
    go_ret2
    exact ⟨.slice none 0 0, by rw [HK.out]; rfl, by rw [HE.out 5 HK.out (by omega)]; exact Rd.none_ w, Below.refl _ _⟩
  have h2I : ¬ (1024 : Int) < (s.length : Int) := by omega
  have h12 : ¬ (512 < p.length ∨ 1024 < s.length) := by omega
  by_cases h3 : t < 1 ∨ 4096 < t ∨ z < 0 ∨ 1024 < z
  · have hk : kerr p s t z = 2 := by unfold kerr; rw [if_neg h12, if_pos h3]
    have HK := Lib.hid hk
    clear hk
    by_cases t1 : t < 1
    · go_enter Tryd.func10, Tryd.ntmps10
      go_wp2_with fail
      go_ret2
      exact ⟨.slice none 0 0, by rw [HK.out]; rfl, by rw [HE.out 2 HK.out (by omega)]; exact Rd.none_ w, Below.refl _ _⟩
    by_cases t2 : 4096 < t
    · go_enter Tryd.func10, Tryd.ntmps10
      go_wp2_with fail
      go_ret2
      exact ⟨.slice none 0 0, by rw [HK.out]; rfl, by rw [HE.out 2 HK.out (by omega)]; exact Rd.none_ w, Below.refl _ _⟩
    by_cases z1 : z < 0
    · go_enter Tryd.func10, Tryd.ntmps10
      go_wp2_with fail
      go_ret2
      exact ⟨.slice none 0 0, by rw [HK.out]; rfl, by rw [HE.out 2 HK.out (by omega)]; exact Rd.none_ w, Below.refl _ _⟩
    have z2 : 1024 < z := by omega
    go_enter Tryd.func10, Tryd.ntmps10
    go_wp2_with fail
    go_ret2
    exact ⟨.slice none 0 0, by rw [HK.out]; rfl, by rw [HE.out 2 HK.out (by omega)]; exact Rd.none_ w, Below.refl _ _⟩
  have hk : kerr p s t z = 0 := by unfold kerr; rw [if_neg h12, if_neg h3]
  obtain ⟨n, rfl⟩ : ∃ n : Nat, t = (n : Int) := ⟨t.toNat, by omega⟩
  obtain ⟨m, rfl⟩ : ∃ m : Nat, z = (m : Int) := ⟨z.toNat, by omega⟩
  have t1 : ¬ (n : Int) < 1 := by omega
  have t2 : ¬ (4096 : Int) < (n : Int) := by omega
  have z1 : ¬ (m : Int) < 0 := by omega
  have z2 : ¬ (1024 : Int) < (m : Int) := by omega
  have hr : kres p s (n : Int) (m : Int) = kder p s n m := by unfold kres; rw [if_pos hk]; simp
  have HK := Lib.hid hk
  have HR := Lib.hid hr
  obtain ⟨D0, hD0⟩ : ∃ C0, C0 = row8 (List.replicate 32 0) := ⟨_, rfl⟩
  have hzs : ∀ w, (zeroValue 39).run Tryd.prog w = .ok (.agg D0.toArray) w := by rw [hD0]; exact zeroSum
  have hd0 : D0.length = 32 := by rw [hD0, row8_len, List.length_replicate]
  obtain ⟨i0, hi, hz0, hz1, hz2⟩ := info_parts infoB
  have HI := Lib.hid hi
  have HZ0 := Lib.hid hz0
  have HZ1 := Lib.hid hz1
  have HB2 := Lib.hid (show i0.bytes * m ≤ 281474976710656 by rw [hz2]; omega)
  have HB3 := Lib.hid (show m ≤ maxLen by unfold maxLen; omega)
  clear hk hr hD0 HE h3 hi hz0 hz1 hz2
  have hq : ((m : Int) + 32 - 1).tdiv 32 = (((m + 31) / 32 : Nat) : Int) := by rw [Int.tdiv_eq_ediv_of_nonneg (by omega)]; omega
  go_enter Tryd.func10, Tryd.ntmps10
  go_upto_region 7 with (refine wpList_make_full _ rfl (.tmp 35) (.tmp 35) 22 rfl w.heap.size 5 i0 (.int .u8 0) 1 Tryd.underlying22 HI.out HZ0.out HZ1.out .i64 .i64 _ _ m rfl rfl rfl rfl HB2.out HB3.out (Nat.le_refl _) ?_; intro w1 hown hg; have b1 : Blk w1 w.heap.size 5 (row8 (List.replicate m 0)) := (own_blk (l := List.replicate m 0) (by rw [zeros8, ← toList_madeCells_one]; rw [Nat.mul_one] at hown; exact hown)); have B1 := Lib.hid b1; have G1 := Lib.hid (below_of_grown hg); clear hown hg b1)
  go_loopw [41] (fun x wr => ∃ k : Nat, k ≤ (m + 31) / 32 ∧ x = .int .i64 (k : Int) ∧ Blk wr w.heap.size 5 (row8 (kz p s n m k)) ∧ Below w.heap.size w wr) (fun x _ => (m + 31) / 32 - (intOf x).toNat)
  case atStart => exact ⟨0, by omega, rfl, by rw [kz_zero]; exact B1.out, G1.out⟩
  case round =>
    clear B1 G1
    obtain ⟨k, hk, rfl, r0, b0⟩ := hrel
    have R0 := Lib.hid r0
    have B0 := Lib.hid b0
    have hwr := b0.size
    have hwl := r0.lt
    clear r0 b0
    by_cases hlt : k < (m + 31) / 32
    · have hltI : (k : Int) < ((m : Int) + 31) / 32 := by omega
      have hkm : 32 * k < m := by omega
      have hkI : (k : Int) * 32 < (m : Int) := by omega
      have hiw : ((k : Int) + 1) % 4294967296 = (k : Int) + 1 := by omega
      obtain ⟨X, hX⟩ : ∃ X, X = kt p s (k + 1) (n - 1) := ⟨_, rfl⟩
      have bX : Bytes 32 X := by rw [hX]; exact kt_bytes _ _ _ _
      have HST := Lib.hid (show splice (row8 (kz p s n m k)) (32 * k) (row8 (X.take (min 32 (m - 32 * k)))) = row8 (kz p s n m (k + 1)) by rw [hX]; exact kz_step p s n m k hkm)
      have F0 := kblock_any p s n (k + 1) (by omega) (by omega) (by omega) (by omega) (.slice au p.length cu) (.slice av s.length cv) wr (HU.out.below B0.out) (HV.out.below B0.out) (HT.out.below B0.out)
      rw [← hX, show ((k + 1 : Nat) : Int) = (k : Int) + 1 by omega] at F0
      have FF := Lib.hid F0
      have X32 := Lib.hid (show (row8 X).length = 32 by rw [row8_len]; exact bX.1)
      have HXB := Lib.hid bX
      clear F0 bX hX
      go_upto_region 10 with (first
        | (go_at_call 16; (with_reducible refine FF.out.mono ?_); rintro e w2 ⟨rfl, b2⟩; have B2 := Lib.hid (B0.out.on b2); have R2 := Lib.hid (R0.out.below b2 R0.out.lt); clear b2)
        | (refine wpList_store_blk rfl 39 (.tmp 12) (.tmp 50) rfl w2.heap.size 0 (row8 X) rfl rfl 39 D0 (Blk.new w2 39 D0 _ rfl) (by rw [X32.out, hd0]; exact Nat.le_refl _) (by rw [X32.out]; exact infoS) (row8_one _) ?_; intro w3 b3 g3; rw [splice_all _ _ (by rw [X32.out, hd0])] at b3; have B3 := Lib.hid (own_turn B2.out g3); have R3 := Lib.hid ((R2.out.alloc (.cells D0.toArray 39)).grown g3 (fun q => by have e : w.heap.size = w2.heap.size := Option.some.inj q; have := R2.out.lt; omega)); have r3 := blk_rd b3 HXB.out.2 (n := 32) (cap := 32) (by rw [HXB.out.1]; omega) (by omega) (by rw [HXB.out.1]; omega); rw [List.take_of_length_le (by rw [HXB.out.1]; omega)] at r3; have X3 := Lib.hid r3; clear b3 g3 r3))
      simp only [put_none]
      obtain ⟨xb, hxb⟩ : ∃ b, b = w2.heap.size := ⟨_, rfl⟩
      rw [← hxb] at X3 ⊢
      have hxw : w.heap.size < xb := by rw [hxb]; exact R2.out.lt
      clear B2 R2 FF R0 B0 hxb
      refine wp_region_g (by kernel_rfl) 5 (by decide) (by kernel_rfl) (by kernel_rfl) (by kernel_rfl) w3.heap.size (Nat.le_refl _) [.val (.slice (some ⟨w.heap.size, 0, none⟩) m m), .val (.int .i64 (k : Int)), .val (.int .i64 ((32 * k : Nat) : Int)), .val (.slice (some ⟨w.heap.size, 0 + 32 * k, none⟩) (m - 32 * k) (m - 32 * k)), .val (.slice (some ⟨xb, 0, none⟩) 32 32)] (fun _ => 6) ?_ ?_
      · refine ⟨?_, ?_, ?_, ?_, ?_, trivial⟩
        · intro a w' hF hB hd
          have e0 : a.eval (.tmp 10) = .slice (some ⟨w.heap.size, 0, none⟩) m m := hF 10 (by decide +kernel)
          exact doesG_val rfl (ex_move rfl e0) rfl rfl
        · intro a w' hF hB hd
          have e0 : a.eval (.tmp 11) = .int .i64 (k : Int) := hF 11 (by decide +kernel)
          exact doesG_val rfl (ex_move rfl e0) rfl rfl
        · intro a w' hF hB hd
          have e0 : a.eval (.tmp 52) = .int .i64 (k : Int) := hd 1 (by decide +kernel) (.inr (by decide))
          exact doesG_val rfl (v := .int .i64 ((32 * k : Nat) : Int)) (by unfold execOp; simp only [e0]; go_simp; rw [IntKind.wrap_i64]; omega) rfl rfl
        · intro a w' hF hB hd
          have e0 : a.eval (.tmp 51) = .slice (some ⟨w.heap.size, 0, none⟩) m m := hd 0 (by decide +kernel) (.inr (by decide))
          have e1 : a.eval (.tmp 53) = .int .i64 ((32 * k : Nat) : Int) := hd 2 (by decide +kernel) (.inr (by decide))
          exact doesG_val rfl (ex_slice_l rfl e0 e1 (by omega) (by omega)) rfl rfl
        · intro a w' hF hB hd
          have e0 : a.eval (.tmp 12) = .pointer (some ⟨xb, 0, none⟩) := hF 12 (by decide +kernel)
          exact doesG_val rfl (v := .slice (some ⟨xb, 0, none⟩) 32 32) (by unfold execOp; simp only [e0]; go_simp) rfl rfl
      · intro vs w6 hB hv hap
        have e3 : vs 3 = .slice (some ⟨w.heap.size, 0 + 32 * k, none⟩) (m - 32 * k) (m - 32 * k) := hv 3 (by omega) (by omega)
        have e4 : vs 4 = .slice (some ⟨xb, 0, none⟩) 32 32 := hv 4 (by omega) (by omega)
        have B6 := Lib.hid (B3.out.on hB)
        have R6 := Lib.hid (R3.out.below hB R3.out.lt)
        have X6 := Lib.hid (X3.out.below hB)
        simp only [List.take_succ_cons, List.take_zero, List.drop_succ_cons, List.drop_zero, putOps, Act.put, List.setIfInBounds_toArray, List.set_cons_zero, List.set_cons_succ, e3, e4]
        obtain ⟨y3, hy3⟩ : ∃ y, y = vs 3 := ⟨_, rfl⟩
        generalize vs 0 = z0 at *
        generalize vs 1 = z1 at *
        generalize vs 2 = z2 at *
        have HST' := HST.out
        have hml : min 32 (m - 32 * k) = min X.length (m - 32 * k) := by rw [HXB.out.1]
        have HML := Lib.hid hml
        have HLE := Lib.hid (show 32 * k + min 32 (m - 32 * k) ≤ (row8 (kz p s n m k)).length by rw [row8_len, kz_len]; omega)
        clear hv hap e3 e4 hB hml HST'
        go_wp2_with ((with_reducible show wpList _ _ _ _ _ _); refine wpList_copy_blk rfl (.tmp 54) (.tmp 55) 22 22 rfl Tryd.underlying22 w.heap.size (32 * k) (m - 32 * k) (m - 32 * k) 5 (row8 (kz p s n m k)) R6.out (some ⟨w.heap.size, 0 + 32 * k, none⟩) rfl (.slice (some ⟨xb, 0, none⟩) 32 32) rfl X X6.out (min 32 (m - 32 * k)) HML.out (fun _ => by rw [Nat.zero_add]) HLE.out ?_; intro w7 r7 g7; rw [HST.out] at r7; have R7 := Lib.hid r7; have B7 := Lib.hid (B6.out.grown g7 B6.out.size (fun j hj => by have e : w.heap.size = j := Option.some.inj hj; omega)); clear r7 g7)
        exact ⟨⟨k + 1, by omega, by go_num, R7.out, B7.out⟩, by simp [intOf]; omega⟩
    · have hltI : ¬ (k : Int) < ((m : Int) + 31) / 32 := by omega
      obtain rfl : k = (m + 31) / 32 := by omega
      have r9 := R0.out
      rw [kz_all] at r9
      have q9 := (blk_own (base := w.heap.size) r9 (Nat.le_refl _) (by rw [← kz_all]; exact kz_byte _ _ _ _ _) (by rw [kder_len]; omega)).rd
      rw [kder_len] at q9
      have Q9 := Lib.hid q9
      clear r9 q9
      go_wp2_with fail
      go_ret2
      exact ⟨.slice (some ⟨w.heap.size, 0, none⟩) m m, by rw [HK.out]; rfl, by rw [HR.out]; exact Q9.out, B0.out⟩
end Go.Proofs.YteklchmbeiclcaaDoor

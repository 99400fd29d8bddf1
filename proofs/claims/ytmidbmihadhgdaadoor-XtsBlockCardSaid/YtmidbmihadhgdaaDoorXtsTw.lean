/- A sector's tweaks, as the document makes them, and both keys' round keys: contracts. Own work. -/
import Derived.Test.YtmidbmihadhgdaaDoorXtsRefN
import Derived.Test.YtmidbmihadhgdaaDoorAesEnc
import Derived.Test.YtmidbmihadhgdaaDoorTwiceCallsR
namespace Go.Proofs.YtmidbmihadhgdaaDoor
open Go.ChangeShapes Go.WideShapes Go.ChangeAt Go.RowKit
open AM FM XM
theorem zero512 (w : World) : (zeroValue 70).run Tryd.prog w = .ok (.agg (row8 (List.replicate 512 0)).toArray) w := by kernel_rfl
theorem info512 : (Tryd.prog.info? 70).map (·.size) = some 512 := by kernel_rfl
theorem info480 : (Tryd.prog.info? 38).map (·.size) = some 480 := by kernel_rfl
/-- A number's bytes, the lowest one first: the first k. -/
def numTo (n k : Nat) : List Nat := row fun i => if i < k ∧ i < 8 then n / 256 ^ i % 256 else 0
theorem numTo_len (n k : Nat) : (numTo n k).length = 16 := row_len _
theorem numTo_get (n k j : Nat) (h : j < 16) : gb (numTo n k) j = if j < k ∧ j < 8 then n / 256 ^ j % 256 else 0 := row_get _ _ h
theorem numTo_zero (n : Nat) : numTo n 0 = List.replicate 16 0 :=
  bytes_ext (n := 16) (numTo_len _ _) List.length_replicate fun j hj => by
    rw [numTo_get _ _ _ hj, if_neg (by omega)]
    unfold gb
    rw [List.getD_eq_getElem?_getD, List.getElem?_replicate, if_pos hj]
    rfl
theorem numTo_all (n : Nat) : numTo n 8 = num n :=
  bytes_ext (n := 16) (numTo_len _ _) (num_bytes n).1 fun j hj => by
    rw [numTo_get _ _ _ hj]
    unfold num
    rw [row_get _ _ hj]
    by_cases h : j < 8
    · rw [if_pos ⟨h, h⟩, if_pos h]
    · rw [if_neg (by omega), if_neg h]
theorem numTo_step (n k : Nat) (hk : k < 8) : (numTo n k).set k (n / 256 ^ k % 256) = numTo n (k + 1) :=
  bytes_ext (n := 16) (by rw [List.length_set, numTo_len]) (numTo_len _ _) fun j hj => by
    rw [gb_set _ _ _ _ (by rw [numTo_len]; omega), numTo_get _ _ _ hj, numTo_get _ _ _ hj]
    by_cases e : k = j
    · subst e; rw [if_pos rfl, if_pos (by omega)]
    · rw [if_neg e]
      by_cases h : j < k ∧ j < 8
      · rw [if_pos h, if_pos (by omega)]
      · rw [if_neg h, if_neg (by omega)]
theorem shr_num (n k : Nat) : (n : Int) / 2 ^ (8 * k) % 256 = ((n / 256 ^ k % 256 : Nat) : Int) := by
  rw [Int.natCast_emod, Int.natCast_ediv, Int.natCast_pow, show (((256 : Nat) : Int) ^ k) = (2 : Int) ^ (8 * k) by rw [Int.pow_mul]; rfl]
  rfl
theorem part_right {A B : List Nat} (hA : A.length = 240) (j : Nat) (v : Value) (h : (row8 B)[j]? = some v) : (row8 (A ++ B))[240 + j]? = some v := by
  rw [row8_app, List.getElem?_append_right (by rw [row8_len]; omega), row8_len, hA, show 240 + j - 240 = j by omega]; exact h
theorem part_left {A B : List Nat} (j : Nat) (v : Value) (h : (row8 A)[j]? = some v) : (row8 (A ++ B))[0 + j]? = some v := by
  rw [Nat.zero_add, row8_app, List.getElem?_append_left (by
    rcases Nat.lt_or_ge j (row8 A).length with q | q
    · exact q
    · rw [List.getElem?_eq_none q] at h; cases h)]; exact h
set_option maxRecDepth 100000 in
set_option maxHeartbeats 4000000 in
theorem xtweaks_any (KA KB : List Nat) (hA : Bytes 240 KA) (hB : Bytes 240 KB) (n : Nat) (hn : n < 2 ^ 64) (w : World) (ht : TabA w) :
    Calls Tryd.prog 40 #[.agg (row8 (KA ++ KB)).toArray, .int .u64 (n : Int)] w fun e w' => e = .returned (.agg (row8 (twf (rk KB) n 32)).toArray) ∧ Below w.heap.size w w' := by
  have hk : ∀ n, Bytes 16 (rk KB n) := fun n => rk_bytes hB.2 n
  obtain ⟨X, hX⟩ : ∃ X, X = KA ++ KB := ⟨_, rfl⟩
  rw [← hX]
  have HPR := Lib.hid (fun j v h => (show (row8 X)[240 + j]? = some v by rw [hX]; exact part_right hA.1 j v h))
  obtain ⟨C0, hC0⟩ : ∃ C0, C0 = row8 (List.replicate 512 0) := ⟨_, rfl⟩
  have hzt : ∀ w, (zeroValue 70).run Tryd.prog w = .ok (.agg C0.toArray) w := by rw [hC0]; exact zero512
  have hc0 : C0.length = 512 := by rw [hC0, row8_len, List.length_replicate]
  obtain ⟨D0, hD0⟩ : ∃ D0, D0 = row8 (List.replicate 16 0) := ⟨_, rfl⟩
  have hz : ∀ w, (zeroValue 35).run Tryd.prog w = .ok (.agg D0.toArray) w := by rw [hD0]; exact zero16
  have w1 := (Below.refl w.heap.size w).alloc (Nat.le_refl _) (.cells (row8 X).toArray 38)
  have w2 := w1.alloc w1.size (.cells C0.toArray 70)
  have w3 := w2.alloc w2.size (.cells D0.toArray 35)
  have X0 := Lib.hid (((Blk.new w 38 (row8 X) _ rfl).alloc (.cells C0.toArray 70)).alloc (.cells D0.toArray 35))
  have R0 := Lib.hid ((Blk.new (w.alloc (.cells (row8 X).toArray 38)) 70 C0 (w.heap.size + 1) (by simp)).alloc (.cells D0.toArray 35))
  have N0 := Lib.hid (Blk.new ((w.alloc (.cells (row8 X).toArray 38)).alloc (.cells C0.toArray 70)) 35 D0 (w.heap.size + 1 + 1) (by simp))
  have B0 := Lib.hid w3
  have HB := Lib.hid hB
  have HK := Lib.hid hk
  have HT := Lib.hid ht
  have HD := Lib.hid hD0
  have HC := Lib.hid hC0
  have HN := Lib.hid hn
  clear w1 w2 w3 hA hB hk ht hX hC0 hD0 hn
  go_enter Tryd.func40, Tryd.ntmps40
  go_upto_region 3 with (fail)
  go_loopw [6] (fun x wr => ∃ k : Nat, k ≤ 8 ∧ x = .int .i64 (k : Int) ∧ Blk wr w.heap.size 38 (row8 X) ∧ Blk wr (w.heap.size + 1) 70 C0 ∧ Blk wr (w.heap.size + 1 + 1) 35 (row8 (numTo n k)) ∧ Below w.heap.size w wr) (fun x _ => 8 - (intOf x).toNat)
  case atStart => exact ⟨0, by omega, rfl, X0.out, R0.out, by rw [numTo_zero, ← HD.out]; exact N0.out, B0.out⟩
  case round =>
    clear X0 R0 N0 B0
    obtain ⟨k, hk, rfl, x0, r0, n0, b0⟩ := hrel
    by_cases h8 : k < 8
    · have h8I : (k : Int) < 8 := by omega
      have d := n0.cell k _ (row8_val _ k (by rw [numTo_len]; omega))
      have f := n0.free k
      have hs := shr_num n k
      have q1 : (0 : Int) ≤ 8 * (k : Int) := by omega
      have q2 : (8 * (k : Int)).toNat = 8 * k := by omega
      have X1 := Lib.hid x0
      have R1 := Lib.hid r0
      have N1 := Lib.hid n0
      have B1 := Lib.hid b0
      clear x0 r0 n0 b0
      go_wp2_with fail
      have nt := N1.out.set k (.int .u8 ((n / 256 ^ k % 256 : Nat) : Int))
      rw [row8_set, numTo_step n k h8] at nt
      exact ⟨⟨k + 1, by omega, by go_num, X1.out.other ⟨w.heap.size + 1 + 1, k, none⟩ _ (by simp <;> omega), R1.out.other ⟨w.heap.size + 1 + 1, k, none⟩ _ (by simp <;> omega), nt, B1.out.setCell (p := ⟨w.heap.size + 1 + 1, k, none⟩) (by simp <;> omega) _⟩, by simp [intOf]; omega⟩
    · obtain rfl : k = 8 := by omega
      obtain ⟨M, hM⟩ : ∃ M, M = num n := ⟨_, rfl⟩
      rw [numTo_all, ← hM] at n0
      have bM : Bytes 16 M := by rw [hM]; exact num_bytes n
      obtain ⟨E, hE⟩ : ∃ E, E = enc (rk KB) M := ⟨_, rfl⟩
      have E0 := Lib.hid (show E = tweak (rk KB) n 0 by rw [hE, hM]; rfl)
      have bE : Bytes 16 E := by rw [hE]; exact enc_bytes HK.out _
      obtain ⟨tb, htb⟩ : ∃ b, b = wr.heap.size := ⟨_, rfl⟩
      have htl : w.heap.size + 1 + 1 < tb := by rw [htb]; exact n0.lt
      have X1 := Lib.hid (x0.alloc (.cells C0.toArray 70))
      have R1 := Lib.hid (r0.alloc (.cells C0.toArray 70))
      have N1 := Lib.hid (n0.alloc (.cells C0.toArray 70))
      have B1 := Lib.hid (b0.alloc b0.size (.cells C0.toArray 70))
      have T1 := Lib.hid (Blk.new wr 70 C0 tb htb)
      have HE := Lib.hid (aenc_any KB HB.out M bM (wr.alloc (.cells C0.toArray 70)) (HT.out.below B1.out))
      rw [← hE] at HE
      have K240 := Lib.hid (show (row8 KB).length = 240 by rw [row8_len]; exact HB.out.1)
      have M16 := Lib.hid (show (row8 M).length = 16 by rw [row8_len]; exact bM.1)
      have E16 := Lib.hid (show (row8 E).length = 16 by rw [row8_len]; exact bE.1)
      have HTB := Lib.hid htb
      have HSP := Lib.hid (show splice C0 0 (row8 E) = row8 (twf (rk KB) n 1) by
        rw [HC.out, ← row8_splice8, E0.out, ← twf_zero (rk KB) n]
        exact congrArg row8 (twf_step HK.out n 0 (by omega)))
      have HLE := Lib.hid (show 0 + (row8 E).length ≤ C0.length by rw [E16.out, hc0]; omega)
      clear hM hE bM bE htb x0 r0 n0 b0
      go_upto_region 9 with (first
        | (refine wpList_load_mid rfl 36 (.tmp 21) rfl w.heap.size 240 rfl (row8 KB) _ (range_part X1.out 240 _ HPR.out) Tryd.underlying36 rfl (by rw [K240.out]; exact info240) ?_)
        | (refine wpList_load_mid rfl 35 (.tmp 5) rfl (w.heap.size + 1 + 1) 0 rfl (row8 M) _ N1.out.range Tryd.underlying35 rfl (by rw [M16.out]; exact info16) ?_)
        | (go_at_call 43; (with_reducible refine HE.out.mono ?_); rintro e w4 ⟨rfl, b4⟩; have R4 := Lib.hid (R1.out.below b4 R1.out.lt); have T4 := Lib.hid (T1.out.below b4 T1.out.lt); have B4 := Lib.hid (B1.out.on b4); clear b4)
        | (refine wpList_store_blk rfl 35 (.tmp 25) (.tmp 24) rfl wr.heap.size 0 (row8 E) rfl rfl 70 C0 (by rw [← HTB.out]; exact T4.out) HLE.out (by rw [E16.out]; exact info16) (row8_one _) ?_; intro w5 b5 g5; rw [← HTB.out] at b5 g5; rw [HSP.out] at b5; have T5 := Lib.hid b5; have R5 := Lib.hid (R4.out.grown g5 (fun q => by have e : w.heap.size + 1 = tb := Option.some.inj q; omega)); have B5 := Lib.hid (B4.out.grown g5 B4.out.size (fun k hk => by have e : tb = k := Option.some.inj hk; omega)); clear b5 g5))
      rw [← HTB.out]
      clear X1 R1 N1 B1 T1 HE R4 T4 B4 HTB
      go_loopw [8] (fun x wr => ∃ m : Nat, 1 ≤ m ∧ m ≤ 32 ∧ x = .int .i64 (m : Int) ∧ Blk wr (w.heap.size + 1) 70 C0 ∧ Blk wr tb 70 (row8 (twf (rk KB) n m)) ∧ Below w.heap.size w wr) (fun x _ => 32 - (intOf x).toNat)
      case atStart => exact ⟨1, by omega, by omega, rfl, R5.out, T5.out, B5.out⟩
      case round =>
        clear R5 T5 B5
        obtain ⟨m, hm1, hm, rfl, r0, t0, b0⟩ := hrel
        by_cases hlt : m < 32
        · have hltI : (m : Int) < 32 := by omega
          obtain ⟨D, hD⟩ : ∃ D, D = tweak (rk KB) n (m - 1) := ⟨_, rfl⟩
          have bD : Bytes 16 D := by rw [hD]; exact tweak_bytes HK.out n _
          obtain ⟨F, hF⟩ : ∃ F, F = tw D := ⟨_, rfl⟩
          have eF : F = tweak (rk KB) n m := by
            obtain ⟨p, rfl⟩ : ∃ p, m = p + 1 := ⟨m - 1, by omega⟩
            rw [hF, hD]; rfl
          have bF : Bytes 16 F := by rw [eF]; exact tweak_bytes HK.out n _
          have D16 := Lib.hid (show (row8 D).length = 16 by rw [row8_len]; exact bD.1)
          have F16 := Lib.hid (show (row8 F).length = 16 by rw [row8_len]; exact bF.1)
          have HTW := Lib.hid (rtwice_any D bD wr)
          rw [← hF] at HTW
          have HRG := Lib.hid (range_part t0 ((m - 1) * 16) (row8 D) (fun j v h => by rw [Nat.mul_comm]; rw [hD] at h; exact twf_part HK.out n m (m - 1) (by omega) hm j v h))
          have HSP := Lib.hid (show splice (row8 (twf (rk KB) n m)) (m * 16) (row8 F) = row8 (twf (rk KB) n (m + 1)) by
            rw [← row8_splice8, eF, Nat.mul_comm]; exact congrArg row8 (twf_step HK.out n m hlt))
          have HLE := Lib.hid (show m * 16 + (row8 F).length ≤ (row8 (twf (rk KB) n m)).length by rw [F16.out, row8_len, twf_len]; omega)
          have q0 : (0 : Int) ≤ (m : Int) - 1 := by omega
          have q1 : (m : Int) - 1 < 32 := by omega
          have q2 : ((m : Int) - 1).toNat = m - 1 := by omega
          have R1 := Lib.hid r0
          have T1 := Lib.hid t0
          have B1 := Lib.hid b0
          clear hD hF eF bD bF r0 t0 b0
          go_wp2_with (first
            | (refine wpList_load_mid rfl 35 (.tmp 33) rfl tb ((m - 1) * 16) rfl (row8 D) _ HRG.out Tryd.underlying35 rfl (by rw [D16.out]; exact info16) ?_)
            | (go_at_call 46; (with_reducible refine HTW.out.mono ?_); rintro e w4 ⟨rfl, b4⟩; have R4 := Lib.hid (R1.out.below b4 R1.out.lt); have T4 := Lib.hid (T1.out.below b4 T1.out.lt); have B4 := Lib.hid (B1.out.on b4); clear b4)
            | (refine wpList_store_blk rfl 35 (.tmp 36) (.tmp 35) rfl tb (m * 16) (row8 F) rfl rfl 70 (row8 (twf (rk KB) n m)) T4.out HLE.out (by rw [F16.out]; exact info16) (row8_one _) ?_; intro w5 b5 g5; rw [HSP.out] at b5; have T5 := Lib.hid b5; have R5 := Lib.hid (R4.out.grown g5 (fun q => by have e : w.heap.size + 1 = tb := Option.some.inj q; omega)); have B5 := Lib.hid (B4.out.grown g5 B4.out.size (fun k hk => by have e : tb = k := Option.some.inj hk; omega)); clear b5 g5))
          exact ⟨⟨m + 1, by omega, by omega, by go_num, R5.out, T5.out, B5.out⟩, by simp [intOf]; omega⟩
        · have hltI : ¬ (m : Int) < 32 := by omega
          obtain rfl : m = 32 := by omega
          obtain ⟨Z, hZ⟩ : ∃ Z, Z = twf (rk KB) n 32 := ⟨_, rfl⟩
          rw [← hZ] at t0
          have Z512 := Lib.hid (show (row8 Z).length = 512 by rw [hZ, row8_len, twf_len])
          have HZ := Lib.hid hZ
          have R1 := Lib.hid r0
          have T1 := Lib.hid t0
          have B1 := Lib.hid b0
          clear hZ r0 t0 b0
          go_wp2_with (first
            | (refine wpList_load_mid rfl 70 (.tmp 7) rfl tb 0 rfl (row8 Z) _ T1.out.range Tryd.underlying70 rfl (by rw [Z512.out]; exact info512) ?_)
            | (refine wpList_store_mid rfl 70 (.tmp 4) (.tmp 37) rfl (w.heap.size + 1) 0 (row8 Z).toArray rfl rfl (R1.out.there _ (by rw [List.size_toArray, Z512.out, hc0])) (by rw [List.size_toArray, Z512.out]; exact info512) (row8_one _) ?_))
          have fin := R1.out.whole (row8 Z) (by rw [Z512.out, hc0])
          exact bodyPost_ret (v := .agg (row8 Z).toArray) (results_mid rfl _ _ (w.heap.size + 1) (row8 Z) _ rfl fin.range Tryd.underlying70 rfl (by rw [Z512.out]; exact info512)) rfl ⟨by rw [HZ.out], below_setCells (w.heap.size + 1) (by omega) _ 0 _ B1.out⟩
end Go.Proofs.YtmidbmihadhgdaaDoor

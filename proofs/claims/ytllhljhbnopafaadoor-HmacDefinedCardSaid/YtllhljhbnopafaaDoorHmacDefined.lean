/- HmacDefined: for any key of 64 bytes and any bytes: the sum with the key is that of two sums, one within the other; and the law's closed case holds. No condition but that the program's table holds its constants when the call begins. -/
import Derived.Test.YtllhljhbnopafaaDoorRows
import Derived.Test.YtllhljhbnopafaaDoorHmacAwake
import Derived.Test.YtllhljhbnopafaaDoorHmacXn
import Derived.BigRegion
import Derived.Test.YtllhljhbnopafaaDoorDoorP
import Derived.Test.YtllhljhbnopafaaDoorTie
import Derived.Test.YtllhljhbnopafaaDoorCards
import Derived.SevenTiedAt
import Derived.Test.YtllhljhbnopafaaDoorArgs
import Derived.Test.YtllhljhbnopafaaDoorRowArg
import Derived.WalkKit
import Derived.ProofKit
import Derived.OpenShut
import Derived.SizedLaws
import Derived.Carry
import Derived.Deep.DeepHandedRow
import Derived.Deep.DeepWitnessRowRef
namespace Go.Proofs.YtllhljhbnopafaaDoor.hmacDefined
open Go.ChangeShapes Go.WideShapes Go.ChangeAt Go.RowKit
theorem zero64 (w : World) : (zeroValue 40).run Tryd.prog w = .ok (.agg (row8 (List.replicate 64 0)).toArray) w := by kernel_rfl
theorem own : ownKnob Tryd.prog.godebug = none := by kernel_rfl
theorem cells40 : Tryd.prog.cellsOf 40 = 64 := by kernel_rfl
theorem cells5 : Tryd.prog.cellsOf 5 = 1 := by kernel_rfl
set_option linter.unusedVariables false in
set_option maxHeartbeats 4000000 in
set_option maxRecDepth 100000 in
theorem walk (w : World) (ht : TabP w) (l0 : List Nat) (h0 : Bytes 64 l0) (v1 : Value) (l1 : List Nat) (h1 : Rd w v1 l1) :
    Calls Tryd.prog 8 #[.agg (row8 l0).toArray, v1] w fun e w' => e = .returned (.bool true) ∧ Below w.heap.size w w' := by
  obtain ⟨a1, c1, rfl, _⟩ := h1.shape
  have q1 := h1.fits
  have hold : ∀ (hl : 0 < l1.length) (g : Nat), w.heap.size ≤ g → (Value.slice a1 l1.length c1).ownBlock ≠ some g := fun hl g hg => h1.old hl g hg
  obtain ⟨C0, hC0⟩ : ∃ C0, C0 = row8 (List.replicate 64 0) := ⟨_, rfl⟩
  have hz : ∀ w, (zeroValue 40).run Tryd.prog w = .ok (.agg C0.toArray) w := by rw [hC0]; exact zero64
  have n0 := Blk.new w 40 (row8 l0) _ rfl
  have w1 := (Below.refl w.heap.size w).alloc (Nat.le_refl _) (.cells (row8 l0).toArray 40)
  have w2 := w1.alloc w1.size (.cells C0.toArray 40)
  have w3 := w2.alloc w2.size (.cells C0.toArray 40)
  have n1 := (Blk.new (w.alloc (.cells (row8 l0).toArray 40)) 40 C0 (w.heap.size + 1) (by simp)).alloc (.cells C0.toArray 40)
  have n2 := Blk.new ((w.alloc (.cells (row8 l0).toArray 40)).alloc (.cells C0.toArray 40)) 40 C0 (w.heap.size + 1 + 1) (by simp)
  have N0 := Lib.hid ((n0.alloc (.cells C0.toArray 40)).alloc (.cells C0.toArray 40))
  have N1 := Lib.hid n1
  have N2 := Lib.hid n2
  have W3 := Lib.hid w3
  have HK := Lib.hid h0
  have HV := Lib.hid h1
  have HOLD := Lib.hid hold
  have HT := Lib.hid ht
  have HC := Lib.hid hC0
  clear h0 h1 ht n0 n1 n2 w1 w2 w3 hold hC0
  go_enter Tryd.func8, Tryd.ntmps8
  go_wp2_with fail
  go_loopw [7] (fun i wr => ∃ k : Nat, k ≤ 64 ∧ i = .int .i64 (k : Int) ∧ Blk wr w.heap.size 40 (row8 l0) ∧ Blk wr (w.heap.size + 1) 40 (row8 (xn l0 0x36 k)) ∧ Blk wr (w.heap.size + 1 + 1) 40 (row8 (xn l0 0x5c k)) ∧ Below w.heap.size w wr) (fun i _ => 64 - (intOf i).toNat)
  case atStart => exact ⟨0, Nat.zero_le _, rfl, N0.out, by have h := N1.out; rw [show row8 (xn l0 0x36 0) = C0 by rw [HC.out, xn_zero]]; exact h, by have h := N2.out; rw [show row8 (xn l0 0x5c 0) = C0 by rw [HC.out, xn_zero]]; exact h, W3.out⟩
  case round =>
    clear N0 N1 N2 W3
    obtain ⟨k, hk, rfl, b0, b1, b2, bb⟩ := hrel
    by_cases hlt : k < 64
    · have c0 := b0.cell k _ (row8_val _ k (by rw [HK.out.1]; exact hlt))
      have c1 := b1.cell k _ (row8_val _ k (by rw [xn_len]; exact hlt))
      have c2 := b2.cell k _ (row8_val _ k (by rw [xn_len]; exact hlt))
      have f1 := b1.free k
      have f2 := b2.free k
      have x1 : bits .xor .u8 ((gb l0 k : Nat) : Int) 54 = ((gb l0 k ^^^ 54 : Nat) : Int) := u8_xor_nat (gb l0 k) 54 (HK.out.2 k) (by omega)
      have x2 : bits .xor .u8 ((gb l0 k : Nat) : Int) 92 = ((gb l0 k ^^^ 92 : Nat) : Int) := u8_xor_nat (gb l0 k) 92 (HK.out.2 k) (by omega)
      have B0 := Lib.hid b0
      have B1 := Lib.hid b1
      have B2 := Lib.hid b2
      have BB := Lib.hid bb
      clear b0 b1 b2 bb
      go_upto_region 5 with (fail)
      go_region
      have nb1 := (((B1.out.set k (.int .u8 ((gb l0 k ^^^ 54 : Nat) : Int))).other ⟨w.heap.size + 1 + 1, k, none⟩ (.int .u8 ((gb l0 k ^^^ 92 : Nat) : Int)) (by simp)).drew)
      rw [row8_set, xn_step _ _ _ hlt] at nb1
      have nb2 := ((B2.out.other ⟨w.heap.size + 1, k, none⟩ (.int .u8 ((gb l0 k ^^^ 54 : Nat) : Int)) (by simp)).set k (.int .u8 ((gb l0 k ^^^ 92 : Nat) : Int))).drew
      rw [row8_set, xn_step _ _ _ hlt] at nb2
      have nb0 := ((B0.out.other ⟨w.heap.size + 1, k, none⟩ (.int .u8 ((gb l0 k ^^^ 54 : Nat) : Int)) (by simp <;> omega)).other ⟨w.heap.size + 1 + 1, k, none⟩ (.int .u8 ((gb l0 k ^^^ 92 : Nat) : Int)) (by simp <;> omega)).drew
      have NB0 := Lib.hid nb0
      have NB1 := Lib.hid nb1
      have NB2 := Lib.hid nb2
      have NBB := Lib.hid ((BB.out.setCell (p := ⟨w.heap.size + 1, k, none⟩) (by simp) (.int .u8 ((gb l0 k ^^^ 54 : Nat) : Int))).setCell (p := ⟨w.heap.size + 1 + 1, k, none⟩) (by simp <;> omega) (.int .u8 ((gb l0 k ^^^ 92 : Nat) : Int))).drew
      clear nb0 nb1 nb2
      go_wp2_with fail
      exact ⟨⟨k + 1, by omega, by go_num, NB0.out, NB1.out, NB2.out, NBB.out⟩, by simp [intOf]; omega⟩
    · obtain rfl : k = 64 := by omega
      rw [xn_all _ HK.out.1] at b1 b2
      obtain ⟨KI, hKI⟩ : ∃ K, K = SM.kx l0 0x36 := ⟨_, rfl⟩
      obtain ⟨KO, hKO⟩ : ∃ K, K = SM.kx l0 0x5c := ⟨_, rfl⟩
      rw [← hKI] at b1
      rw [← hKO] at b2
      have lKI : KI.length = 64 := by rw [hKI]; exact kx_len _ _
      have lKO : KO.length = 64 := by rw [hKO]; exact kx_len _ _
      have bKI : ∀ k, gb KI k < 256 := by rw [hKI]; exact kx_bytes HK.out.2 (by omega)
      have bKO : ∀ k, gb KO k < 256 := by rw [hKO]; exact kx_bytes HK.out.2 (by omega)
      obtain ⟨S, hS⟩ : ∃ S, S = SM.sha (KI ++ l1) := ⟨_, rfl⟩
      have bS : Bytes 32 S := by rw [hS]; exact sha_bytes _
      obtain ⟨M, hM⟩ : ∃ M, M = SM.sha (KO ++ S) := ⟨_, rfl⟩
      have bM : Bytes 32 M := by rw [hM]; exact sha_bytes _
      have HM1 := Lib.hid (show SM.mac l0 l1 = M by rw [hM, hS, hKI, hKO]; rfl)
      have HM2 := Lib.hid (show SM.sha (KO ++ S) = M from hM.symm)
      have hem := fun w => run_eql_sum bM bM w
      simp only [decide_true] at hem
      have r1 := blk_rd b1 bKI (n := 64) (cap := 64) (by omega) (by omega) (by omega)
      rw [List.take_of_length_le (by omega)] at r1
      have HOF := Lib.hid (of_two_at (b := wr.heap.size) rfl r1 (HV.out.below bb) (HT.out.below bb) (by omega) hS)
      obtain ⟨D0, hD0⟩ : ∃ C0, C0 = row8 (List.replicate 32 0) := ⟨_, rfl⟩
      have hzs : ∀ w, (zeroValue 26).run Tryd.prog w = .ok (.agg D0.toArray) w := by rw [hD0]; exact zeroSum
      have hd0 : D0.length = 32 := by rw [hD0, row8_len, List.length_replicate]
      have S32 := Lib.hid (show (row8 S).length = 32 by rw [row8_len]; exact bS.1)
      have HBS := Lib.hid bS
      have HKL := Lib.hid lKO
      have HSL := Lib.hid bS.1
      have HKB := Lib.hid bKO
      have B0 := Lib.hid b0
      have B2 := Lib.hid b2
      have BB := Lib.hid bb
      have L0 := Lib.hid b0.lt
      have L2 := Lib.hid b2.lt
      clear b0 b1 b2 bb r1 hKI hKO hS hM bS bM bKI bKO lKI lKO hD0 hz
      go_upto_region 7 with (first
        | (go_at_call 17; (with_reducible refine HOF.out.mono ?_); rintro e w8 ⟨rfl, b8⟩; have BB8 := Lib.hid (BB.out.on b8); have B08 := Lib.hid (B0.out.below b8 B0.out.lt); have B28 := Lib.hid (B2.out.below b8 B2.out.lt); clear b8)
        | (refine wpList_store_blk rfl 26 (.tmp 8) (.tmp 28) rfl w8.heap.size 0 (row8 S) rfl rfl 26 D0 (Blk.new w8 26 D0 _ rfl) (by rw [S32.out, hd0]; exact Nat.le_refl _) (by rw [S32.out]; exact infoS) (row8_one _) ?_; intro w9 b9 g9; rw [splice_all _ _ (by rw [S32.out, hd0])] at b9; have N9 := Lib.hid b9; have BB9 := Lib.hid (own_turn BB8.out g9); have B09 := Lib.hid ((B08.out.alloc (.cells D0.toArray 26)).grown g9 (fun q => by have e : w.heap.size = w8.heap.size := Option.some.inj q; have := B08.out.lt; omega)); have B29 := Lib.hid ((B28.out.alloc (.cells D0.toArray 26)).grown g9 (fun q => by have e : w.heap.size + 1 + 1 = w8.heap.size := Option.some.inj q; have := B28.out.lt; omega)); clear b9 g9))
      simp only [put_none]
      obtain ⟨b8, hb8⟩ : ∃ b, b = w8.heap.size := ⟨_, rfl⟩
      obtain ⟨b6, hb6⟩ : ∃ b, b = w.heap.size + 1 + 1 := ⟨_, rfl⟩
      rw [← hb8] at N9 ⊢
      rw [← hb6] at B29 ⊢
      have H8L := Lib.hid N9.out.lt
      have H6L := Lib.hid B29.out.lt
      have HSZ := Lib.hid BB9.out.size
      have HO9 := Lib.hid (fun (hl : 0 < l1.length) (g : Nat) (hg : w.heap.size ≤ g) => HOLD.out hl g hg)
      have HV9 := Lib.hid (HV.out.below BB9.out)
      have HT9 := Lib.hid (HT.out.below BB9.out)
      have k9 := blk_rd B09.out HK.out.2 (n := 64) (cap := 64) (by rw [HK.out.1]; omega) (by omega) (by rw [HK.out.1]; omega)
      rw [List.take_of_length_le (by rw [HK.out.1]; omega)] at k9
      have HK9 := Lib.hid k9
      have o9 := blk_rd B29.out HKB.out (n := 64) (cap := 64) (by rw [HKL.out]; omega) (by omega) (by rw [HKL.out]; omega)
      rw [List.take_of_length_le (by rw [HKL.out]; omega)] at o9
      have HO6 := Lib.hid o9
      have s9 := blk_rd N9.out HBS.out.2 (n := 32) (cap := 32) (by rw [HBS.out.1]; omega) (by omega) (by rw [HBS.out.1]; omega)
      rw [List.take_of_length_le (by rw [HBS.out.1]; omega)] at s9
      have HS8 := Lib.hid s9
      clear k9 o9 s9 hb8 hb6 hzs hd0
      refine wp_region_g (by kernel_rfl) 13 (by decide) (by kernel_rfl) (by kernel_rfl) (by kernel_rfl) (w9.heap.size) (Nat.le_refl _) [.val (.slice (some ⟨w.heap.size, 0, none⟩) 64 64), .val (.slice a1 l1.length c1), .rds ([l1]), .val (.agg (row8 M).toArray), .val (.slice (some ⟨b6, 0, none⟩) 64 64), .val (.slice (some ⟨b8, 0, none⟩) 32 32), .rds ([KO, S]), .val (.agg (row8 M).toArray), .val (.bool true), .val (.bool true), .val (.bool true), .val (.bool true), .val (.bool true)] (fun _ => 13) ?_ ?_
      · refine ⟨?_, ?_, ?_, ?_, ?_, ?_, ?_, ?_, ?_, ?_, ?_, ?_, ?_, trivial⟩
        · intro a w' hF hB hd
          have e2 : a.eval (.tmp 2) = .pointer (some ⟨w.heap.size, 0, none⟩) := hF 2 (by decide +kernel)
          exact doesG_val rfl (v := .slice (some ⟨w.heap.size, 0, none⟩) 64 64) (by unfold execOp; simp only [e2]; go_simp) rfl rfl
        · intro a w' hF hB hd
          have e1 : a.eval (.tmp 1) = .slice a1 l1.length c1 := hF 1 (by decide +kernel)
          exact doesG_val rfl (ex_move rfl e1) rfl rfl
        · intro a w' hF hB hd
          have e30 : a.eval (.tmp 30) = .slice a1 l1.length c1 := hd 1 (by decide +kernel) (.inr (by decide))
          exact doesG_one rfl 30 rfl e30 _ (HV9.out.below hB) (fun h g hg => HO9.out h g (by have := HSZ.out; omega)) (fun _ _ h => h)
        · intro a w' hF hB hd
          have e29 : a.eval (.tmp 29) = .slice (some ⟨w.heap.size, 0, none⟩) 64 64 := hd 0 (by decide +kernel) (.inr (by decide))
          have e31 : Olds w9.heap.size (a.eval (.tmp 31)) ([l1]) w' := hd 2 (by decide +kernel) (.inr (by decide))
          exact doesG_call rfl (ex_call (vs := #[.slice (some ⟨w.heap.size, 0, none⟩) 64 64, a.eval (.tmp 31)]) rfl (by simp only [List.map_toArray, List.map_cons, List.map_nil, e29]) (by go_simp)) rfl ((hof_any l0 [l1] (by simp <;> omega) _ _ w' (HK9.out.below hB) e31.rds (HT9.out.below hB)).mono fun e w2 hh => ⟨_, by rw [hh.1]; simp [HM1.out], rfl, hh.2⟩)
        · intro a w' hF hB hd
          have e6 : a.eval (.tmp 6) = .pointer (some ⟨b6, 0, none⟩) := hF 6 (by decide +kernel)
          exact doesG_val rfl (v := .slice (some ⟨b6, 0, none⟩) 64 64) (by unfold execOp; simp only [e6]; go_simp) rfl rfl
        · intro a w' hF hB hd
          have e8 : a.eval (.tmp 8) = .pointer (some ⟨b8, 0, none⟩) := hF 8 (by decide +kernel)
          exact doesG_val rfl (v := .slice (some ⟨b8, 0, none⟩) 32 32) (by unfold execOp; simp only [e8]; go_simp) rfl rfl
        · intro a w' hF hB hd
          have e33 : a.eval (.tmp 33) = .slice (some ⟨b6, 0, none⟩) 64 64 := hd 4 (by decide +kernel) (.inr (by decide))
          have e34 : a.eval (.tmp 34) = .slice (some ⟨b8, 0, none⟩) 32 32 := hd 5 (by decide +kernel) (.inr (by decide))
          exact doesG_two rfl 33 34 rfl e33 e34 _ _ (HO6.out.below hB) (HS8.out.below hB) (fun _ g hg e => by have e' : b6 = g := Option.some.inj e; have := H6L.out; omega) (fun _ g hg e => by have e' : b8 = g := Option.some.inj e; have := H8L.out; omega) (fun _ _ h => h)
        · intro a w' hF hB hd
          have e35 : Olds w9.heap.size (a.eval (.tmp 35)) ([KO, S]) w' := hd 6 (by decide +kernel) (.inr (by decide))
          exact doesG_call rfl (ex_call (vs := #[a.eval (.tmp 35)]) rfl (by simp only [List.map_toArray, List.map_cons, List.map_nil]) (by go_simp)) rfl ((of_any [KO, S] (by simp; have := HKL.out; have := HSL.out; omega) _ w' e35.rds (HT9.out.below hB)).mono fun e w2 hh => ⟨_, by rw [hh.1]; simp [HM2.out], rfl, hh.2⟩)
        · intro a w' hF hB hd
          have e32 : a.eval (.tmp 32) = .agg (row8 M).toArray := hd 3 (by decide +kernel) (.inr (by decide))
          have e36 : a.eval (.tmp 36) = .agg (row8 M).toArray := hd 7 (by decide +kernel) (.inr (by decide))
          exact doesG_val rfl (ex_binOp rfl e32 e36 (run_eqGuard_agg (P := Tryd.prog) (w := w') .eql 26 _ _ _ _ eqTypeS) (hem w')) rfl rfl
        · intro a w' hF hB hd
          have e37 : a.eval (.tmp 37) = .bool true := hd 8 (by decide +kernel) (.inr (by decide))
          exact doesG_val rfl (ex_move rfl e37) rfl rfl
        · intro a w' hF hB hd
          have e38 : a.eval (.tmp 38) = .bool true := hd 9 (by decide +kernel) (.inr (by decide))
          exact doesG_call (wanted_of rfl (yielded_of rfl e38)) (ex_call (vs := #[]) rfl (by simp) (by go_simp)) rfl ((hawake_any w' (HT9.out.below hB)).mono fun e w2 hh => ⟨_, hh.1, rfl, hh.2⟩)
        · intro a w' hF hB hd
          have e38 : a.eval (.tmp 38) = .bool true := hd 9 (by decide +kernel) (.inr (by decide))
          have e39 : a.eval (.tmp 39) = .bool true := hd 10 (by decide +kernel) (.inr (by decide))
          exact doesG_val rfl (ex_pick rfl e38 (by simp [e39])) rfl rfl
        · intro a w' hF hB hd
          have e40 : a.eval (.tmp 40) = .bool true := hd 11 (by decide +kernel) (.inr (by decide))
          exact doesG_val rfl (ex_assign rfl e40) rfl rfl
      · intro vs w2 hb hv hap
        have e2 : vs 12 = .bool true := hv 12 (by decide) (by decide)
        simp only [List.take_succ_cons, List.take_zero, List.drop_succ_cons, List.drop_zero, putOps, Act.put, List.setIfInBounds_toArray, List.set_cons_zero, List.set_cons_succ, e2]
        have HB := Lib.hid (BB9.out.on hb)
        clear hv hap e2 hb
        go_wp2_with fail
        go_ret
        exact ⟨rfl, HB.out⟩
set_option maxRecDepth 100000 in
theorem reads (os : Os) {H : Type} (enc : TypeId × Value → H) : ∃ places, DataW.whole enc Tryd.prog ((World.doorLaid Tryd.prog 400 os).forCall (fun _ _ => 0) ⟨#[], #[.agg (row8 (List.replicate 64 0)).toArray, .slice none 0 0], []⟩).memory Tryd.f8.params.toList Rows.hmacDefinedSpec.vars false (#[.agg (row8 (List.replicate 64 0)).toArray, .slice none 0 0] : Array Value).toList 8 = some ([lit8 (List.replicate 64 0), .nil], [], places) :=
  ⟨[], by kernel_rfl⟩
set_option linter.unusedVariables false in
set_option maxHeartbeats 1000000 in
set_option maxRecDepth 100000 in
theorem lifted (os : Os) (started : os.Started) (H : Type) (enc : TypeId × Value → H) (F : Stop.Interp) :
    ReturnsInHanded {} Tryd.checked os 8 .any ((OpenSpec.ofChange Rows.hmacDefinedSpec).preRow enc Tryd.prog Tryd.f8 Rows.hmacDefinedRow.domain false laidP) (((OpenSpec.ofChange Rows.hmacDefinedSpec).at F).post enc Tryd.prog Tryd.f8 false true false false) := by
  obtain ⟨places, hx⟩ := reads os enc
  refine returnsInHanded_of_row (C := Tryd.checked) (s := OpenSpec.ofChange Rows.hmacDefinedSpec) own started (by kernel_rfl) Tryd.func8
    (witness_row_atRef (enc := enc) (C := Tryd.checked) false (World.doorLaid Tryd.prog 400 os) #[.agg (row8 (List.replicate 64 0)).toArray, .slice none 0 0] rfl (by kernel_rfl) (by kernel_rfl) (by kernel_rfl)
      (OpenSpec.preRow_of_cond 8 hx (by kernel_rfl) (fun k hk => by cases hk) (by kernel_rfl) (doorP_met os _))) ?_
  intro W base args ds gs before hval0 hW _ hcond hsz0 hL _ _
  have hsz : (DataW.weightsEach Tryd.prog (Tryd.f8.params.toList ++ Rows.hmacDefinedSpec.plain.varTypes Tryd.prog) (ds ++ gs)).all (· ≤ reachBytes) = true := hsz0
  clear hsz0
  have hval : ∀ (j : Nat) t v, Tryd.f8.params[j]? = some t → args[j]? = some v → Value.okWide Tryd.prog W .any base t v := hval0
  have hW' := hW
  obtain ⟨p, q, hA0, hV, rfl, _, _⟩ := hW
  have hA : DataW.TrodAll enc Tryd.prog W 0 (fun _ => true) true Tryd.f8.params.toList args.toList ds p := hA0
  rw [Tryd.params8] at hA hval hsz
  obtain ⟨v0, vs0, d0, ds0, p0, q0, hargs, rfl, rfl, g0, r0⟩ := trodAll_cons hA
  obtain ⟨v1, vs1, d1, ds1, p1, q1, rfl, rfl, rfl, g1, r1⟩ := trodAll_cons r0
  obtain ⟨rfl, rfl, rfl⟩ := trodAll_nil r1
  obtain rfl : args = #[v0, v1] := by cases args; simp_all
  obtain ⟨rfl, rfl⟩ := trodVars_none hV
  obtain ⟨l0, h0, rfl, rfl, rfl⟩ := open_row Tryd.underlying40 Tryd.underlying5 cells5 (hval 0 40 v0 rfl rfl) cells40 g0
  obtain ⟨l1, h1⟩ := open_bytes (hval 1 22 v1 rfl rfl) g1 (fun elems spare e => sized_slice hsz (j := 1) (t := 22) (e := 5) rfl (by rw [← e]; rfl) Tryd.underlying22)
  clear hA0 hval0
  have hlt := hW'.lt
  refine (walk W (tabP_of_laid hL) l0 h0 v1 l1 h1).mono fun e W' ⟨he, hb⟩ => ?_
  subst he
  have hargs : DataW.TrodAll enc Tryd.prog W' 0 (fun b => decide (b < W.heap.size)) true _ _ _ _ := (trodAll_cons_mk (shut_row Tryd.underlying40 Tryd.underlying5 cells5 cells40 h0) (trodAll_cons_mk (Below.trod laidOut (by kernel_rfl) (of_decide_eq_true (by kernel_rfl)) g1 hb (fun x hx => hlt x (by simp [hx]))) trodAll_mk0))
  simp only [List.append_nil] at hW' hargs
  exact ⟨_, rfl, post_law hW' (trodAll_cons_mk (shut_bool Tryd.underlying4 _) trodAll_mk0) hargs rfl hb⟩

theorem over : Rows.hmacDefinedRow.holds Tryd.pinned (OpenSpec.ofChange Rows.hmacDefinedSpec) :=
  OpenClaim.holds_of_cond 8 Tryd.f8 rfl rfl rfl rfl rfl rfl rfl ⟨rfl, rfl, rfl, rfl, rfl⟩ rfl rfl rfl rfl rfl (by kernel_rfl) Tryd.func8 (by kernel_rfl)
    (of_decide_eq_true (by kernel_rfl)) (by unfold Func.isWrapper; first | (rw [if_pos (by decide +kernel)]; kernel_rfl) | (rw [if_neg (by decide +kernel)]; exact ⟨rfl, rfl⟩))
    (fun os started H enc _ F => by rw [OpenClaim.pre_eq_preRow]; exact lifted os started H enc F)

/-- The given statement. -/
theorem proved : Rows.HmacDefinedCardSaid :=
  Claim7.holds_tied_plain_at .later [] _ _ _ _
    over (fun _ h => by cases h) (by kernel_rfl) (fun _ h => by cases h) hmacDefined_row_tie rfl ⟨rfl, rfl⟩ (by kernel_rfl) rfl
    (fun f fn hf hfn => by
      obtain rfl : f = 8 := Option.some.inj ((show Tryd.prog.funcNamed "reliquary/reliquarylaw04.HmacDefined" = some 8 by kernel_rfl).symm.trans hf) |>.symm
      obtain rfl : fn = Tryd.f8 := (Option.some.inj (Tryd.func8.symm.trans hfn)).symm
      exact ⟨by kernel_rfl, fun j t ht => by
        rw [Tryd.params8] at ht
        have hm : t ∈ [40, 22] := by simpa using Array.mem_of_getElem? ht
        have hall : ([40, 22].all fun u => !Tryd.prog.wantsStandIn u) = true := by kernel_rfl
        exact (show Tryd.prog.wantsStandIn t = false by simpa using List.all_eq_true.1 hall t hm)⟩)
    (by kernel_rfl)
end Go.Proofs.YtllhljhbnopafaaDoor.hmacDefined

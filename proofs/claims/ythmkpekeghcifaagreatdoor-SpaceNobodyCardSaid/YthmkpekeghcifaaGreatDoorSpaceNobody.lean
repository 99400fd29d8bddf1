/- SpaceNobody: without a device no space is made, nor of a geometry that may not be; with one, of one that may be, there is one; a space that is not there reads and lays nothing; and the law's closed case holds. No condition but that the listed tables hold what they hold when the call begins. -/
import Derived.Test.YthmkpekeghcifaaGreatDoorRows
import Derived.Test.YthmkpekeghcifaaGreatDoorMg14
import Derived.Test.YthmkpekeghcifaaGreatDoorTie
import Derived.Test.YthmkpekeghcifaaGreatDoorCards
import Derived.SevenTiedAt
import Derived.Test.YthmkpekeghcifaaGreatDoorMg0
import Derived.WalkKit
import Derived.ProofKit
import Derived.OpenShut
import Derived.SizedLaws
import Derived.Carry
import Derived.Deep.DeepHandedRow
import Derived.Deep.DeepWitnessRowRef
namespace Go.Proofs.YthmkpekeghcifaaGreatDoor.spaceNobody
open Go.ChangeShapes Go.WideShapes Go.ChangeAt Go.RowKit
open RT XM AM SM
theorem own : ownKnob Tryz.prog.godebug = none := by kernel_rfl
set_option linter.unusedVariables false in
set_option maxHeartbeats 8000000 in
set_option maxRecDepth 100000 in
theorem walk (w : World) (ht : TabX w ∧ TabU w ∧ TabP w) (a0 b0 : Int) (w0 : (Lit.int .i64 a0).wf = true) (x0 : (Lit.int .i64 b0).wf = true) (r1 : RT.Pg) (h1 : RT.Pok r1) (v2 : Value) (l2 : List Nat) (h2 : Rd w v2 l2) :
    Calls Tryz.prog 4 #[.agg #[.int .i64 a0, .int .i64 b0], .agg (RT.pc r1).toArray, v2] w fun e w' => e = .returned (.bool true) ∧ Below w.heap.size w w' := by
  obtain ⟨tx, tu, tp⟩ := ht
  have HAW := Lib.hid (fun W (hW : Below w.heap.size w W) => spawake_any W (tx.below hW) (tu.below hW) (tp.below hW))
  obtain ⟨ZN, hZN⟩ : ∃ x, x = pcs ND.zn := ⟨_, rfl⟩
  have hz1 : ∀ w, (zeroValue 51).run Tryz.prog w = .ok (.agg ZN.toArray) w := by rw [hZN]; exact zeroNdP
  have hbn : Tryz.prog.built 51 [] = some ZN.toArray := by rw [hZN]; exact builtNdP
  have ZN264 := Lib.hid (show ZN.length = 264 by rw [hZN]; rfl)
  have ZN1 := Lib.hid (show ZN.toArray.all (·.oneCell') = true by rw [hZN, List.all_toArray, List.all_eq_true]; exact pcs_one' _)
  obtain ⟨RZ, hRZ⟩ : ∃ x, x = pc ND.zp := ⟨_, rfl⟩
  have hz2 : ∀ w, (zeroValue 49).run Tryz.prog w = .ok (.agg RZ.toArray) w := by rw [hRZ]; exact zeroRfP
  have RZ33 := Lib.hid (show RZ.length = 33 by rw [hRZ]; exact pc_len ND.zp_ok)
  have RZ1 := Lib.hid (show (RZ.toArray.all (·.oneCell')) = true by rw [hRZ]; exact one_pg _)
  obtain ⟨KZ, hKZ⟩ : ∃ x, x = row8 (List.replicate 32 0) := ⟨_, rfl⟩
  have hbk : Tryz.prog.built 23 [] = some KZ.toArray := by rw [hKZ]; kernel_rfl
  have HDA := Lib.hid (fun W => spcdata_nil r1 h1 W)
  have HNO := Lib.hid (fun W => spcnode_nil r1 h1 W)
  have HPA := Lib.hid (fun W => spcpage_nil r1 h1 W)
  have HPD := Lib.hid (fun W (hW : Below w.heap.size w W) => (show Calls Tryz.prog 17 #[.pointer none, .int .u32 0, v2] W fun e w' => e = .returned (.tuple #[.agg (pc ND.zp).toArray, .int .i64 1]) ∧ Below W.heap.size W w' from spcputdata_nil 0 l2 v2 W (h2.below hW)))
  have HPP := Lib.hid (fun W (hW : Below w.heap.size w W) => (show Calls Tryz.prog 19 #[.pointer none, .int .u32 0, v2] W fun e w' => e = .returned (.tuple #[.agg (pc ND.zp).toArray, .int .i64 1]) ∧ Below W.heap.size W w' from spcputpage_nil 0 l2 v2 W (h2.below hW)))
  have hzn : ND.Nok ND.zn := ND.zn_ok
  have HPN := Lib.hid (fun W => (show Calls Tryz.prog 18 #[.pointer none, .int .u32 0, .agg (pcs ND.zn).toArray] W fun e w' => e = .returned (.tuple #[.agg (pc ND.zp).toArray, .int .i64 1]) ∧ Below W.heap.size W w' from spcputnode_nil 0 ND.zn hzn W))
  have RC33 := Lib.hid (pc_len h1)
  obtain ⟨RC, hRC⟩ : ∃ x, x = pc r1 := ⟨_, rfl⟩
  rw [← hRC] at HDA HNO HPA RC33 ⊢
  rw [← hZN] at HNO HPN
  rw [← hRZ] at HPD HPP HPN
  obtain ⟨GC, hGC⟩ : ∃ x, x = [Value.int .i64 a0, .int .i64 b0] := ⟨_, rfl⟩
  have GC2 := Lib.hid (show GC.length = 2 by rw [hGC]; rfl)
  have HNN := Lib.hid (fun W => spcnew_nil a0 b0 KZ W)
  have HNW := Lib.hid (fun W d (hW : Below w.heap.size w W) => (show Calls Tryz.prog 12 #[.pointer (some ⟨d, 0, none⟩), .agg #[.int .i64 a0, .int .i64 b0], .agg KZ.toArray] W fun e w' => ∃ u, e = .returned (.pointer u) ∧ (u = none ↔ SU.may a0 b0 = false) ∧ Below W.heap.size W w' by
    cases hm : SU.may a0 b0 with
    | false => exact (spcnew_not d a0 b0 hm KZ W (tp.below hW)).mono fun e w' hh => ⟨_, hh.1, ⟨fun _ => rfl, fun _ => rfl⟩, hh.2⟩
    | true =>
      have hq := SU.may_iff.1 hm
      have q := spcnew_ok d a0.toNat b0.toNat (by omega) (by omega) (List.replicate 32 0) (bytes_zero 32) W (tx.below hW) (tp.below hW)
      rw [show ((a0.toNat : Nat) : Int) = a0 by omega, show ((b0.toNat : Nat) : Int) = b0 by omega, ← hKZ] at q
      exact q.mono fun e w' hh => by obtain ⟨s, he, _, hb⟩ := hh; exact ⟨_, he, ⟨fun q => absurd q (by simp), fun q => absurd q (by decide)⟩, hb⟩))
  have c0 : ∀ W, Blk W w.heap.size 33 GC → W.cell? ⟨w.heap.size, 0, none⟩ = some (.int .i64 a0) := fun W h => h.cell 0 _ (by rw [hGC]; rfl)
  have c1 : ∀ W, Blk W w.heap.size 33 GC → W.cell? ⟨w.heap.size, 1, none⟩ = some (.int .i64 b0) := fun W h => h.cell 1 _ (by rw [hGC]; rfl)
  have HC0 := Lib.hid c0
  have HC1 := Lib.hid c1
  rw [show (#[Value.int .i64 a0, .int .i64 b0] : Array Value) = GC.toArray by rw [hGC]] at HNN HNW ⊢
  obtain ⟨w1, hw1⟩ : ∃ x, x = (w.alloc (.cells GC.toArray 33)).alloc (.cells RC.toArray 49) := ⟨_, rfl⟩
  have W1 := Lib.hid (show Below w.heap.size w w1 by rw [hw1]; exact ((Below.refl w.heap.size w).alloc (Nat.le_refl _) _).alloc (by simp) _)
  have G1 := Lib.hid (show Blk w1 w.heap.size 33 GC by rw [hw1]; exact (Blk.new w 33 GC _ rfl).alloc _)
  have R1 := Lib.hid (show Blk w1 (w.heap.size + 1) 49 RC by rw [hw1]; exact Blk.new _ 49 RC (w.heap.size + 1) (by simp))
  clear c0 c1 hGC hKZ hRZ hZN hRC tx tu tp hzn h1 h2
  go_enter Tryz.func4, Tryz.ntmps4
  go_upto_region 1 with fail
  rw [← hw1]
  clear hw1
  go_upto_region 2 with (first
    | ((with_reducible show wpList _ _ _ (Oper.mk _ (.load _ (.tmp 3)) _ _ _ _ :: _) _ _); refine wpList_load_mid rfl 33 (.tmp 3) rfl w.heap.size 0 rfl GC _ G1.out.range Tryz.underlying33 rfl (by rw [GC2.out]; exact infoGeoP) ?_)
    | ((with_reducible show wpList _ _ _ (Oper.mk (some 23) (.build _ _) _ _ _ _ :: _) _ _); refine wpList_wanted rfl (.agg KZ.toArray) (ex_build0 rfl hbk) ?_)
    | (go_at_call 12; (with_reducible refine (HNN.out _).mono ?_); rintro e w2 ⟨rfl, bb⟩; have R2 := Lib.hid (R1.out.below bb R1.out.lt); have G2 := Lib.hid (G1.out.below bb G1.out.lt); have W2 := Lib.hid (W1.out.on bb); clear bb))
  refine wp_region_l (by kernel_rfl) 4 (by decide) (by kernel_rfl) (by kernel_rfl) (by kernel_rfl) [⟨fun v _ => ∃ d, v = .pointer (some ⟨d, 0, none⟩), fun h _ => h⟩, .val (.agg GC.toArray), .val (.agg KZ.toArray), ⟨fun v _ => ∃ u, v = .pointer u ∧ (u = none ↔ SU.may a0 b0 = false), fun h _ => h⟩] ?_ ?_
  · refine ⟨?_, ?_, ?_, ?_, trivial⟩
    · intro a w' hF hB hd
      exact doesL_call rfl (ex_call (vs := #[]) rfl (by simp) (by go_simp)) ((begun_any w'.heap.size w' (Nat.le_refl _)).mono fun e w3 hh => by obtain ⟨d, he, _, hb⟩ := hh; exact ⟨_, he, ⟨d, rfl⟩, hb⟩)
    · intro a w' hF hB hd
      have e3 : a.eval (.tmp 3) = .pointer (some ⟨w.heap.size, 0, none⟩) := hF 3 (by decide +kernel)
      exact doesL_val rfl (ex_load_part 33 (.tmp 3) rfl w.heap.size 0 e3 GC _ ((G2.out.below hB G2.out.lt).range) Tryz.underlying33 rfl (by rw [GC2.out]; exact infoGeoP)) rfl
    · intro a w' hF hB hd
      exact doesL_val rfl (ex_build0 rfl hbk) rfl
    · intro a w' hF hB hd
      obtain ⟨d, e25⟩ : ∃ d, a.eval (.tmp 25) = .pointer (some ⟨d, 0, none⟩) := hd 0 (by decide +kernel)
      have e26 : a.eval (.tmp 26) = .agg GC.toArray := hd 1 (by decide +kernel)
      have e27 : a.eval (.tmp 27) = .agg KZ.toArray := hd 2 (by decide +kernel)
      exact doesL_call rfl (ex_call (vs := #[.pointer (some ⟨d, 0, none⟩), .agg GC.toArray, .agg KZ.toArray]) rfl (by simp only [List.map_toArray, List.map_cons, List.map_nil, e25, e26, e27]) (by go_simp)) ((HNW.out w' d (W2.out.on hB)).mono fun e w3 hh => by obtain ⟨u, he, hu, hb⟩ := hh; exact ⟨_, he, ⟨u, rfl, hu⟩, hb⟩)
  · intro vs w4 hB hv
    obtain ⟨u, e28, hu⟩ : ∃ u, vs 3 = .pointer u ∧ (u = none ↔ SU.may a0 b0 = false) := hv 3 (by decide)
    simp only [List.take_succ_cons, List.take_zero, List.drop_succ_cons, List.drop_zero, putOps, Act.put, List.setIfInBounds_toArray, List.set_cons_zero, List.set_cons_succ, e28]
    have W4 := Lib.hid (W2.out.on hB)
    have R4 := Lib.hid (R2.out.below hB R2.out.lt)
    have G4 := Lib.hid (G2.out.below hB G2.out.lt)
    have g0 := HC0.out _ G4.out
    have g1 := HC1.out _ G4.out
    clear hv e28 hB
    generalize vs 0 = z0
    generalize vs 1 = z1
    generalize vs 2 = z2
    by_cases k1 : 1 ≤ a0
    · by_cases k2 : a0 ≤ 64
      · by_cases k3 : 1 ≤ b0
        · by_cases k4 : b0 ≤ 2
          · obtain ⟨ad, rfl⟩ : ∃ ad, u = some ad := by
              cases u with
              | none => exact absurd (hu.1 rfl) (by rw [SU.may_iff.2 ⟨k1, k2, k3, k4⟩]; decide)
              | some ad => exact ⟨ad, rfl⟩
            clear hu
            go_wp2_with (first
              | ((with_reducible show wpList _ _ _ (Oper.mk (some 49) (.load _ (.tmp 4)) _ _ _ _ :: _) _ _); refine wpList_load_mid rfl 49 (.tmp 4) rfl (w.heap.size + 1) 0 rfl RC _ R4.out.range Tryz.underlying49 rfl (by rw [RC33.out]; exact infoRfQ) ?_)
              | (go_at_call 14; (with_reducible refine (HDA.out _).mono ?_); rintro e w5 ⟨rfl, bb⟩; have R5 := Lib.hid (R4.out.below bb R4.out.lt); have W5 := Lib.hid (W4.out.on bb); clear bb)
              | ((with_reducible show wpList _ _ _ (Oper.mk (some 55) (.load _ (.tmp 4)) _ _ _ _ :: _) _ _); refine wpList_load_mid rfl 49 (.tmp 4) rfl (w.heap.size + 1) 0 rfl RC _ R5.out.range Tryz.underlying49 rfl (by rw [RC33.out]; exact infoRfQ) ?_)
              | (go_at_call 15; (with_reducible refine (HNO.out _).mono ?_); rintro e w6 ⟨rfl, bb⟩; have R6 := Lib.hid (R5.out.below bb R5.out.lt); have W6 := Lib.hid (W5.out.on bb); clear bb)
              | ((with_reducible show wpList _ _ _ (Oper.mk _ (.store _ (.tmp 12) (.tmp 57)) _ _ _ _ :: _) _ _); refine wpList_store_blk rfl 51 (.tmp 12) (.tmp 57) rfl w6.heap.size 0 ZN rfl rfl 51 ZN (Blk.new w6 51 ZN _ rfl) (by have := ZN264.out; have := ZN264.out; omega) (by rw [ZN264.out]; exact infoNdP) ZN1.out ?_; intro w7 b' g'; have bb := alloc_turn (Below.refl _ _) g'; have R7 := Lib.hid (R6.out.below bb R6.out.lt); have W7 := Lib.hid (W6.out.on bb); clear b' g' bb)
              | ((with_reducible show wpList _ _ _ (Oper.mk (some 61) (.load _ (.tmp 4)) _ _ _ _ :: _) _ _); refine wpList_load_mid rfl 49 (.tmp 4) rfl (w.heap.size + 1) 0 rfl RC _ R7.out.range Tryz.underlying49 rfl (by rw [RC33.out]; exact infoRfQ) ?_)
              | (go_at_call 16; (with_reducible refine (HPA.out _).mono ?_); rintro e w8 ⟨rfl, bb⟩; have R8 := Lib.hid (R7.out.below bb R7.out.lt); have W8 := Lib.hid (W7.out.on bb); clear bb)
              | (go_at_call 17; (with_reducible refine (HPD.out _ W8.out).mono ?_); rintro e w9 ⟨rfl, bb⟩; have R9 := Lib.hid (R8.out.below bb R8.out.lt); have W9 := Lib.hid (W8.out.on bb); clear bb)
              | ((with_reducible show wpList _ _ _ (Oper.mk _ (.store _ (.tmp 16) (.tmp 69)) _ _ _ _ :: _) _ _); refine wpList_store_blk rfl 49 (.tmp 16) (.tmp 69) rfl w9.heap.size 0 RZ rfl rfl 49 RZ (Blk.new w9 49 RZ _ rfl) (by have := RZ33.out; have := RZ33.out; omega) (by rw [RZ33.out]; exact infoRfQ) RZ1.out ?_; intro w10 b' g'; have bb := alloc_turn (Below.refl _ _) g'; have R10 := Lib.hid (R9.out.below bb R9.out.lt); have W10 := Lib.hid (W9.out.on bb); clear b' g' bb)
              | ((with_reducible show wpList _ _ _ (Oper.mk (some 73) (.build _ _) _ _ _ _ :: _) _ _); refine wpList_wanted rfl (.agg ZN.toArray) (ex_build0 rfl hbn) ?_)
              | (go_at_call 18; (with_reducible refine (HPN.out _).mono ?_); rintro e w11 ⟨rfl, bb⟩; have R11 := Lib.hid (R10.out.below bb R10.out.lt); have W11 := Lib.hid (W10.out.on bb); clear bb)
              | ((with_reducible show wpList _ _ _ (Oper.mk _ (.store _ (.tmp 18) (.tmp 75)) _ _ _ _ :: _) _ _); refine wpList_store_blk rfl 49 (.tmp 18) (.tmp 75) rfl w11.heap.size 0 RZ rfl rfl 49 RZ (Blk.new w11 49 RZ _ rfl) (by have := RZ33.out; have := RZ33.out; omega) (by rw [RZ33.out]; exact infoRfQ) RZ1.out ?_; intro w12 b' g'; have bb := alloc_turn (Below.refl _ _) g'; have R12 := Lib.hid (R11.out.below bb R11.out.lt); have W12 := Lib.hid (W11.out.on bb); clear b' g' bb)
              | (go_at_call 19; (with_reducible refine (HPP.out _ W12.out).mono ?_); rintro e w13 ⟨rfl, bb⟩; have R13 := Lib.hid (R12.out.below bb R12.out.lt); have W13 := Lib.hid (W12.out.on bb); clear bb)
              | ((with_reducible show wpList _ _ _ (Oper.mk _ (.store _ (.tmp 20) (.tmp 81)) _ _ _ _ :: _) _ _); refine wpList_store_blk rfl 49 (.tmp 20) (.tmp 81) rfl w13.heap.size 0 RZ rfl rfl 49 RZ (Blk.new w13 49 RZ _ rfl) (by have := RZ33.out; have := RZ33.out; omega) (by rw [RZ33.out]; exact infoRfQ) RZ1.out ?_; intro w14 b' g'; have bb := alloc_turn (Below.refl _ _) g'; have R14 := Lib.hid (R13.out.below bb R13.out.lt); have W14 := Lib.hid (W13.out.on bb); clear b' g' bb)
              | (go_at_call 8; (with_reducible refine (HAW.out _ W14.out).mono ?_); rintro e w15 ⟨rfl, bb⟩; have W15 := Lib.hid (W14.out.on bb); clear bb))
            go_ret
            exact ⟨rfl, W15.out⟩
          · obtain rfl : u = none := hu.2 (by cases q : SU.may a0 b0 with | false => rfl | true => exact absurd (SU.may_iff.1 q).2.2.2 k4)
            clear hu
            go_wp2_with (first
              | ((with_reducible show wpList _ _ _ (Oper.mk (some 49) (.load _ (.tmp 4)) _ _ _ _ :: _) _ _); refine wpList_load_mid rfl 49 (.tmp 4) rfl (w.heap.size + 1) 0 rfl RC _ R4.out.range Tryz.underlying49 rfl (by rw [RC33.out]; exact infoRfQ) ?_)
              | (go_at_call 14; (with_reducible refine (HDA.out _).mono ?_); rintro e w5 ⟨rfl, bb⟩; have R5 := Lib.hid (R4.out.below bb R4.out.lt); have W5 := Lib.hid (W4.out.on bb); clear bb)
              | ((with_reducible show wpList _ _ _ (Oper.mk (some 55) (.load _ (.tmp 4)) _ _ _ _ :: _) _ _); refine wpList_load_mid rfl 49 (.tmp 4) rfl (w.heap.size + 1) 0 rfl RC _ R5.out.range Tryz.underlying49 rfl (by rw [RC33.out]; exact infoRfQ) ?_)
              | (go_at_call 15; (with_reducible refine (HNO.out _).mono ?_); rintro e w6 ⟨rfl, bb⟩; have R6 := Lib.hid (R5.out.below bb R5.out.lt); have W6 := Lib.hid (W5.out.on bb); clear bb)
              | ((with_reducible show wpList _ _ _ (Oper.mk _ (.store _ (.tmp 12) (.tmp 57)) _ _ _ _ :: _) _ _); refine wpList_store_blk rfl 51 (.tmp 12) (.tmp 57) rfl w6.heap.size 0 ZN rfl rfl 51 ZN (Blk.new w6 51 ZN _ rfl) (by have := ZN264.out; have := ZN264.out; omega) (by rw [ZN264.out]; exact infoNdP) ZN1.out ?_; intro w7 b' g'; have bb := alloc_turn (Below.refl _ _) g'; have R7 := Lib.hid (R6.out.below bb R6.out.lt); have W7 := Lib.hid (W6.out.on bb); clear b' g' bb)
              | ((with_reducible show wpList _ _ _ (Oper.mk (some 61) (.load _ (.tmp 4)) _ _ _ _ :: _) _ _); refine wpList_load_mid rfl 49 (.tmp 4) rfl (w.heap.size + 1) 0 rfl RC _ R7.out.range Tryz.underlying49 rfl (by rw [RC33.out]; exact infoRfQ) ?_)
              | (go_at_call 16; (with_reducible refine (HPA.out _).mono ?_); rintro e w8 ⟨rfl, bb⟩; have R8 := Lib.hid (R7.out.below bb R7.out.lt); have W8 := Lib.hid (W7.out.on bb); clear bb)
              | (go_at_call 17; (with_reducible refine (HPD.out _ W8.out).mono ?_); rintro e w9 ⟨rfl, bb⟩; have R9 := Lib.hid (R8.out.below bb R8.out.lt); have W9 := Lib.hid (W8.out.on bb); clear bb)
              | ((with_reducible show wpList _ _ _ (Oper.mk _ (.store _ (.tmp 16) (.tmp 69)) _ _ _ _ :: _) _ _); refine wpList_store_blk rfl 49 (.tmp 16) (.tmp 69) rfl w9.heap.size 0 RZ rfl rfl 49 RZ (Blk.new w9 49 RZ _ rfl) (by have := RZ33.out; have := RZ33.out; omega) (by rw [RZ33.out]; exact infoRfQ) RZ1.out ?_; intro w10 b' g'; have bb := alloc_turn (Below.refl _ _) g'; have R10 := Lib.hid (R9.out.below bb R9.out.lt); have W10 := Lib.hid (W9.out.on bb); clear b' g' bb)
              | ((with_reducible show wpList _ _ _ (Oper.mk (some 73) (.build _ _) _ _ _ _ :: _) _ _); refine wpList_wanted rfl (.agg ZN.toArray) (ex_build0 rfl hbn) ?_)
              | (go_at_call 18; (with_reducible refine (HPN.out _).mono ?_); rintro e w11 ⟨rfl, bb⟩; have R11 := Lib.hid (R10.out.below bb R10.out.lt); have W11 := Lib.hid (W10.out.on bb); clear bb)
              | ((with_reducible show wpList _ _ _ (Oper.mk _ (.store _ (.tmp 18) (.tmp 75)) _ _ _ _ :: _) _ _); refine wpList_store_blk rfl 49 (.tmp 18) (.tmp 75) rfl w11.heap.size 0 RZ rfl rfl 49 RZ (Blk.new w11 49 RZ _ rfl) (by have := RZ33.out; have := RZ33.out; omega) (by rw [RZ33.out]; exact infoRfQ) RZ1.out ?_; intro w12 b' g'; have bb := alloc_turn (Below.refl _ _) g'; have R12 := Lib.hid (R11.out.below bb R11.out.lt); have W12 := Lib.hid (W11.out.on bb); clear b' g' bb)
              | (go_at_call 19; (with_reducible refine (HPP.out _ W12.out).mono ?_); rintro e w13 ⟨rfl, bb⟩; have R13 := Lib.hid (R12.out.below bb R12.out.lt); have W13 := Lib.hid (W12.out.on bb); clear bb)
              | ((with_reducible show wpList _ _ _ (Oper.mk _ (.store _ (.tmp 20) (.tmp 81)) _ _ _ _ :: _) _ _); refine wpList_store_blk rfl 49 (.tmp 20) (.tmp 81) rfl w13.heap.size 0 RZ rfl rfl 49 RZ (Blk.new w13 49 RZ _ rfl) (by have := RZ33.out; have := RZ33.out; omega) (by rw [RZ33.out]; exact infoRfQ) RZ1.out ?_; intro w14 b' g'; have bb := alloc_turn (Below.refl _ _) g'; have R14 := Lib.hid (R13.out.below bb R13.out.lt); have W14 := Lib.hid (W13.out.on bb); clear b' g' bb)
              | (go_at_call 8; (with_reducible refine (HAW.out _ W14.out).mono ?_); rintro e w15 ⟨rfl, bb⟩; have W15 := Lib.hid (W14.out.on bb); clear bb))
            go_ret
            exact ⟨rfl, W15.out⟩
        · obtain rfl : u = none := hu.2 (by cases q : SU.may a0 b0 with | false => rfl | true => exact absurd (SU.may_iff.1 q).2.2.1 k3)
          clear hu
          go_wp2_with (first
            | ((with_reducible show wpList _ _ _ (Oper.mk (some 49) (.load _ (.tmp 4)) _ _ _ _ :: _) _ _); refine wpList_load_mid rfl 49 (.tmp 4) rfl (w.heap.size + 1) 0 rfl RC _ R4.out.range Tryz.underlying49 rfl (by rw [RC33.out]; exact infoRfQ) ?_)
            | (go_at_call 14; (with_reducible refine (HDA.out _).mono ?_); rintro e w5 ⟨rfl, bb⟩; have R5 := Lib.hid (R4.out.below bb R4.out.lt); have W5 := Lib.hid (W4.out.on bb); clear bb)
            | ((with_reducible show wpList _ _ _ (Oper.mk (some 55) (.load _ (.tmp 4)) _ _ _ _ :: _) _ _); refine wpList_load_mid rfl 49 (.tmp 4) rfl (w.heap.size + 1) 0 rfl RC _ R5.out.range Tryz.underlying49 rfl (by rw [RC33.out]; exact infoRfQ) ?_)
            | (go_at_call 15; (with_reducible refine (HNO.out _).mono ?_); rintro e w6 ⟨rfl, bb⟩; have R6 := Lib.hid (R5.out.below bb R5.out.lt); have W6 := Lib.hid (W5.out.on bb); clear bb)
            | ((with_reducible show wpList _ _ _ (Oper.mk _ (.store _ (.tmp 12) (.tmp 57)) _ _ _ _ :: _) _ _); refine wpList_store_blk rfl 51 (.tmp 12) (.tmp 57) rfl w6.heap.size 0 ZN rfl rfl 51 ZN (Blk.new w6 51 ZN _ rfl) (by have := ZN264.out; have := ZN264.out; omega) (by rw [ZN264.out]; exact infoNdP) ZN1.out ?_; intro w7 b' g'; have bb := alloc_turn (Below.refl _ _) g'; have R7 := Lib.hid (R6.out.below bb R6.out.lt); have W7 := Lib.hid (W6.out.on bb); clear b' g' bb)
            | ((with_reducible show wpList _ _ _ (Oper.mk (some 61) (.load _ (.tmp 4)) _ _ _ _ :: _) _ _); refine wpList_load_mid rfl 49 (.tmp 4) rfl (w.heap.size + 1) 0 rfl RC _ R7.out.range Tryz.underlying49 rfl (by rw [RC33.out]; exact infoRfQ) ?_)
            | (go_at_call 16; (with_reducible refine (HPA.out _).mono ?_); rintro e w8 ⟨rfl, bb⟩; have R8 := Lib.hid (R7.out.below bb R7.out.lt); have W8 := Lib.hid (W7.out.on bb); clear bb)
            | (go_at_call 17; (with_reducible refine (HPD.out _ W8.out).mono ?_); rintro e w9 ⟨rfl, bb⟩; have R9 := Lib.hid (R8.out.below bb R8.out.lt); have W9 := Lib.hid (W8.out.on bb); clear bb)
            | ((with_reducible show wpList _ _ _ (Oper.mk _ (.store _ (.tmp 16) (.tmp 69)) _ _ _ _ :: _) _ _); refine wpList_store_blk rfl 49 (.tmp 16) (.tmp 69) rfl w9.heap.size 0 RZ rfl rfl 49 RZ (Blk.new w9 49 RZ _ rfl) (by have := RZ33.out; have := RZ33.out; omega) (by rw [RZ33.out]; exact infoRfQ) RZ1.out ?_; intro w10 b' g'; have bb := alloc_turn (Below.refl _ _) g'; have R10 := Lib.hid (R9.out.below bb R9.out.lt); have W10 := Lib.hid (W9.out.on bb); clear b' g' bb)
            | ((with_reducible show wpList _ _ _ (Oper.mk (some 73) (.build _ _) _ _ _ _ :: _) _ _); refine wpList_wanted rfl (.agg ZN.toArray) (ex_build0 rfl hbn) ?_)
            | (go_at_call 18; (with_reducible refine (HPN.out _).mono ?_); rintro e w11 ⟨rfl, bb⟩; have R11 := Lib.hid (R10.out.below bb R10.out.lt); have W11 := Lib.hid (W10.out.on bb); clear bb)
            | ((with_reducible show wpList _ _ _ (Oper.mk _ (.store _ (.tmp 18) (.tmp 75)) _ _ _ _ :: _) _ _); refine wpList_store_blk rfl 49 (.tmp 18) (.tmp 75) rfl w11.heap.size 0 RZ rfl rfl 49 RZ (Blk.new w11 49 RZ _ rfl) (by have := RZ33.out; have := RZ33.out; omega) (by rw [RZ33.out]; exact infoRfQ) RZ1.out ?_; intro w12 b' g'; have bb := alloc_turn (Below.refl _ _) g'; have R12 := Lib.hid (R11.out.below bb R11.out.lt); have W12 := Lib.hid (W11.out.on bb); clear b' g' bb)
            | (go_at_call 19; (with_reducible refine (HPP.out _ W12.out).mono ?_); rintro e w13 ⟨rfl, bb⟩; have R13 := Lib.hid (R12.out.below bb R12.out.lt); have W13 := Lib.hid (W12.out.on bb); clear bb)
            | ((with_reducible show wpList _ _ _ (Oper.mk _ (.store _ (.tmp 20) (.tmp 81)) _ _ _ _ :: _) _ _); refine wpList_store_blk rfl 49 (.tmp 20) (.tmp 81) rfl w13.heap.size 0 RZ rfl rfl 49 RZ (Blk.new w13 49 RZ _ rfl) (by have := RZ33.out; have := RZ33.out; omega) (by rw [RZ33.out]; exact infoRfQ) RZ1.out ?_; intro w14 b' g'; have bb := alloc_turn (Below.refl _ _) g'; have R14 := Lib.hid (R13.out.below bb R13.out.lt); have W14 := Lib.hid (W13.out.on bb); clear b' g' bb)
            | (go_at_call 8; (with_reducible refine (HAW.out _ W14.out).mono ?_); rintro e w15 ⟨rfl, bb⟩; have W15 := Lib.hid (W14.out.on bb); clear bb))
          go_ret
          exact ⟨rfl, W15.out⟩
      · obtain rfl : u = none := hu.2 (by cases q : SU.may a0 b0 with | false => rfl | true => exact absurd (SU.may_iff.1 q).2.1 k2)
        clear hu
        go_wp2_with (first
          | ((with_reducible show wpList _ _ _ (Oper.mk (some 49) (.load _ (.tmp 4)) _ _ _ _ :: _) _ _); refine wpList_load_mid rfl 49 (.tmp 4) rfl (w.heap.size + 1) 0 rfl RC _ R4.out.range Tryz.underlying49 rfl (by rw [RC33.out]; exact infoRfQ) ?_)
          | (go_at_call 14; (with_reducible refine (HDA.out _).mono ?_); rintro e w5 ⟨rfl, bb⟩; have R5 := Lib.hid (R4.out.below bb R4.out.lt); have W5 := Lib.hid (W4.out.on bb); clear bb)
          | ((with_reducible show wpList _ _ _ (Oper.mk (some 55) (.load _ (.tmp 4)) _ _ _ _ :: _) _ _); refine wpList_load_mid rfl 49 (.tmp 4) rfl (w.heap.size + 1) 0 rfl RC _ R5.out.range Tryz.underlying49 rfl (by rw [RC33.out]; exact infoRfQ) ?_)
          | (go_at_call 15; (with_reducible refine (HNO.out _).mono ?_); rintro e w6 ⟨rfl, bb⟩; have R6 := Lib.hid (R5.out.below bb R5.out.lt); have W6 := Lib.hid (W5.out.on bb); clear bb)
          | ((with_reducible show wpList _ _ _ (Oper.mk _ (.store _ (.tmp 12) (.tmp 57)) _ _ _ _ :: _) _ _); refine wpList_store_blk rfl 51 (.tmp 12) (.tmp 57) rfl w6.heap.size 0 ZN rfl rfl 51 ZN (Blk.new w6 51 ZN _ rfl) (by have := ZN264.out; have := ZN264.out; omega) (by rw [ZN264.out]; exact infoNdP) ZN1.out ?_; intro w7 b' g'; have bb := alloc_turn (Below.refl _ _) g'; have R7 := Lib.hid (R6.out.below bb R6.out.lt); have W7 := Lib.hid (W6.out.on bb); clear b' g' bb)
          | ((with_reducible show wpList _ _ _ (Oper.mk (some 61) (.load _ (.tmp 4)) _ _ _ _ :: _) _ _); refine wpList_load_mid rfl 49 (.tmp 4) rfl (w.heap.size + 1) 0 rfl RC _ R7.out.range Tryz.underlying49 rfl (by rw [RC33.out]; exact infoRfQ) ?_)
          | (go_at_call 16; (with_reducible refine (HPA.out _).mono ?_); rintro e w8 ⟨rfl, bb⟩; have R8 := Lib.hid (R7.out.below bb R7.out.lt); have W8 := Lib.hid (W7.out.on bb); clear bb)
          | (go_at_call 17; (with_reducible refine (HPD.out _ W8.out).mono ?_); rintro e w9 ⟨rfl, bb⟩; have R9 := Lib.hid (R8.out.below bb R8.out.lt); have W9 := Lib.hid (W8.out.on bb); clear bb)
          | ((with_reducible show wpList _ _ _ (Oper.mk _ (.store _ (.tmp 16) (.tmp 69)) _ _ _ _ :: _) _ _); refine wpList_store_blk rfl 49 (.tmp 16) (.tmp 69) rfl w9.heap.size 0 RZ rfl rfl 49 RZ (Blk.new w9 49 RZ _ rfl) (by have := RZ33.out; have := RZ33.out; omega) (by rw [RZ33.out]; exact infoRfQ) RZ1.out ?_; intro w10 b' g'; have bb := alloc_turn (Below.refl _ _) g'; have R10 := Lib.hid (R9.out.below bb R9.out.lt); have W10 := Lib.hid (W9.out.on bb); clear b' g' bb)
          | ((with_reducible show wpList _ _ _ (Oper.mk (some 73) (.build _ _) _ _ _ _ :: _) _ _); refine wpList_wanted rfl (.agg ZN.toArray) (ex_build0 rfl hbn) ?_)
          | (go_at_call 18; (with_reducible refine (HPN.out _).mono ?_); rintro e w11 ⟨rfl, bb⟩; have R11 := Lib.hid (R10.out.below bb R10.out.lt); have W11 := Lib.hid (W10.out.on bb); clear bb)
          | ((with_reducible show wpList _ _ _ (Oper.mk _ (.store _ (.tmp 18) (.tmp 75)) _ _ _ _ :: _) _ _); refine wpList_store_blk rfl 49 (.tmp 18) (.tmp 75) rfl w11.heap.size 0 RZ rfl rfl 49 RZ (Blk.new w11 49 RZ _ rfl) (by have := RZ33.out; have := RZ33.out; omega) (by rw [RZ33.out]; exact infoRfQ) RZ1.out ?_; intro w12 b' g'; have bb := alloc_turn (Below.refl _ _) g'; have R12 := Lib.hid (R11.out.below bb R11.out.lt); have W12 := Lib.hid (W11.out.on bb); clear b' g' bb)
          | (go_at_call 19; (with_reducible refine (HPP.out _ W12.out).mono ?_); rintro e w13 ⟨rfl, bb⟩; have R13 := Lib.hid (R12.out.below bb R12.out.lt); have W13 := Lib.hid (W12.out.on bb); clear bb)
          | ((with_reducible show wpList _ _ _ (Oper.mk _ (.store _ (.tmp 20) (.tmp 81)) _ _ _ _ :: _) _ _); refine wpList_store_blk rfl 49 (.tmp 20) (.tmp 81) rfl w13.heap.size 0 RZ rfl rfl 49 RZ (Blk.new w13 49 RZ _ rfl) (by have := RZ33.out; have := RZ33.out; omega) (by rw [RZ33.out]; exact infoRfQ) RZ1.out ?_; intro w14 b' g'; have bb := alloc_turn (Below.refl _ _) g'; have R14 := Lib.hid (R13.out.below bb R13.out.lt); have W14 := Lib.hid (W13.out.on bb); clear b' g' bb)
          | (go_at_call 8; (with_reducible refine (HAW.out _ W14.out).mono ?_); rintro e w15 ⟨rfl, bb⟩; have W15 := Lib.hid (W14.out.on bb); clear bb))
        go_ret
        exact ⟨rfl, W15.out⟩
    · obtain rfl : u = none := hu.2 (by cases q : SU.may a0 b0 with | false => rfl | true => exact absurd (SU.may_iff.1 q).1 k1)
      clear hu
      go_wp2_with (first
        | ((with_reducible show wpList _ _ _ (Oper.mk (some 49) (.load _ (.tmp 4)) _ _ _ _ :: _) _ _); refine wpList_load_mid rfl 49 (.tmp 4) rfl (w.heap.size + 1) 0 rfl RC _ R4.out.range Tryz.underlying49 rfl (by rw [RC33.out]; exact infoRfQ) ?_)
        | (go_at_call 14; (with_reducible refine (HDA.out _).mono ?_); rintro e w5 ⟨rfl, bb⟩; have R5 := Lib.hid (R4.out.below bb R4.out.lt); have W5 := Lib.hid (W4.out.on bb); clear bb)
        | ((with_reducible show wpList _ _ _ (Oper.mk (some 55) (.load _ (.tmp 4)) _ _ _ _ :: _) _ _); refine wpList_load_mid rfl 49 (.tmp 4) rfl (w.heap.size + 1) 0 rfl RC _ R5.out.range Tryz.underlying49 rfl (by rw [RC33.out]; exact infoRfQ) ?_)
        | (go_at_call 15; (with_reducible refine (HNO.out _).mono ?_); rintro e w6 ⟨rfl, bb⟩; have R6 := Lib.hid (R5.out.below bb R5.out.lt); have W6 := Lib.hid (W5.out.on bb); clear bb)
        | ((with_reducible show wpList _ _ _ (Oper.mk _ (.store _ (.tmp 12) (.tmp 57)) _ _ _ _ :: _) _ _); refine wpList_store_blk rfl 51 (.tmp 12) (.tmp 57) rfl w6.heap.size 0 ZN rfl rfl 51 ZN (Blk.new w6 51 ZN _ rfl) (by have := ZN264.out; have := ZN264.out; omega) (by rw [ZN264.out]; exact infoNdP) ZN1.out ?_; intro w7 b' g'; have bb := alloc_turn (Below.refl _ _) g'; have R7 := Lib.hid (R6.out.below bb R6.out.lt); have W7 := Lib.hid (W6.out.on bb); clear b' g' bb)
        | ((with_reducible show wpList _ _ _ (Oper.mk (some 61) (.load _ (.tmp 4)) _ _ _ _ :: _) _ _); refine wpList_load_mid rfl 49 (.tmp 4) rfl (w.heap.size + 1) 0 rfl RC _ R7.out.range Tryz.underlying49 rfl (by rw [RC33.out]; exact infoRfQ) ?_)
        | (go_at_call 16; (with_reducible refine (HPA.out _).mono ?_); rintro e w8 ⟨rfl, bb⟩; have R8 := Lib.hid (R7.out.below bb R7.out.lt); have W8 := Lib.hid (W7.out.on bb); clear bb)
        | (go_at_call 17; (with_reducible refine (HPD.out _ W8.out).mono ?_); rintro e w9 ⟨rfl, bb⟩; have R9 := Lib.hid (R8.out.below bb R8.out.lt); have W9 := Lib.hid (W8.out.on bb); clear bb)
        | ((with_reducible show wpList _ _ _ (Oper.mk _ (.store _ (.tmp 16) (.tmp 69)) _ _ _ _ :: _) _ _); refine wpList_store_blk rfl 49 (.tmp 16) (.tmp 69) rfl w9.heap.size 0 RZ rfl rfl 49 RZ (Blk.new w9 49 RZ _ rfl) (by have := RZ33.out; have := RZ33.out; omega) (by rw [RZ33.out]; exact infoRfQ) RZ1.out ?_; intro w10 b' g'; have bb := alloc_turn (Below.refl _ _) g'; have R10 := Lib.hid (R9.out.below bb R9.out.lt); have W10 := Lib.hid (W9.out.on bb); clear b' g' bb)
        | ((with_reducible show wpList _ _ _ (Oper.mk (some 73) (.build _ _) _ _ _ _ :: _) _ _); refine wpList_wanted rfl (.agg ZN.toArray) (ex_build0 rfl hbn) ?_)
        | (go_at_call 18; (with_reducible refine (HPN.out _).mono ?_); rintro e w11 ⟨rfl, bb⟩; have R11 := Lib.hid (R10.out.below bb R10.out.lt); have W11 := Lib.hid (W10.out.on bb); clear bb)
        | ((with_reducible show wpList _ _ _ (Oper.mk _ (.store _ (.tmp 18) (.tmp 75)) _ _ _ _ :: _) _ _); refine wpList_store_blk rfl 49 (.tmp 18) (.tmp 75) rfl w11.heap.size 0 RZ rfl rfl 49 RZ (Blk.new w11 49 RZ _ rfl) (by have := RZ33.out; have := RZ33.out; omega) (by rw [RZ33.out]; exact infoRfQ) RZ1.out ?_; intro w12 b' g'; have bb := alloc_turn (Below.refl _ _) g'; have R12 := Lib.hid (R11.out.below bb R11.out.lt); have W12 := Lib.hid (W11.out.on bb); clear b' g' bb)
        | (go_at_call 19; (with_reducible refine (HPP.out _ W12.out).mono ?_); rintro e w13 ⟨rfl, bb⟩; have R13 := Lib.hid (R12.out.below bb R12.out.lt); have W13 := Lib.hid (W12.out.on bb); clear bb)
        | ((with_reducible show wpList _ _ _ (Oper.mk _ (.store _ (.tmp 20) (.tmp 81)) _ _ _ _ :: _) _ _); refine wpList_store_blk rfl 49 (.tmp 20) (.tmp 81) rfl w13.heap.size 0 RZ rfl rfl 49 RZ (Blk.new w13 49 RZ _ rfl) (by have := RZ33.out; have := RZ33.out; omega) (by rw [RZ33.out]; exact infoRfQ) RZ1.out ?_; intro w14 b' g'; have bb := alloc_turn (Below.refl _ _) g'; have R14 := Lib.hid (R13.out.below bb R13.out.lt); have W14 := Lib.hid (W13.out.on bb); clear b' g' bb)
        | (go_at_call 8; (with_reducible refine (HAW.out _ W14.out).mono ?_); rintro e w15 ⟨rfl, bb⟩; have W15 := Lib.hid (W14.out.on bb); clear bb))
      go_ret
      exact ⟨rfl, W15.out⟩
set_option maxRecDepth 100000 in
theorem reads (os : Os) {H : Type} (enc : TypeId × Value → H) : ∃ places, DataW.whole enc Tryz.prog ((World.doorLaid Tryz.prog 400 os).forCall (fun _ _ => 0) ⟨#[], #[.agg #[.int .i64 0, .int .i64 0], .agg (RT.pc ND.zp).toArray, .slice none 0 0], []⟩).memory Tryz.f4.params.toList Rows.spaceNobodySpec.vars false (#[.agg #[.int .i64 0, .int .i64 0], .agg (RT.pc ND.zp).toArray, .slice none 0 0] : Array Value).toList 8 = some ([.agg [.lit (.int .i64 0), .lit (.int .i64 0)], litRf, .nil], [], places) :=
  ⟨[], by kernel_rfl⟩
set_option maxRecDepth 100000 in
theorem wok (os : Os) : Input.okWideB Tryz.prog ((World.doorLaid Tryz.prog 400 os).forCall (fun _ _ => 0) ⟨#[], #[.agg #[.int .i64 0, .int .i64 0], .agg (RT.pc ND.zp).toArray, .slice none 0 0], []⟩) 4 ⟨#[], #[.agg #[.int .i64 0, .int .i64 0], .agg (RT.pc ND.zp).toArray, .slice none 0 0], []⟩ = true := by kernel_rfl
set_option linter.unusedVariables false in
set_option maxHeartbeats 1000000 in
set_option maxRecDepth 100000 in
theorem lifted (os : Os) (started : os.Started) (H : Type) (enc : TypeId × Value → H) (F : Stop.Interp) :
    ReturnsInHanded {} Tryz.checked os 4 .any ((OpenSpec.ofChange Rows.spaceNobodySpec).preRow enc Tryz.prog Tryz.f4 Rows.spaceNobodyRow.domain false laidXUPs) (((OpenSpec.ofChange Rows.spaceNobodySpec).at F).post enc Tryz.prog Tryz.f4 false true false false) := by
  obtain ⟨places, hx⟩ := reads os enc
  refine returnsInHanded_of_row (C := Tryz.checked) (s := OpenSpec.ofChange Rows.spaceNobodySpec) own started (by kernel_rfl) Tryz.func4
    (witness_row_atRef (enc := enc) (C := Tryz.checked) false (World.doorLaid Tryz.prog 400 os) #[.agg #[.int .i64 0, .int .i64 0], .agg (RT.pc ND.zp).toArray, .slice none 0 0] rfl (by kernel_rfl) (by kernel_rfl) (wok os)
      (OpenSpec.preRow_of_cond 8 hx (by kernel_rfl) (fun k hk => by cases hk) (by kernel_rfl) (doorXUPs_met os _))) ?_
  intro W base args ds gs before hval0 hW _ hcond hsz0 hL _ _
  have hsz : (DataW.weightsEach Tryz.prog (Tryz.f4.params.toList ++ Rows.spaceNobodySpec.plain.varTypes Tryz.prog) (ds ++ gs)).all (· ≤ reachBytes) = true := hsz0
  clear hsz0
  have hval : ∀ (j : Nat) t v, Tryz.f4.params[j]? = some t → args[j]? = some v → Value.okWide Tryz.prog W .any base t v := hval0
  have hW' := hW
  obtain ⟨p, q, hA0, hV, rfl, _, _⟩ := hW
  have hA : DataW.TrodAll enc Tryz.prog W 0 (fun _ => true) true Tryz.f4.params.toList args.toList ds p := hA0
  rw [Tryz.params4] at hA hval hsz
  obtain ⟨v0, vs0, d0, ds0, p0, q0, hargs, rfl, rfl, g0, r0⟩ := trodAll_cons hA
  obtain ⟨v1, vs1, d1, ds1, p1, q1, rfl, rfl, rfl, g1, r1⟩ := trodAll_cons r0
  obtain ⟨v2, vs2, d2, ds2, p2, q2, rfl, rfl, rfl, g2, r2⟩ := trodAll_cons r1
  obtain ⟨rfl, rfl, rfl⟩ := trodAll_nil r2
  obtain rfl : args = #[v0, v1, v2] := by cases args; simp_all
  obtain ⟨rfl, rfl⟩ := trodVars_none hV
  obtain ⟨a0, b0, w0, x0, rfl, rfl, rfl⟩ := open_geo (hval 0 33 v0 rfl rfl) g0
  obtain ⟨rr1, hh1, rfl⟩ := open_refV (hval 1 49 v1 rfl rfl) g1
  obtain ⟨l2, h2⟩ := open_bytes (hval 2 46 v2 rfl rfl) g2 (fun elems spare e => sized_slice hsz (j := 2) (t := 46) (e := 5) rfl (by rw [← e]; rfl) Tryz.underlying46)
  clear hA0 hval0
  have hlt := hW'.lt
  refine (walk W (tabsXUPs_of_laid hL) a0 b0 w0 x0 rr1 hh1 v2 l2 h2).mono fun e W' ⟨he, hb⟩ => ?_
  subst he
  have hargs : DataW.TrodAll enc Tryz.prog W' 0 (fun b => decide (b < W.heap.size)) true _ _ _ _ := (trodAll_cons_mk (shut_geo w0 x0) (trodAll_cons_mk (Below.trod laidOut (by kernel_rfl) (of_decide_eq_true (by kernel_rfl)) g1 hb (fun x hx => hlt x (by simp [hx]))) (trodAll_cons_mk (Below.trod laidOut (by kernel_rfl) (of_decide_eq_true (by kernel_rfl)) g2 hb (fun x hx => hlt x (by simp [hx]))) trodAll_mk0)))
  simp only [List.append_nil] at hW' hargs
  exact ⟨_, rfl, post_law hW' (trodAll_cons_mk (shut_bool Tryz.underlying4 _) trodAll_mk0) hargs rfl hb⟩
theorem over : Rows.spaceNobodyRow.holds Tryz.pinned (OpenSpec.ofChange Rows.spaceNobodySpec) :=
  OpenClaim.holds_of_cond 4 Tryz.f4 rfl rfl rfl rfl rfl rfl rfl ⟨rfl, rfl, rfl, rfl, rfl⟩ rfl rfl rfl rfl rfl (by kernel_rfl) Tryz.func4 (by kernel_rfl)
    (of_decide_eq_true (by kernel_rfl)) (by unfold Func.isWrapper; first | (rw [if_pos (by decide +kernel)]; kernel_rfl) | (rw [if_neg (by decide +kernel)]; exact ⟨rfl, rfl⟩))
    (fun os started H enc _ F => by rw [OpenClaim.pre_eq_preRow]; exact lifted os started H enc F)

/-- The given statement. -/
theorem proved : Rows.SpaceNobodyCardSaid :=
  Claim7.holds_tied_plain_at .later [] _ _ _ _
    over (fun _ h => by cases h) (by kernel_rfl) (fun _ h => by cases h) spaceNobody_row_tie rfl ⟨rfl, rfl⟩ (by kernel_rfl) rfl
    (fun f fn hf hfn => by
      obtain rfl : f = 4 := Option.some.inj ((show Tryz.prog.funcNamed "reliquary/reliquarylaw16.SpaceNobody" = some 4 by kernel_rfl).symm.trans hf) |>.symm
      obtain rfl : fn = Tryz.f4 := (Option.some.inj (Tryz.func4.symm.trans hfn)).symm
      exact ⟨by kernel_rfl, fun j t ht => by
        rw [Tryz.params4] at ht
        have hm : t ∈ [33, 49, 46] := by simpa using Array.mem_of_getElem? ht
        have hall : ([33, 49, 46].all fun u => !Tryz.prog.wantsStandIn u) = true := by kernel_rfl
        exact (show Tryz.prog.wantsStandIn t = false by simpa using List.all_eq_true.1 hall t hm)⟩)
    (by kernel_rfl)
end Go.Proofs.YthmkpekeghcifaaGreatDoor.spaceNobody

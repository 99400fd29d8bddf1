/- AllocForks: a fork is as the set is, and what becomes of one changes nothing of the other: any at most a hundred calls of the set, and as many of its fork, leave each as the document says. No condition. -/
import Derived.Test.YtlckhlcccifbfaaDoorRows
import Derived.Test.YtlckhlcccifbfaaDoorAlSame
import Derived.Test.YtlckhlcccifbfaaDoorActsA
import Derived.Test.YtlckhlcccifbfaaDoorU16
import Derived.Test.YtlckhlcccifbfaaDoorLoadWanted
import Derived.RegionTactic
import Derived.BigRegion
import Derived.Test.YtlckhlcccifbfaaDoorDoorBits
import Derived.Test.YtlckhlcccifbfaaDoorTie
import Derived.Test.YtlckhlcccifbfaaDoorCards
import Derived.SevenTiedAt
import Derived.WalkKit
import Derived.ProofKit
import Derived.OpenShut
import Derived.SizedLaws
import Derived.Carry
import Derived.Deep.DeepHandedRow
import Derived.Deep.DeepWitnessRowRef
namespace Go.Proofs.YtlckhlcccifbfaaDoor.allocForks
open Go.ChangeShapes Go.WideShapes Go.ChangeAt Go.RowKit

theorem own : ownKnob Tryd.prog.godebug = none := by kernel_rfl
set_option linter.unusedVariables false in
set_option maxHeartbeats 8000000 in
set_option maxRecDepth 100000 in
theorem walk (w : World) (ht : TabD w) (a0 : Int) (w0 : (Lit.int .u16 a0).wf = true) (v1 : Value) (l1 : List AA) (h1 : ActsA w v1 l1) (v2 : Value) (l2 : List AA) (h2 : ActsA w v2 l2) :
    Calls Tryd.prog 4 #[.int .u16 a0, v1, v2] w fun e w' => e = .returned (.bool true) ∧ Below w.heap.size w w' := by
  obtain ⟨T, hT16, rfl⟩ := u16_nat w0
  have HT := Lib.hid ht
  have em : most (T : Int) = T := by unfold most; omega
  have HNW := Lib.hid (anew_any (T : Int) w)
  have HRW := Lib.hid (fun W => rnew_any (T : Int) W)
  rw [em] at HNW HRW
  have hT : T ≤ 65536 := by omega
  obtain ⟨ao, cap, rfl⟩ := h1.shape
  obtain ⟨ao2, cap2, rfl⟩ := h2.shape
  have HA := Lib.hid h1
  have HA2 := Lib.hid h2
  clear ht em h1 h2
  go_enter Tryd.func4, Tryd.ntmps4
  by_cases hlen : 100 < l1.length
  · have hI : (100 : Int) < (l1.length : Int) := by omega
    have hd : decide (100 < l1.length) = true := by simp; omega
    go_wp2_with (go_at_call 9; refine (aawake_any w HT.out).mono ?_; rintro e1 w3 ⟨rfl, hb⟩; have B3 := Lib.hid hb; clear hb)
    go_ret
    exact ⟨rfl, B3.out⟩
  by_cases hlen2 : 100 < l2.length
  · have hI : (100 : Int) < (l2.length : Int) := by omega
    have hI2 : ¬ (100 : Int) < (l1.length : Int) := by omega
    have hd : decide (100 < l2.length) = true := by simp; omega
    have hd2 : decide (100 < l1.length) = false := by simp; omega
    go_wp2_with (go_at_call 9; refine (aawake_any w HT.out).mono ?_; rintro e1 w3 ⟨rfl, hb⟩; have B3 := Lib.hid hb; clear hb)
    go_ret
    exact ⟨rfl, B3.out⟩
  · have hd : decide (100 < l2.length) = false := by simp; omega
    have hd2 : decide (100 < l1.length) = false := by simp; omega
    have hd3 : decide ((100 : Int) < (l1.length : Int)) = false := by simp; omega
    have hd4 : decide ((100 : Int) < (l2.length : Int)) = false := by simp; omega
    go_upto_region 4 with (first
      | (go_at_call 10; refine HNW.out.mono ?_; rintro e1 w1 ⟨b, g, rfl, qb, qg, s1, b1⟩; have QB := Lib.hid qb; have QG := Lib.hid qg; have S1 := Lib.hid s1; have B1 := Lib.hid b1; clear qb qg s1 b1)
      | (go_at_call 11; refine (HRW.out w1).mono ?_; rintro e2 w2 ⟨rfl, b2⟩; have S2 := Lib.hid (S1.out.below b2); have B2 := Lib.hid (B1.out.on b2); clear b2)
      | ((with_reducible show wpList _ _ _ (Oper.mk _ (.store _ (.tmp 8) _) _ _ _ _ :: _) _ _); refine wpList_store_blk rfl 28 (.tmp 8) (.tmp 28) rfl w2.heap.size 0 (rs T (.slice none 0 0)) rfl rfl 28 (rs 0 (.slice none 0 0)) (Blk.new w2 _ _ _ rfl) (Nat.le_refl _) infoSet (rs_one _ _ _ _) ?_; intro w3 hb hg; rw [splice_all _ _ (by rfl)] at hb; have R3 := Lib.hid hb; have D3 := Lib.hid (below_then (w := w2) ((Below.refl _ _).alloc (Nat.le_refl _) _) hg (Nat.le_refl _)); clear hb hg))
    obtain ⟨c, hc⟩ : ∃ c, c = w2.heap.size := ⟨_, rfl⟩
    have HC := Lib.hid hc
    have E3 := Lib.hid (B2.out.on D3.out)
    have S3 := Lib.hid (S2.out.below D3.out)
    have HCW := Lib.hid (show w.heap.size ≤ c by rw [hc]; exact B2.out.size)
    have HCB := Lib.hid (show b < c ∧ g < c by rw [hc]; exact ⟨S2.out.lt.1, S2.out.lt.2.1⟩)
    rw [← hc] at R3 ⊢
    clear hc HNW HRW S1 B1 S2 B2 D3
    go_wp2_with fail
    go_loopw [9] (fun x wr => ∃ (i : Nat) (u : Nat → Bool) (v : Value), i ≤ l1.length ∧ x = .int .i64 (i : Int) ∧ Sets wr b g T u ∧ Blk wr c 28 (rs T v) ∧ Wd wr v (AL.lst T u) ∧ Below w.heap.size w wr) (fun x _ => l1.length - (intOf x).toNat)
    case atStart => exact ⟨0, _, _, Nat.zero_le _, rfl, S3.out, R3.out, by rw [AL.lst_none]; exact Wd.none_ w3, E3.out⟩
    case round =>
      obtain ⟨i, u, v, hi, hx, ss, rr, vv, bw⟩ := hrel
      subst hx
      obtain ⟨av, cv, hsh, _⟩ := vv.shape
      obtain ⟨L, hL⟩ : ∃ L, L = (AL.lst T u).length := ⟨_, rfl⟩
      rw [← hL] at hsh
      subst hsh
      clear hL S3 R3 E3
      have SS := Lib.hid ss
      have RR := Lib.hid rr
      have VV := Lib.hid vv
      have BW := Lib.hid bw
      by_cases hlt : i < l1.length
      · obtain ⟨x, hx⟩ : ∃ x, l1[i]? = some x := ⟨l1[i], List.getElem?_eq_getElem hlt⟩
        obtain ⟨q, off, rfl, hk, hn, k0, k1⟩ := (HA.out.below BW.out).at_ i x hx
        have hlI : (i : Int) < (l1.length : Int) := by omega
        have r0 : wr.cell? ⟨c, 0, none⟩ = some (.int .i64 (T : Int)) := rr.cell 0 _ rfl
        have r1 : wr.cell? ⟨c, 1, none⟩ = some (.slice av L cv) := rr.cell 1 _ rfl
        have HD := Lib.hid (fun W (hW : Below wr.heap.size wr W) => show Calls Tryd.prog 13 #[.pointer (some ⟨b, 0, none⟩), .agg #[.int .i64 (T : Int), .slice av L cv], .agg #[.int .u8 (x.kind : Int), .int .u32 (x.n : Int)]] W fun e w' => ∃ u' v', e = .returned (.tuple #[.agg #[.int .i64 (T : Int), v'], .bool true]) ∧ Sets w' b g T u' ∧ Wd w' v' (AL.lst T u') ∧ W.grownBy w' (some g) from ado_any b g T u _ x.kind x.n W hn (SS.out.below hW) (VV.out.below hW) (HT.out.below (BW.out.on hW)))
        clear hx rr ss vv bw
        go_upto_region 7 with (fail)
        go_region_with ((go_at_call 13; refine (HD.out _ ((Below.refl _ _).drew)).mono ?_; rintro e5 w5 ⟨u5, v5, rfl, s5, hv5, g5⟩; obtain ⟨L5, hL5⟩ : ∃ y, y = (AL.lst T u5).length := ⟨_, rfl⟩; obtain ⟨a5, k5, hsh5, _⟩ := hv5.shape; rw [← hL5] at hsh5; subst hsh5; have R5 := Lib.hid (Blk.grown (RR.out.below ((Below.refl _ _).drew) RR.out.lt) g5 (fun e => by have := Option.some.inj e; have := HCB.out; omega)); have x0 := R5.out.cell 0 _ rfl; have x1 := R5.out.cell 1 _ rfl; have y0 := R5.out.free 0; have y1 := R5.out.free 1; have S5 := Lib.hid s5; have V5 := Lib.hid hv5; have G5 := Lib.hid g5; clear s5 hv5 g5 hL5))
        all_goals
          try simp only [Act.put, List.getElem_toArray, List.getElem_cons_succ, List.getElem_cons_zero, List.setIfInBounds_toArray, List.set_cons_succ, List.set_cons_zero]
          generalize hW6 : ((w5.setCell ⟨c, 0, none⟩ (.int .i64 (T : Int))).setCell ⟨c, 1, none⟩ (.slice a5 L5 k5)) = W6
          have g6 : w5.grownBy W6 (some c) := by rw [← hW6]; exact only_set (p := ⟨c, 1, none⟩) (only_set (p := ⟨c, 0, none⟩) (World.grownBy.refl w5 (some c)) (.inl rfl) _) (.inl rfl) _
          have R6 := Lib.hid (show Blk W6 c 28 (rs T (.slice a5 L5 k5)) by rw [← hW6]; exact (R5.out.set 0 _).set 1 _)
          have S6 := Lib.hid (S5.out.grown g6 (fun e => by have := Option.some.inj e; have := HCB.out; omega) (fun e => by have := Option.some.inj e; have := HCB.out; omega))
          have V6 := Lib.hid (V5.out.besides g6 R5.out (rs_no32 _ _ _ _))
          have E6 := Lib.hid (below_then (below_then (BW.out.on ((Below.refl _ _).drew)) G5.out QG.out) g6 HCW.out)
          clear hW6 g6 R5 S5 V5 G5 HD k0 k1 r0 r1 x0 x1 y0 y1 SS RR VV BW
          go_wp2_with fail
          exact ⟨⟨i + 1, u5, _, by omega, by go_num, S6.out, R6.out, V6.out, E6.out⟩, by simp [intOf]; omega⟩
      · obtain rfl : i = l1.length := by omega
        have hlI : ¬ (l1.length : Int) < (l1.length : Int) := by omega
        clear ss vv bw rr
        go_upto_region 8 with (fail)
        have r0 : wr.cell? ⟨c, 0, none⟩ = some (.int .i64 (T : Int)) := RR.out.cell 0 _ rfl
        have r1 : wr.cell? ⟨c, 1, none⟩ = some (.slice av L cv) := RR.out.cell 1 _ rfl
        have hcl := RR.out.lt
        have HFK := Lib.hid (fun W (hW : Below wr.heap.size wr W) => afork_any b g T u W (SS.out.below hW))
        have W1 := Lib.hid (show Below wr.heap.size wr wr.drew from (Below.refl _ _).drew)
        have W2 := Lib.hid (show Below wr.heap.size wr (wr.alloc (.cells #[.int .i64 0, .slice none 0 0] 28)).drew from ((Below.refl _ _).alloc (Nat.le_refl _) _).drew)
        go_region_with ((go_at_call 14; first
          | (with_reducible refine (HFK.out _ W1.out).mono ?_; rintro e5 w5 ⟨b2, g2, rfl, qb2, qg2, s5, h5⟩; have H5 := Lib.hid (W1.out.on h5); have rr5 := RR.out.below (W1.out.on h5) RR.out.lt; have x0 := rr5.cell 0 _ rfl; have x1 := rr5.cell 1 _ rfl; have hcl5 := rr5.lt; clear rr5 h5)
          | (with_reducible refine (HFK.out _ W2.out).mono ?_; rintro e5 w5 ⟨b2, g2, rfl, qb2, qg2, s5, h5⟩; have H5 := Lib.hid (W2.out.on h5); have rr5 := RR.out.below (W2.out.on h5) RR.out.lt; have x0 := rr5.cell 0 _ rfl; have x1 := rr5.cell 1 _ rfl; have hcl5 := rr5.lt; have kk4 := (Blk.new wr 28 (rs 0 (.slice none 0 0)) _ rfl).drew; have kk5 := kk4.below h5 kk4.lt; clear kk4; have y0 := kk5.cell 0 _ rfl; have y1 := kk5.cell 1 _ rfl; have z0 := kk5.free 0; have z1 := kk5.free 1)))
        all_goals
          simp only [Act.put, List.getElem_toArray, List.getElem_cons_succ, List.getElem_cons_zero, List.setIfInBounds_toArray, List.set_cons_succ, List.set_cons_zero]
          first
            | (generalize hW6 : w5.alloc (.cells #[.int .i64 (T : Int), .slice av L cv] 28) = W6
               generalize hc2 : w5.heap.size = c2
               have hb6 : Below w5.heap.size w5 W6 := by rw [← hW6]; exact (Below.refl _ _).alloc (Nat.le_refl _) _
               have N2 := Lib.hid (show Blk W6 c2 28 (rs T (.slice av L cv)) by rw [← hW6, ← hc2]; exact Blk.new w5 _ _ _ rfl)
               have F2 := Lib.hid (s5.below hb6)
               have OS := Lib.hid ((SS.out.below H5.out).below hb6)
               have OR := Lib.hid ((RR.out.below H5.out RR.out.lt).below hb6 hcl5)
               have OV := Lib.hid ((VV.out.below H5.out).below hb6)
               have OE := Lib.hid ((BW.out.on H5.out).on hb6)
               have q1 : wr.heap.size ≤ b2 := qb2
               have q2 : wr.heap.size ≤ g2 := qg2
               have q3 := s5.lt
               have q4 := SS.out.lt
               have q5 := BW.out.size
               have q6 := H5.out.size
               have HN := Lib.hid (show b2 ≠ c2 ∧ g2 ≠ c2 ∧ b ≠ c2 ∧ g ≠ c2 ∧ c ≠ c2 ∧ b ≠ g2 ∧ g ≠ g2 ∧ c ≠ g2 ∧ w.heap.size ≤ g2 ∧ w.heap.size ≤ c2 by omega)
               clear hW6 hc2 hb6 q1 q2 q3 q4 q5 q6 s5 H5 x0 x1 hcl5 qb2 qg2)
            | (generalize hW6 : (w5.setCell ⟨wr.heap.size, 0, none⟩ (.int .i64 (T : Int))).setCell ⟨wr.heap.size, 1, none⟩ (.slice av L cv) = W6
               generalize hc2 : wr.heap.size = c2
               rw [hc2] at hW6 kk5
               have g6 : w5.grownBy W6 (some c2) := by rw [← hW6]; exact only_set (p := ⟨c2, 1, none⟩) (only_set (p := ⟨c2, 0, none⟩) (World.grownBy.refl w5 (some c2)) (.inl rfl) _) (.inl rfl) _
               have q1 : c2 + 1 ≤ b2 := by have := qb2; simp [World.drew] at this; omega
               have q2 : c2 + 1 ≤ g2 := by have := qg2; simp [World.drew] at this; omega
               have q4 := SS.out.lt
               have q5 := BW.out.size
               have q7 := RR.out.lt
               have HN := Lib.hid (show b2 ≠ c2 ∧ g2 ≠ c2 ∧ b ≠ c2 ∧ g ≠ c2 ∧ c ≠ c2 ∧ b ≠ g2 ∧ g ≠ g2 ∧ c ≠ g2 ∧ w.heap.size ≤ g2 ∧ w.heap.size ≤ c2 by omega)
               have N2 := Lib.hid (show Blk W6 c2 28 (rs T (.slice av L cv)) by rw [← hW6]; exact (kk5.set 0 _).set 1 _)
               have F2 := Lib.hid (s5.grown g6 (fun e => by have := Option.some.inj e; have := HN.out; omega) (fun e => by have := Option.some.inj e; have := HN.out; omega))
               have OS := Lib.hid ((SS.out.below H5.out).grown g6 (fun e => by have := Option.some.inj e; have := HN.out; omega) (fun e => by have := Option.some.inj e; have := HN.out; omega))
               have OR := Lib.hid (Blk.grown (RR.out.below H5.out RR.out.lt) g6 (fun e => by have := Option.some.inj e; have := HN.out; omega))
               have OV := Lib.hid ((VV.out.below H5.out).besides g6 kk5 (rs_no32 _ _ _ _))
               have OE := Lib.hid (below_then (BW.out.on H5.out) g6 (by have := HN.out; omega))
               clear hW6 hc2 g6 q1 q2 q4 q5 q7 s5 H5 x0 x1 y0 y1 z0 z1 kk5 hcl5 qb2 qg2)
          have QG2 := Lib.hid (show w.heap.size ≤ g2 by have := HN.out; omega)
          have QC2 := Lib.hid (show w.heap.size ≤ c2 by have := HN.out; omega)
          clear r0 r1 hcl HFK W1 W2 SS RR VV BW
          go_wp2_with fail
          go_loopw [12, 13] (fun ok x wr => ∃ (i : Nat) (u' : Nat → Bool) (v' : Value), i ≤ l2.length ∧ ok = .bool true ∧ x = .int .i64 (i : Int) ∧ Sets wr b2 g2 T u' ∧ Blk wr c2 28 (rs T v') ∧ Wd wr v' (AL.lst T u') ∧ Sets wr b g T u ∧ Blk wr c 28 (rs T (.slice av L cv)) ∧ Wd wr (.slice av L cv) (AL.lst T u) ∧ Below w.heap.size w wr) (fun _ x _ => l2.length - (intOf x).toNat)
          case atStart => exact ⟨0, _, _, Nat.zero_le _, rfl, rfl, F2.out, N2.out, OV.out, OS.out, OR.out, OV.out, OE.out⟩
          case round =>
            obtain ⟨i, u', v', hi, hok, hx, ss, rr, vv, oos, oor, oov, bw⟩ := hrel
            subst hok; subst hx
            obtain ⟨av', cv', hsh, _⟩ := vv.shape
            obtain ⟨L', hL'⟩ : ∃ L', L' = (AL.lst T u').length := ⟨_, rfl⟩
            rw [← hL'] at hsh
            subst hsh
            clear hL' F2 N2 OS OR OV OE
            have OS := Lib.hid oos
            have OR := Lib.hid oor
            have OV := Lib.hid oov
            clear oos oor oov
            have SS := Lib.hid ss
            have RR := Lib.hid rr
            have VV := Lib.hid vv
            have BW := Lib.hid bw
            by_cases hlt : i < l2.length
            · obtain ⟨x, hx⟩ : ∃ x, l2[i]? = some x := ⟨l2[i], List.getElem?_eq_getElem hlt⟩
              obtain ⟨q, off, rfl, hk, hn, k0, k1⟩ := (HA2.out.below BW.out).at_ i x hx
              have hlI : (i : Int) < (l2.length : Int) := by omega
              have r0 : wr.cell? ⟨c2, 0, none⟩ = some (.int .i64 (T : Int)) := rr.cell 0 _ rfl
              have r1 : wr.cell? ⟨c2, 1, none⟩ = some (.slice av' L' cv') := rr.cell 1 _ rfl
              have HD := Lib.hid (fun W (hW : Below wr.heap.size wr W) => show Calls Tryd.prog 13 #[.pointer (some ⟨b2, 0, none⟩), .agg #[.int .i64 (T : Int), .slice av' L' cv'], .agg #[.int .u8 (x.kind : Int), .int .u32 (x.n : Int)]] W fun e w' => ∃ u' v', e = .returned (.tuple #[.agg #[.int .i64 (T : Int), v'], .bool true]) ∧ Sets w' b2 g2 T u' ∧ Wd w' v' (AL.lst T u') ∧ W.grownBy w' (some g2) from ado_any b2 g2 T u' _ x.kind x.n W hn (SS.out.below hW) (VV.out.below hW) (HT.out.below (BW.out.on hW)))
              clear hx rr ss vv bw
              go_upto_region 14 with (fail)
              go_region_with ((go_at_call 13; refine (HD.out _ ((Below.refl _ _).drew)).mono ?_; rintro e5 w5 ⟨u5, v5, rfl, s5, hv5, g5⟩; obtain ⟨L5, hL5⟩ : ∃ y, y = (AL.lst T u5).length := ⟨_, rfl⟩; obtain ⟨a5, k5, hsh5, _⟩ := hv5.shape; rw [← hL5] at hsh5; subst hsh5; have R5 := Lib.hid (Blk.grown (RR.out.below ((Below.refl _ _).drew) RR.out.lt) g5 (fun e => by have := Option.some.inj e; have := HN.out; omega)); have x0 := R5.out.cell 0 _ rfl; have x1 := R5.out.cell 1 _ rfl; have y0 := R5.out.free 0; have y1 := R5.out.free 1; have S5 := Lib.hid s5; have V5 := Lib.hid hv5; have G5 := Lib.hid g5; clear s5 hv5 g5 hL5))
              all_goals
                try simp only [Act.put, List.getElem_toArray, List.getElem_cons_succ, List.getElem_cons_zero, List.setIfInBounds_toArray, List.set_cons_succ, List.set_cons_zero]
                generalize hW6 : ((w5.setCell ⟨c2, 0, none⟩ (.int .i64 (T : Int))).setCell ⟨c2, 1, none⟩ (.slice a5 L5 k5)) = W6
                have g6 : w5.grownBy W6 (some c2) := by rw [← hW6]; exact only_set (p := ⟨c2, 1, none⟩) (only_set (p := ⟨c2, 0, none⟩) (World.grownBy.refl w5 (some c2)) (.inl rfl) _) (.inl rfl) _
                have R6 := Lib.hid (show Blk W6 c2 28 (rs T (.slice a5 L5 k5)) by rw [← hW6]; exact (R5.out.set 0 _).set 1 _)
                have S6 := Lib.hid (S5.out.grown g6 (fun e => by have := Option.some.inj e; have := HN.out; omega) (fun e => by have := Option.some.inj e; have := HN.out; omega))
                have V6 := Lib.hid (V5.out.besides g6 R5.out (rs_no32 _ _ _ _))
                have E6 := Lib.hid (below_then (below_then (BW.out.on ((Below.refl _ _).drew)) G5.out QG2.out) g6 QC2.out)
                have OS6 := Lib.hid (((OS.out.below ((Below.refl _ _).drew)).grown G5.out (fun e => by have := Option.some.inj e; have := HN.out; omega) (fun e => by have := Option.some.inj e; have := HN.out; omega)).grown g6 (fun e => by have := Option.some.inj e; have := HN.out; omega) (fun e => by have := Option.some.inj e; have := HN.out; omega))
                have OR6 := Lib.hid (Blk.grown (Blk.grown (OR.out.below ((Below.refl _ _).drew) OR.out.lt) G5.out (fun e => by have := Option.some.inj e; have := HN.out; omega)) g6 (fun e => by have := Option.some.inj e; have := HN.out; omega))
                have OV6 := Lib.hid (((OV.out.below ((Below.refl _ _).drew)).past (SS.out.below ((Below.refl _ _).drew)) G5.out).besides g6 R5.out (rs_no32 _ _ _ _))
                clear hW6 g6 R5 S5 V5 G5 HD k0 k1 r0 r1 x0 x1 y0 y1 SS RR VV BW
                go_wp2_with fail
                exact ⟨⟨i + 1, u5, _, by omega, rfl, by go_num, S6.out, R6.out, V6.out, OS6.out, OR6.out, OV6.out, E6.out⟩, by simp [intOf]; omega⟩
            · obtain rfl : i = l2.length := by omega
              have hlI : ¬ (l2.length : Int) < (l2.length : Int) := by omega
              clear ss rr vv bw
              have HS1 := Lib.hid (show Calls Tryd.prog 12 #[.pointer (some ⟨b2, 0, none⟩), .agg (rs T (.slice av' L' cv')).toArray, .int .u32 0] wr fun e w' => e = .returned (.bool true) ∧ Below wr.heap.size wr w' from asame_any b2 g2 T 0 u' _ wr (by omega) SS.out VV.out (HT.out.below BW.out))
              have HS2 := Lib.hid (fun W (hW : Below wr.heap.size wr W) => show Calls Tryd.prog 12 #[.pointer (some ⟨b, 0, none⟩), .agg (rs T (.slice av L cv)).toArray, .int .u32 0] W fun e w' => e = .returned (.bool true) ∧ Below W.heap.size W w' from asame_any b g T 0 u _ W (by omega) (OS.out.below hW) (OV.out.below hW) (HT.out.below (BW.out.on hW)))
              go_wp2_with (first
                | ((with_reducible show wpList _ _ _ (Oper.mk _ (.load _ (.tmp 11)) _ _ _ _ :: _) _ _); refine wpList_load_row rfl 28 (.tmp 11) rfl c2 rfl 28 _ (0, 0) _ RR.out Tryd.underlying28 rfl infoSet ?_)
                | ((with_reducible show wpList _ _ _ (Oper.mk _ (.load _ (.tmp 8)) _ _ _ _ :: _) _ _); refine wpList_load_wanted rfl 28 (.tmp 8) rfl c 0 rfl (rs T (.slice av L cv)) _ (OR.out.below B4.out OR.out.lt).range Tryd.underlying28 rfl infoSet ?_)
                | (go_at_call 12; (with_reducible refine HS1.out.mono ?_); rintro e4 w4 ⟨rfl, b4⟩; have B4 := Lib.hid b4; clear b4)
                | (go_at_call 12; (with_reducible refine (HS2.out w4 B4.out).mono ?_); rintro e5 w5 ⟨rfl, b5⟩; have B5 := Lib.hid (B4.out.on b5); clear b5)
                | (go_at_call 9; refine (aawake_any w5 (HT.out.below (BW.out.on B5.out))).mono ?_; rintro e1 w9 ⟨rfl, hb⟩; have B9 := Lib.hid ((BW.out.on B5.out).on hb); clear hb))
              go_ret
              exact ⟨rfl, B9.out⟩
set_option maxRecDepth 100000 in
theorem reads (os : Os) {H : Type} (enc : TypeId × Value → H) : ∃ places, DataW.whole enc Tryd.prog ((World.doorLaid Tryd.prog 400 os).forCall (fun _ _ => 0) ⟨#[], #[.int .u16 0, .slice none 0 0, .slice none 0 0], []⟩).memory Tryd.f4.params.toList Rows.allocForksSpec.vars false (#[.int .u16 0, .slice none 0 0, .slice none 0 0] : Array Value).toList 8 = some ([.lit (.int .u16 0), .nil, .nil], [], places) :=
  ⟨[], by kernel_rfl⟩
set_option linter.unusedVariables false in
set_option maxHeartbeats 1000000 in
set_option maxRecDepth 100000 in
theorem lifted (os : Os) (started : os.Started) (H : Type) (enc : TypeId × Value → H) (F : Stop.Interp) :
    ReturnsInHanded {} Tryd.checked os 4 .any ((OpenSpec.ofChange Rows.allocForksSpec).preRow enc Tryd.prog Tryd.f4 Rows.allocForksRow.domain false laidD) (((OpenSpec.ofChange Rows.allocForksSpec).at F).post enc Tryd.prog Tryd.f4 false true false false) := by
  obtain ⟨places, hx⟩ := reads os enc
  refine returnsInHanded_of_row (C := Tryd.checked) (s := OpenSpec.ofChange Rows.allocForksSpec) own started (by kernel_rfl) Tryd.func4
    (witness_row_atRef (enc := enc) (C := Tryd.checked) false (World.doorLaid Tryd.prog 400 os) #[.int .u16 0, .slice none 0 0, .slice none 0 0] rfl (by kernel_rfl) (by kernel_rfl) (by kernel_rfl)
      (OpenSpec.preRow_of_cond 8 hx (by kernel_rfl) (fun k hk => by cases hk) (by kernel_rfl) (doorD_met os _))) ?_
  intro W base args ds gs before hval0 hW _ hcond hsz0 hL _ _
  have hsz : (DataW.weightsEach Tryd.prog (Tryd.f4.params.toList ++ Rows.allocForksSpec.plain.varTypes Tryd.prog) (ds ++ gs)).all (· ≤ reachBytes) = true := hsz0
  clear hsz0
  have hval : ∀ (j : Nat) t v, Tryd.f4.params[j]? = some t → args[j]? = some v → Value.okWide Tryd.prog W .any base t v := hval0
  have hW' := hW
  obtain ⟨p, q, hA0, hV, rfl, _, _⟩ := hW
  have hA : DataW.TrodAll enc Tryd.prog W 0 (fun _ => true) true Tryd.f4.params.toList args.toList ds p := hA0
  rw [Tryd.params4] at hA hval hsz
  obtain ⟨v0, vs0, d0, ds0, p0, q0, hargs, rfl, rfl, g0, r0⟩ := trodAll_cons hA
  obtain ⟨v1, vs1, d1, ds1, p1, q1, rfl, rfl, rfl, g1, r1⟩ := trodAll_cons r0
  obtain ⟨v2, vs2, d2, ds2, p2, q2, rfl, rfl, rfl, g2, r2⟩ := trodAll_cons r1
  obtain ⟨rfl, rfl, rfl⟩ := trodAll_nil r2
  obtain rfl : args = #[v0, v1, v2] := by cases args; simp_all
  obtain ⟨rfl, rfl⟩ := trodVars_none hV
  obtain ⟨a0, rfl, rfl, rfl, w0⟩ := open_int Tryd.underlying37 (hval 0 37 v0 rfl rfl) g0
  obtain ⟨l1, h1⟩ := open_actsa (hval 1 22 v1 rfl rfl) g1 (fun n hn => by simpa using List.all_eq_true.1 hsz n (DataW.weights_mem_each (j := 1) (t := 22) rfl rfl n hn))
  obtain ⟨l2, h2⟩ := open_actsa (hval 2 22 v2 rfl rfl) g2 (fun n hn => by simpa using List.all_eq_true.1 hsz n (DataW.weights_mem_each (j := 2) (t := 22) rfl rfl n hn))
  clear hA0 hval0
  have hlt := hW'.lt
  refine (walk W (tabD_of_laid hL) a0 w0 v1 l1 h1 v2 l2 h2).mono fun e W' ⟨he, hb⟩ => ?_
  subst he
  have hargs : DataW.TrodAll enc Tryd.prog W' 0 (fun b => decide (b < W.heap.size)) true _ _ _ _ := (trodAll_cons_mk (shut_int Tryd.underlying37 w0) (trodAll_cons_mk (Below.trod laidOut (by kernel_rfl) (of_decide_eq_true (by kernel_rfl)) g1 hb (fun x hx => hlt x (by simp [hx]))) (trodAll_cons_mk (Below.trod laidOut (by kernel_rfl) (of_decide_eq_true (by kernel_rfl)) g2 hb (fun x hx => hlt x (by simp [hx]))) trodAll_mk0)))
  simp only [List.append_nil] at hW' hargs
  exact ⟨_, rfl, post_law hW' (trodAll_cons_mk (shut_bool Tryd.underlying4 _) trodAll_mk0) hargs rfl hb⟩
theorem over : Rows.allocForksRow.holds Tryd.pinned (OpenSpec.ofChange Rows.allocForksSpec) :=
  OpenClaim.holds_of_cond 4 Tryd.f4 rfl rfl rfl rfl rfl rfl rfl ⟨rfl, rfl, rfl, rfl, rfl⟩ rfl rfl rfl rfl rfl (by kernel_rfl) Tryd.func4 (by kernel_rfl)
    (of_decide_eq_true (by kernel_rfl)) (by unfold Func.isWrapper; first | (rw [if_pos (by decide +kernel)]; kernel_rfl) | (rw [if_neg (by decide +kernel)]; exact ⟨rfl, rfl⟩))
    (fun os started H enc _ F => by rw [OpenClaim.pre_eq_preRow]; exact lifted os started H enc F)

/-- The given statement. -/
theorem proved : Rows.AllocForksCardSaid :=
  Claim7.holds_tied_plain_at .later [] _ _ _ _
    over (fun _ h => by cases h) (by kernel_rfl) (fun _ h => by cases h) allocForks_row_tie rfl ⟨rfl, rfl⟩ (by kernel_rfl) rfl
    (fun f fn hf hfn => by
      obtain rfl : f = 4 := Option.some.inj ((show Tryd.prog.funcNamed "reliquary/reliquarylaw17.AllocForks" = some 4 by kernel_rfl).symm.trans hf) |>.symm
      obtain rfl : fn = Tryd.f4 := (Option.some.inj (Tryd.func4.symm.trans hfn)).symm
      exact ⟨by kernel_rfl, fun j t ht => by
        rw [Tryd.params4] at ht
        have hm : t ∈ [37, 22, 22] := by simpa using Array.mem_of_getElem? ht
        have hall : ([37, 22, 22].all fun u => !Tryd.prog.wantsStandIn u) = true := by kernel_rfl
        exact (show Tryd.prog.wantsStandIn t = false by simpa using List.all_eq_true.1 hall t hm)⟩)
    (by kernel_rfl)
end Go.Proofs.YtlckhlcccifbfaaDoor.allocForks

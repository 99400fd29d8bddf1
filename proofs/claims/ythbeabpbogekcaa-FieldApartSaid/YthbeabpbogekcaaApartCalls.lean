/- FieldApart, walked: any two bytes and any two rows of sixteen are told apart by Affine and by Twice, and sums go through Twice. -/
import Derived.Test.YthbeabpbogekcaaTwiceMath
import Derived.Test.YthbeabpbogekcaaEqRow
import Derived.Test.YthbeabpbogekcaaApartInv
import Derived.WalkKit

import Derived.BigQuiet
import Derived.WalkSmall
import Derived.Deep.DeepCutAuto
namespace Go.Proofs.Ythbeabpbogekcaa
open Go.ChangeShapes Go.WideShapes Go.ChangeAt Go.RowKit
open FM
def xlTo (s t : List Nat) : Nat → List Nat
  | 0 => List.replicate 16 0
  | k + 1 => (xlTo s t k).set k (gb s k ^^^ gb t k)
theorem xlTo_len (s t : List Nat) (k : Nat) : (xlTo s t k).length = 16 := by
  induction k with
  | zero => rfl
  | succ k ih => simp [xlTo, ih]
theorem xlTo_bytes (s t : List Nat) (hs : Bytes 16 s) (ht : Bytes 16 t) (k : Nat) (hk : k ≤ 16) : Bytes 16 (xlTo s t k) := by
  induction k with
  | zero => exact bytes_zero 16
  | succ k ih => exact bytes_set (ih (by omega)) k _ (by omega) (lt_of_xor (hs.2 k) (ht.2 k))
theorem size8 : ∀ w, (sizeOf 5).run Try.prog w = .ok 1 w := fun _ => by kernel_rfl
theorem guard16 : Try.prog.eqGuardType Try.prog.depth 29 = false := by kernel_rfl
theorem xlTo_gb (s t : List Nat) (k j : Nat) (hk : k ≤ 16) : gb (xlTo s t k) j = if j < k then gb s j ^^^ gb t j else 0 := by
  induction k with
  | zero =>
    rw [if_neg (by omega)]
    show gb (List.replicate 16 0) j = 0
    unfold gb; rw [List.getD_eq_getElem?_getD, List.getElem?_replicate]; split <;> rfl
  | succ k ih =>
    show gb ((xlTo s t k).set k _) j = _
    rw [gb_set _ _ _ _ (by rw [xlTo_len]; omega), ih (by omega)]
    by_cases h : k = j
    · subst h; rw [if_pos rfl, if_pos (by omega)]
    · rw [if_neg h]
      by_cases h2 : j < k
      · rw [if_pos h2, if_pos (by omega)]
      · rw [if_neg h2, if_neg (by omega)]
theorem xlTo_eq (s t : List Nat) (hs : Bytes 16 s) (ht : Bytes 16 t) : xlTo s t 16 = xl s t 16 :=
  bytes_ext (xlTo_len s t 16) (xl_bytes s t 16 hs ht).1 fun k hk => by rw [xlTo_gb s t 16 k (by omega), if_pos hk, xl_gb s t 16 k hs.1 ht.1]
def F7 (p s t : List Nat) (B : Nat) (u21 u22 u23 u24 u25 u26 u27 u28 u29 u30 u31 x11 x12 x13 x32 x33 x34 x35 x36 x37 : Value) : Act := { tmps := #[.agg (row8 p).toArray, .agg (row8 s).toArray, .agg (row8 t).toArray, .pointer (some ⟨B, 0, none⟩), .pointer (some ⟨B + 1, 0, none⟩), .pointer (some ⟨B + 1 + 1, 0, none⟩), .bool false, .int .u8 (gb p 0 : Nat), .int .u8 (gb p 1 : Nat), .pointer (some ⟨B + 1 + 1 + 1, 0, none⟩), .int .i64 ((16 : Nat) : Int), x11, x12, x13, undef, .pointer (some ⟨B, 0, none⟩), .int .u8 (gb p 0 : Nat), .pointer (some ⟨B, 1, none⟩), .int .u8 (gb p 1 : Nat), .int .i64 ((16 : Nat) : Int), .bool false, u21, u22, u23, u24, u25, u26, u27, u28, u29, u30, u31, x32, x33, x34, x35, x36, x37, undef, undef, undef, undef, undef, undef, undef, undef, undef, undef, undef, undef, undef, undef, undef, undef, undef, undef, undef, undef, undef, undef, undef, undef, undef, undef, undef, undef, undef, undef, undef, undef, undef, undef, undef, undef], defers := [] }
theorem arr12 (l : Array Bool) (h : l.size = 12) : ∃ y0 y1 y2 y3 y4 y5 y6 y7 y8 y9 y10 y11, l = #[y0, y1, y2, y3, y4, y5, y6, y7, y8, y9, y10, y11] := by
  obtain ⟨l⟩ := l
  match l, h with
  | [y0, y1, y2, y3, y4, y5, y6, y7, y8, y9, y10, y11], _ => exact ⟨y0, y1, y2, y3, y4, y5, y6, y7, y8, y9, y10, y11, rfl⟩
set_option maxRecDepth 100000 in
set_option maxHeartbeats 1000000 in
theorem apart_any (p s t : List Nat) (hp : Bytes 2 p) (hs : Bytes 16 s) (ht : Bytes 16 t) (w : World) :
    Calls Try.prog 11 #[.agg (row8 p).toArray, .agg (row8 s).toArray, .agg (row8 t).toArray] w fun e w' => e = .returned (.bool true) ∧ Below w.heap.size w w' := by
  have HP := Lib.hid hp
  have HS := Lib.hid hs
  have HT := Lib.hid ht
  have p0 := row8_get p 0 (by rw [hp.1]; omega)
  have p1 := row8_get p 1 (by rw [hp.1]; omega)
  clear hp hs ht
  go_enter Try.func11, Try.ntmps11
  go_wp2_with fail
  go_region
  clear p0 p1
  go_wp2_with fail
  have c1 : Blk ((((w.alloc (.cells (row8 p).toArray 36)).alloc (.cells (row8 s).toArray 29)).alloc (.cells (row8 t).toArray 29)).alloc (.cells (row8 (xlTo s t 0)).toArray 29)).drew (w.heap.size + 1) 29 (row8 s) := (((Blk.new _ _ _ _ (by simp)).alloc _).alloc _).drew
  have c2 : Blk ((((w.alloc (.cells (row8 p).toArray 36)).alloc (.cells (row8 s).toArray 29)).alloc (.cells (row8 t).toArray 29)).alloc (.cells (row8 (xlTo s t 0)).toArray 29)).drew (w.heap.size + 1 + 1) 29 (row8 t) := ((Blk.new _ _ _ _ (by simp)).alloc _).drew
  have c3 : Blk ((((w.alloc (.cells (row8 p).toArray 36)).alloc (.cells (row8 s).toArray 29)).alloc (.cells (row8 t).toArray 29)).alloc (.cells (row8 (xlTo s t 0)).toArray 29)).drew (w.heap.size + 1 + 1 + 1) 29 (row8 (xlTo s t 0)) := (Blk.new _ _ _ _ (by simp)).drew
  have cb : Below w.heap.size w ((((w.alloc (.cells (row8 p).toArray 36)).alloc (.cells (row8 s).toArray 29)).alloc (.cells (row8 t).toArray 29)).alloc (.cells (row8 (xlTo s t 0)).toArray 29)).drew := (((((Below.refl _ _).alloc (Nat.le_refl _) _).alloc (by simp) _).alloc (by simp; omega) _).alloc (by simp; omega) _).drew
  go_loopw [10] (fun i wr => ∃ k : Nat, k ≤ 16 ∧ i = .int .i64 k ∧ Blk wr (w.heap.size + 1) 29 (row8 s) ∧ Blk wr (w.heap.size + 1 + 1) 29 (row8 t) ∧ Blk wr (w.heap.size + 1 + 1 + 1) 29 (row8 (xlTo s t k)) ∧ Below w.heap.size w wr) (fun i _ => 16 - (intOf i).toNat)
  case atStart => exact ⟨0, Nat.zero_le _, rfl, c1, c2, c3, cb⟩
  case round =>
    clear c1 c2 c3 cb
    obtain ⟨k, hk, rfl, c1, c2, c3, cb⟩ := hrel
    by_cases hlt : k < 16
    · have h1 := c1.cell k _ (row8_val s k (by rw [HS.out.1]; exact hlt))
      have h2 := c2.cell k _ (row8_val t k (by rw [HT.out.1]; exact hlt))
      have h3 := c3.cell k _ (row8_val _ k (by rw [xlTo_len]; exact hlt))
      have h4 := c3.free k
      have hx := u8_xor_nat (gb s k) (gb t k) (HS.out.2 k) (HT.out.2 k)
      have C1 := Lib.hid c1
      have C2 := Lib.hid c2
      have C3 := Lib.hid c3
      have CB := Lib.hid cb
      clear c1 c2 c3 cb
      go_upto_region 6 with (fail)
      go_region
      go_wp2_with fail
      go_roundw
      case rel =>
        refine ⟨k + 1, by omega, by go_num, (C1.out.other _ _ (by simp <;> omega)).drew, (C2.out.other _ _ (by simp <;> omega)).drew, ?_, (CB.out.setCell (by simp; omega) _).drew⟩
        have := (C3.out.set k (.int .u8 ((gb s k ^^^ gb t k : Nat) : Int))).drew
        rw [row8_set] at this
        exact this
      case measure => simp [intOf]; omega
    · obtain rfl : 16 = k := by omega
      have C1 := Lib.hid c1
      have C2 := Lib.hid c2
      have C3 := Lib.hid c3
      have CB := Lib.hid cb
      clear c1 c2 c3 cb
      go_upto_region 7 with (fail)
      go_cut [11, 12, 13] (fun x y z wx => ∃ b1 b2 b3 : Nat, x = .pointer (some ⟨b1, 0, none⟩) ∧ y = .pointer (some ⟨b2, 0, none⟩) ∧ z = .pointer (some ⟨b3, 0, none⟩) ∧ Hid (Blk wx b1 29 (row8 (tw s))) ∧ Hid (Blk wx b2 29 (row8 (tw t))) ∧ Hid (Blk wx b3 29 (row8 (tw (xlTo s t 16)))) ∧ Hid (Blk wx (w.heap.size + 1) 29 (row8 s)) ∧ Hid (Blk wx (w.heap.size + 1 + 1) 29 (row8 t)) ∧ Hid (Below w.heap.size w wx))
      case first =>
        have HU : Hid (Bytes 16 (xlTo s t 16)) := Lib.hid (xlTo_bytes s t HS.out HT.out 16 (by omega))
        refine wp_region_inv (by kernel_rfl) (fun l a w' => ∃ x11 x12 x13 x32 x33 x34 x35 x36 x37 : Value, ∃ b1 b2 b3 : Nat, a = F7 p s t w.heap.size u21 u22 u23 u24 u25 u26 u27 u28 u29 u30 u31 x11 x12 x13 x32 x33 x34 x35 x36 x37 ∧ Inv7 l wr w' s t (xlTo s t 16) x11 x12 x13 x32 x33 x34 x35 x36 x37 b1 b2 b3) ?_ ?_
        · exact ⟨undef, undef, undef, undef, undef, undef, undef, undef, undef, 0, 0, 0, rfl, ⟨rfl, rfl, rfl, (Below.refl _ _).drew, (fun h => by cases h), (fun h => by cases h), (fun h => by cases h), (fun h => by cases h), (fun h => by cases h), (fun h => by cases h), (fun h => by cases h), (fun h => by cases h), (fun h => by cases h), (fun h => by cases h), (fun h => by cases h), (fun h => by cases h)⟩⟩
        intro l a w' hs hc hJ
        obtain ⟨x11, x12, x13, x32, x33, x34, x35, x36, x37, b1, b2, b3, rfl, I⟩ := hJ
        by_cases hE : l.getD 5 false = true ∧ l.getD 6 false = true ∧ l.getD 7 false = true ∧ l.getD 8 false = true
        · left
          obtain ⟨e5, e6, e7, e8⟩ := hE
          have e9 := I.late9
          have e10 := I.late10
          have e11 := I.late11
          obtain ⟨y0, y1, y2, y3, y4, y5, y6, y7, y8, y9, y10, y11, rfl⟩ := arr12 l hs
          obtain rfl : y5 = true := e5
          obtain rfl : y6 = true := e6
          obtain rfl : y7 = true := e7
          obtain rfl : y8 = true := e8
          obtain rfl : y9 = false := e9
          obtain rfl : y10 = false := e10
          obtain rfl : y11 = false := e11
          obtain rfl : y4 = true := hc 5 _ rfl rfl { on := 4, ground := .data } (by simp) rfl
          obtain rfl : y3 = true := hc 5 _ rfl rfl { on := 3, ground := .chain } (by simp) rfl
          obtain rfl : y2 = true := hc 3 _ rfl rfl { on := 2, ground := .data } (by simp) rfl
          obtain rfl : y1 = true := hc 3 _ rfl rfl { on := 1, ground := .chain } (by simp) rfl
          obtain rfl : y0 = true := hc 1 _ rfl rfl { on := 0, ground := .data } (by simp) rfl
          obtain rfl := I.v1 rfl
          obtain rfl := I.v3 rfl
          obtain rfl := I.v5 rfl
          obtain ⟨rfl, g6, q6⟩ := I.a6 rfl
          obtain ⟨rfl, g7, q7⟩ := I.a7 rfl
          obtain ⟨rfl, g8, q8⟩ := I.a8 rfl
          have n67 := I.d67 rfl rfl
          have n68 := I.d68 rfl rfl
          have n78 := I.d78 rfl rfl
          have ib := I.below
          clear I hc hs
          have hr : rem #[true, true, true, true, true, true, true, true, true, false, false, false] = 3 := by decide
          rw [hr]
          have z16 : (row8 (twTo [] 0)).length = 16 := rfl
          have k1 : (row8 (tw s)).length = 16 := by rw [row8_len]; exact (tw_bytes s HS.out.2).1
          have k2 : (row8 (tw t)).length = 16 := by rw [row8_len]; exact (tw_bytes t HT.out.2).1
          have k3 : (row8 (tw (xlTo s t 16))).length = 16 := by rw [row8_len]; exact (tw_bytes _ HU.out.2).1
          refine wpAny_one (i := 9) (by kernel_rfl) rfl rfl ?_
          refine wp_store_mid 29 (.tmp 11) (.tmp 33) rfl b1 0 (row8 (tw s)).toArray rfl rfl (q6.there _ (by rw [z16, List.size_toArray, k1])) (by rw [List.size_toArray, k1]; exact info16) (row8_one _) ?_
          have r1 := q6.whole (row8 (tw s)) (by rw [z16, k1])
          have r2 := Blk.others b1 (Ne.symm n67) (row8 (tw s)) 0 w' q7
          have r3 := Blk.others b1 (Ne.symm n68) (row8 (tw s)) 0 w' q8
          have rb := below_setCells b1 g6 (row8 (tw s)) 0 w' ib
          clear q6 q7 q8 ib
          generalize w'.setCells b1 0 (row8 (tw s)).toArray.toList = w1 at *
          refine wpAny_one (i := 10) (by kernel_rfl) rfl rfl ?_
          refine wp_store_mid 29 (.tmp 12) (.tmp 35) rfl b2 0 (row8 (tw t)).toArray rfl rfl (r2.there _ (by rw [z16, List.size_toArray, k2])) (by rw [List.size_toArray, k2]; exact info16) (row8_one _) ?_
          have s2 := r2.whole (row8 (tw t)) (by rw [z16, k2])
          have s1 := Blk.others b2 n67 (row8 (tw t)) 0 w1 r1
          have s3 := Blk.others b2 (Ne.symm n78) (row8 (tw t)) 0 w1 r3
          have sb := below_setCells b2 g7 (row8 (tw t)) 0 w1 rb
          clear r1 r2 r3 rb
          generalize w1.setCells b2 0 (row8 (tw t)).toArray.toList = w2 at *
          refine wpAny_one (i := 11) (by kernel_rfl) rfl rfl ?_
          refine wp_store_mid 29 (.tmp 13) (.tmp 37) rfl b3 0 (row8 (tw (xlTo s t 16))).toArray rfl rfl (s3.there _ (by rw [z16, List.size_toArray, k3])) (by rw [List.size_toArray, k3]; exact info16) (row8_one _) ?_
          have t3 := Lib.hid (s3.whole (row8 (tw (xlTo s t 16))) (by rw [z16, k3]))
          have t1 := Lib.hid (Blk.others b3 n68 (row8 (tw (xlTo s t 16))) 0 w2 s1)
          have t2 := Lib.hid (Blk.others b3 n78 (row8 (tw (xlTo s t 16))) 0 w2 s2)
          have tb := Lib.hid (below_setCells b3 g8 (row8 (tw (xlTo s t 16))) 0 w2 sb)
          clear s1 s2 s3 sb
          generalize w2.setCells b3 0 (row8 (tw (xlTo s t 16))).toArray.toList = w3 at *
          refine ⟨by kernel_rfl, ?_⟩
          have D1 := Lib.hid (C1.out.below tb.out C1.out.lt)
          have D2 := Lib.hid (C2.out.below tb.out C2.out.lt)
          have DB := Lib.hid (CB.out.trans (tb.out.mono CB.out.size))
          clear g6 g7 g8 n67 n68 n78 hr z16 k1 k2 k3
          unfold F7
          dsimp only [Act.put]
          go_wp2_with fail
          go_meet
          exact ⟨b1, b2, b3, rfl, rfl, rfl, t1, t2, t3, D1, D2, DB⟩
        · right
          refine ⟨?_, ?_⟩
          · have l9 := I.late9
            have l10 := I.late10
            have l11 := I.late11
            obtain ⟨y0, y1, y2, y3, y4, y5, y6, y7, y8, y9, y10, y11, rfl⟩ := arr12 l hs
            obtain rfl : y9 = false := l9
            obtain rfl : y10 = false := l10
            obtain rfl : y11 = false := l11
            clear hE I hc hs
            revert y0 y1 y2 y3 y4 y5 y6 y7 y8
            decide +kernel
          · intro i hi
            obtain ⟨hu, o, ho, hall⟩ := mem_ready.1 hi
            have hi12 : i < 12 := by
              rcases Nat.lt_or_ge i 12 with k | k
              · exact k
              · rw [Array.getElem?_eq_none (by exact k)] at ho; cases ho
            clear hi hu
            have parts : i = 0 ∨ i = 1 ∨ i = 2 ∨ i = 3 ∨ i = 4 ∨ i = 5 ∨ i = 6 ∨ i = 7 ∨ i = 8 ∨ i = 9 ∨ i = 10 ∨ i = 11 := by omega
            rcases parts with rfl | rfl | rfl | rfl | rfl | rfl | rfl | rfl | rfl | rfl | rfl | rfl <;> (obtain rfl := Option.some.inj ho)
            · refine wpOp_plain rfl rfl ?_
              refine wp_load_mid 29 (.tmp 4) rfl (w.heap.size + 1) 0 rfl (row8 s) _ ((C1.out.below I.below C1.out.lt).range) Try.underlying29 rfl (by rw [row8_len, HS.out.1]; exact info16) ?_
              exact ⟨_, _, _, _, _, _, _, _, _, _, _, _, rfl, I.s0 hs⟩
            · have d0 : l.getD 0 false = true := hall { on := 0, ground := .data } (by simp) rfl
              refine wpOp_plain rfl rfl ?_
              refine call_step 32 rfl (s) (HS.out) (I.v0 d0) ?_
              intro w'' hb
              exact ⟨_, _, _, _, _, _, _, _, _, _, _, _, rfl, I.s1 hs hb⟩
            · refine wpOp_plain rfl rfl ?_
              refine wp_load_mid 29 (.tmp 5) rfl (w.heap.size + 1 + 1) 0 rfl (row8 t) _ ((C2.out.below I.below C2.out.lt).range) Try.underlying29 rfl (by rw [row8_len, HT.out.1]; exact info16) ?_
              exact ⟨_, _, _, _, _, _, _, _, _, _, _, _, rfl, I.s2 hs⟩
            · have d0 : l.getD 2 false = true := hall { on := 2, ground := .data } (by simp) rfl
              refine wpOp_plain rfl rfl ?_
              refine call_step 34 rfl (t) (HT.out) (I.v2 d0) ?_
              intro w'' hb
              exact ⟨_, _, _, _, _, _, _, _, _, _, _, _, rfl, I.s3 hs hb⟩
            · refine wpOp_plain rfl rfl ?_
              refine wp_load_mid 29 (.tmp 9) rfl (w.heap.size + 1 + 1 + 1) 0 rfl (row8 (xlTo s t 16)) _ ((C3.out.below I.below C3.out.lt).range) Try.underlying29 rfl (by rw [row8_len]; exact info16) ?_
              exact ⟨_, _, _, _, _, _, _, _, _, _, _, _, rfl, I.s4 hs⟩
            · have d0 : l.getD 4 false = true := hall { on := 4, ground := .data } (by simp) rfl
              refine wpOp_plain rfl rfl ?_
              refine call_step 36 rfl (xlTo s t 16) (HU.out) (I.v4 d0) ?_
              intro w'' hb
              exact ⟨_, _, _, _, _, _, _, _, _, _, _, _, rfl, I.s5 hs hb⟩
            · refine wpOp_plain rfl rfl ?_
              refine alloc_step rfl ?_
              exact ⟨_, _, _, _, _, _, _, _, _, _, _, _, rfl, I.s6 hs⟩
            · refine wpOp_plain rfl rfl ?_
              refine alloc_step rfl ?_
              exact ⟨_, _, _, _, _, _, _, _, _, _, _, _, rfl, I.s7 hs⟩
            · refine wpOp_plain rfl rfl ?_
              refine alloc_step rfl ?_
              exact ⟨_, _, _, _, _, _, _, _, _, _, _, _, rfl, I.s8 hs⟩
            · exact absurd ⟨hall { on := 5, ground := .chain } (by simp) rfl, hall { on := 6, ground := .data } (by simp) rfl, hall { on := 7, ground := .phase } (by simp) rfl, hall { on := 8, ground := .phase } (by simp) rfl⟩ hE
            · have := hall { on := 9, ground := .chain } (by simp) rfl
              rw [I.late9] at this; cases this
            · have := hall { on := 10, ground := .chain } (by simp) rfl
              rw [I.late10] at this; cases this
      case rest =>
        obtain ⟨b1, b2, b3, rfl, rfl, rfl, D1, D2, D3, E1, E2, DB⟩ := hcut
        go_wp2_with fail
        have hx : ∀ k, k < 16 → bits .xor .u8 ((gb (tw s) k : Nat) : Int) ((gb (tw t) k : Nat) : Int) = ((gb (tw (xlTo s t 16)) k : Nat) : Int) := fun k hk => by
          rw [u8_xor_nat _ _ ((tw_bytes s HS.out.2).2 k) ((tw_bytes t HT.out.2).2 k), xlTo_eq s t HS.out HT.out, tw_xor s t HS.out HT.out k hk]
        have HX := Lib.hid hx
        clear hx
        go_loopw [14] (fun i wr => ∃ k : Nat, k ≤ 16 ∧ i = .int .i64 k ∧ Hid (Blk wr b1 29 (row8 (tw s))) ∧ Hid (Blk wr b2 29 (row8 (tw t))) ∧ Hid (Blk wr b3 29 (row8 (tw (xlTo s t 16)))) ∧ Hid (Blk wr (w.heap.size + 1) 29 (row8 s)) ∧ Hid (Blk wr (w.heap.size + 1 + 1) 29 (row8 t)) ∧ Hid (Below w.heap.size w wr)) (fun i _ => 16 - (intOf i).toNat)
        case atStart => exact ⟨0, Nat.zero_le _, rfl, D1, D2, D3, E1, E2, DB⟩
        case round =>
          clear D1 D2 D3 E1 E2 DB C1 C2 C3 CB
          obtain ⟨k, hk, rfl, F1, F2, F3, G1, G2, FB⟩ := hrel
          by_cases hlt : k < 16
          · have h1 := F1.out.cell k _ (row8_val _ k (by rw [(tw_bytes s HS.out.2).1]; exact hlt))
            have h2 := F2.out.cell k _ (row8_val _ k (by rw [(tw_bytes t HT.out.2).1]; exact hlt))
            have h3 := F3.out.cell k _ (row8_val _ k (by rw [(tw_bytes _ (xlTo_bytes s t HS.out HT.out 16 (by omega)).2).1]; exact hlt))
            have hx := HX.out k hlt
            go_upto_region 11 with (fail)
            go_quiet (fail)
            go_wp2_with fail
            go_roundw
            case rel => exact ⟨k + 1, by omega, by go_num, F1, F2, F3, G1, G2, Lib.hid (below_drewN FB.out _)⟩
            case measure => simp [intOf]; omega
          · obtain rfl : 16 = k := by omega
            have ha := HP.out.2 0
            have hb := HP.out.2 1
            have HA : Hid ((Try.prog.info? 29).map (·.size) = some (row8 (tw s)).length) := Lib.hid (by rw [row8_len, (tw_bytes s HS.out.2).1]; exact info16)
            have HB : Hid ((Try.prog.info? 29).map (·.size) = some (row8 (tw t)).length) := Lib.hid (by rw [row8_len, (tw_bytes t HT.out.2).1]; exact info16)
            have HSL : Hid ((Try.prog.info? 29).map (·.size) = some (row8 s).length) := Lib.hid (by rw [row8_len, HS.out.1]; exact info16)
            have HTL : Hid ((Try.prog.info? 29).map (·.size) = some (row8 t).length) := Lib.hid (by rw [row8_len, HT.out.1]; exact info16)
            have same : (((aff (gb p 0) : Nat) : Int) == ((aff (gb p 1) : Nat) : Int)) = (((gb p 0 : Nat) : Int) == ((gb p 1 : Nat) : Int)) := by
              by_cases h : gb p 0 = gb p 1
              · rw [h]; simp
              · have : ¬ aff (gb p 0) = aff (gb p 1) := fun e => h (aff_inj _ _ ha hb e)
                rw [show (((aff (gb p 0) : Nat) : Int) == ((aff (gb p 1) : Nat) : Int)) = false from beq_eq_false_iff_ne.2 (fun e => this (by omega)), show (((gb p 0 : Nat) : Int) == ((gb p 1 : Nat) : Int)) = false from beq_eq_false_iff_ne.2 (fun e => h (by omega))]
            rcases (show (((gb p 0 : Nat) : Int) == ((gb p 1 : Nat) : Int)) = true ∨ (((gb p 0 : Nat) : Int) == ((gb p 1 : Nat) : Int)) = false by cases (((gb p 0 : Nat) : Int) == ((gb p 1 : Nat) : Int)) <;> simp) with q | q
            all_goals
              rw [q] at same
              by_cases hst : s = t
              · have EQ1 : Hid (∀ w, (binOp .eql 29 (.agg (row8 (tw s)).toArray) (.agg (row8 (tw t)).toArray)).run Try.prog w = .ok (.bool true) w) := Lib.hid fun w => by
                  rw [run_eql_row 29 5 16 Try.underlying29 Try.underlying5 size8 (tw s) (tw t) (tw_bytes s HS.out.2) (tw_bytes t HT.out.2) w, hst]; simp
                have EQ2 : Hid (∀ w, (binOp .eql 29 (.agg (row8 s).toArray) (.agg (row8 t).toArray)).run Try.prog w = .ok (.bool true) w) := Lib.hid fun w => by
                  rw [run_eql_row 29 5 16 Try.underlying29 Try.underlying5 size8 s t HS.out HT.out w, hst]; simp
                clear hst
                go_upto_region 13 with (fail)
                refine wp_region_later (by kernel_rfl) (by kernel_rfl) ?_
                repeat (first | (refine quiet_row rfl 29 (.tmp 11) rfl (b1) rfl (row8 (tw s)) _ F1.out _ Try.underlying29 rfl HA.out ?_; simp only [Act.put, List.setIfInBounds_toArray, List.set_cons_zero, List.set_cons_succ]) | (refine quiet_row rfl 29 (.tmp 12) rfl (b2) rfl (row8 (tw t)) _ F2.out _ Try.underlying29 rfl HB.out ?_; simp only [Act.put, List.setIfInBounds_toArray, List.set_cons_zero, List.set_cons_succ]) | (refine quiet_row rfl 29 (.tmp 4) rfl (w.heap.size + 1) rfl (row8 s) _ G1.out _ Try.underlying29 rfl HSL.out ?_; simp only [Act.put, List.setIfInBounds_toArray, List.set_cons_zero, List.set_cons_succ]) | (refine quiet_row rfl 29 (.tmp 5) rfl (w.heap.size + 1 + 1) rfl (row8 t) _ G2.out _ Try.underlying29 rfl HTL.out ?_; simp only [Act.put, List.setIfInBounds_toArray, List.set_cons_zero, List.set_cons_succ]) | (refine quiet_eql rfl 29 29 (.tmp 63) (.tmp 64) rfl (row8 (tw s)).toArray (row8 (tw t)).toArray rfl rfl guard16 _ EQ1.out ?_; simp only [Act.put, List.setIfInBounds_toArray, List.set_cons_zero, List.set_cons_succ]) | (refine quiet_eql rfl 29 29 (.tmp 66) (.tmp 67) rfl (row8 s).toArray (row8 t).toArray rfl rfl guard16 _ EQ2.out ?_; simp only [Act.put, List.setIfInBounds_toArray, List.set_cons_zero, List.set_cons_succ]) | go_big_quiet_step (first | (go_at_call 20; exact later_same (affine_any _ (by assumption) _)) | (go_at_call 15; exact later_same (awake_any _))))
                refine wpQuiet_nil ?_
                intro sv
                have BB := Lib.hid (FB.out.trans (sv.below.mono FB.out.size))
                generalize sv.val = w2 at *
                go_wp2_with fail
                go_ret
                exact ⟨rfl, BB.out⟩
              · have EQ1 : Hid (∀ w, (binOp .eql 29 (.agg (row8 (tw s)).toArray) (.agg (row8 (tw t)).toArray)).run Try.prog w = .ok (.bool false) w) := Lib.hid fun w => by
                  rw [run_eql_row 29 5 16 Try.underlying29 Try.underlying5 size8 (tw s) (tw t) (tw_bytes s HS.out.2) (tw_bytes t HT.out.2) w, decide_eq_false (fun e => hst (tw_inj s t HS.out HT.out e))]
                have EQ2 : Hid (∀ w, (binOp .eql 29 (.agg (row8 s).toArray) (.agg (row8 t).toArray)).run Try.prog w = .ok (.bool false) w) := Lib.hid fun w => by
                  rw [run_eql_row 29 5 16 Try.underlying29 Try.underlying5 size8 s t HS.out HT.out w, decide_eq_false hst]
                clear hst
                go_upto_region 13 with (fail)
                refine wp_region_later (by kernel_rfl) (by kernel_rfl) ?_
                repeat (first | (refine quiet_row rfl 29 (.tmp 11) rfl (b1) rfl (row8 (tw s)) _ F1.out _ Try.underlying29 rfl HA.out ?_; simp only [Act.put, List.setIfInBounds_toArray, List.set_cons_zero, List.set_cons_succ]) | (refine quiet_row rfl 29 (.tmp 12) rfl (b2) rfl (row8 (tw t)) _ F2.out _ Try.underlying29 rfl HB.out ?_; simp only [Act.put, List.setIfInBounds_toArray, List.set_cons_zero, List.set_cons_succ]) | (refine quiet_row rfl 29 (.tmp 4) rfl (w.heap.size + 1) rfl (row8 s) _ G1.out _ Try.underlying29 rfl HSL.out ?_; simp only [Act.put, List.setIfInBounds_toArray, List.set_cons_zero, List.set_cons_succ]) | (refine quiet_row rfl 29 (.tmp 5) rfl (w.heap.size + 1 + 1) rfl (row8 t) _ G2.out _ Try.underlying29 rfl HTL.out ?_; simp only [Act.put, List.setIfInBounds_toArray, List.set_cons_zero, List.set_cons_succ]) | (refine quiet_eql rfl 29 29 (.tmp 63) (.tmp 64) rfl (row8 (tw s)).toArray (row8 (tw t)).toArray rfl rfl guard16 _ EQ1.out ?_; simp only [Act.put, List.setIfInBounds_toArray, List.set_cons_zero, List.set_cons_succ]) | (refine quiet_eql rfl 29 29 (.tmp 66) (.tmp 67) rfl (row8 s).toArray (row8 t).toArray rfl rfl guard16 _ EQ2.out ?_; simp only [Act.put, List.setIfInBounds_toArray, List.set_cons_zero, List.set_cons_succ]) | go_big_quiet_step (first | (go_at_call 20; exact later_same (affine_any _ (by assumption) _)) | (go_at_call 15; exact later_same (awake_any _))))
                refine wpQuiet_nil ?_
                intro sv
                have BB := Lib.hid (FB.out.trans (sv.below.mono FB.out.size))
                generalize sv.val = w2 at *
                go_wp2_with fail
                go_ret
                exact ⟨rfl, BB.out⟩
end Go.Proofs.Ythbeabpbogekcaa

/- What the laws over AES share: the known example, ciphers in a region that draws. Own work. -/
import Derived.Test.YtdoifgofmlagbaaDoorAesProg
import Derived.Test.YtdoifgofmlagbaaDoorGridEql
import Derived.Test.YtdoifgofmlagbaaDoorReg
namespace Go.Proofs.YtdoifgofmlagbaaDoor
open Go.ChangeShapes Go.WideShapes Go.ChangeAt Go.RowKit
open AM FM
def Pred.cph {B : Nat} (K : List Nat) : Pred B := ⟨fun v w => ∃ c, v = .pointer (some ⟨c, 0, none⟩) ∧ B ≤ c ∧ Cph w c K, false,
  fun h hb => by obtain ⟨c, e, hB, hc⟩ := h; exact ⟨c, e, hB, hc.below hb⟩,
  fun h hg _ hne => by
    obtain ⟨c, e, hB, hc⟩ := h
    refine ⟨c, e, hB, hc.grown hg fun q => ?_⟩
    rcases hne with q2 | q2
    · cases q2
    · apply q2; rw [e]; exact q⟩
theorem alloc_turn {a w w' : World} {o : Obj} (h : Below a.heap.size a w) (hg : (w.alloc o).grownBy w' (some w.heap.size)) : Below a.heap.size a w' :=
  (h.alloc h.size o).grown hg (by have := h.size; simp; omega) (fun k hk => by have e : w.heap.size = k := Option.some.inj hk; have := h.size; omega)
/-- A block of the region's own. -/
def Pred.blk {B : Nat} (t : TypeId) (vs : List Value) : Pred B := ⟨fun v w => ∃ c, v = .pointer (some ⟨c, 0, none⟩) ∧ B ≤ c ∧ Blk w c t vs, false,
  fun h hb => by obtain ⟨c, e, hB, hc⟩ := h; exact ⟨c, e, hB, hc.below hb hc.lt⟩,
  fun h hg _ hne => by
    obtain ⟨c, e, hB, hc⟩ := h
    refine ⟨c, e, hB, hc.grown hg fun q => ?_⟩
    rcases hne with q2 | q2
    · cases q2
    · apply q2; rw [e]; exact q⟩
theorem doesG_alloc {B : Nat} {ops : List Oper} {Q : Exit → Act → World → Prop} {T : List (Pred B)} {U : Nat → Nat} {i : Nat} {o : Oper} {a : Act} {w : World} (hw : Region.wanted o (yielded ops.toArray a.tmps) = true) (t : TypeId) (D : List Value) (ho : o.op = .alloc t) (hz : ∀ w, (zeroValue t).run Tryd.prog w = .ok (.agg D.toArray) w) (hB : B ≤ w.heap.size) (hT : T.getD i (.val undef) = .blk t D) : DoesG Tryd.prog ops Q T U i o a w := by
  refine doesG_new hw fun K hK => ?_
  have hf : (T.getD i (.val undef)).holds (.pointer (some ⟨w.heap.size, 0, none⟩)) (w.alloc (.cells D.toArray t)) := by
    rw [hT]; exact ⟨_, rfl, hB, Blk.new w t D _ rfl⟩
  unfold Oper.wp execOp
  rw [ho]
  go_simp
  refine hK _ _ hf ((Below.refl _ _).alloc (Nat.le_refl _) _) (fun g hg => ?_)
  have : w.heap.size = g := Option.some.inj hg
  simp; omega
/-- The first n of m numbers, as f tells them; noughts behind them. -/
def fillTo (f : Nat → Nat) (m n : Nat) : List Nat := (List.range m).map fun j => if j < n then f j else 0
theorem fillTo_len (f : Nat → Nat) (m n : Nat) : (fillTo f m n).length = m := by simp [fillTo]
theorem fillTo_get (f : Nat → Nat) (m n k : Nat) (h : k < m) : gb (fillTo f m n) k = if k < n then f k else 0 := by
  unfold fillTo; rw [gb_map, if_pos h]
theorem fillTo_zero (f : Nat → Nat) (m : Nat) : fillTo f m 0 = List.replicate m 0 :=
  bytes_ext (n := m) (fillTo_len _ _ _) List.length_replicate fun k hk => by
    rw [fillTo_get _ _ _ _ hk, if_neg (by omega)]
    unfold gb
    rw [List.getD_eq_getElem?_getD, List.getElem?_replicate, if_pos hk]
    rfl
theorem fillTo_all (f : Nat → Nat) (m : Nat) : fillTo f m m = (List.range m).map f := by
  unfold fillTo
  apply List.map_congr_left
  intro j hj
  rw [if_pos (by simpa using hj)]
theorem fillTo_step (f : Nat → Nat) (m k : Nat) (hk : k < m) : (fillTo f m k).set k (f k) = fillTo f m (k + 1) :=
  bytes_ext (n := m) (by rw [List.length_set, fillTo_len]) (fillTo_len _ _ _) fun j hj => by
    rw [gb_set _ _ _ _ (by rw [fillTo_len]; exact hk), fillTo_get _ _ _ _ hj, fillTo_get _ _ _ _ hj]
    by_cases e : k = j
    · subst e; rw [if_pos rfl, if_pos (by omega)]
    · rw [if_neg e]
      by_cases h : j < k
      · rw [if_pos h, if_pos (by omega)]
      · rw [if_neg h, if_neg (by omega)]
theorem fillTo_bytes (f : Nat → Nat) (m n : Nat) (h : ∀ k, k < m → f k < 256) : Bytes m (fillTo f m n) := by
  refine ⟨fillTo_len _ _ _, fun k => ?_⟩
  by_cases hk : k < m
  · rw [fillTo_get _ _ _ _ hk]; split
    · exact h k hk
    · omega
  · unfold gb
    rw [List.getD_eq_getElem?_getD, List.getElem?_eq_none (by rw [fillTo_len]; omega)]
    show 0 < 256; omega
theorem infoKey6 : (Tryd.prog.info? 27).map (·.size) = some 32 := by kernel_rfl
set_option maxRecDepth 100000 in
set_option maxHeartbeats 2000000 in
theorem aawake_any (w : World) (hx : TabX w) : Calls Tryd.prog 15 #[] w fun e w' => e = .returned (.bool true) ∧ Below w.heap.size w w' := by
  obtain ⟨C0, hC0⟩ : ∃ C0, C0 = row8 (List.replicate 32 0) := ⟨_, rfl⟩
  have hzk : ∀ w, (zeroValue 27).run Tryd.prog w = .ok (.agg C0.toArray) w := by rw [hC0]; intro w; kernel_rfl
  obtain ⟨D0, hD0⟩ : ∃ C0, C0 = row8 (List.replicate 16 0) := ⟨_, rfl⟩
  have hz : ∀ w, (zeroValue 28).run Tryd.prog w = .ok (.agg D0.toArray) w := by rw [hD0]; exact zero16
  have hd0 : D0.length = 16 := by rw [hD0, row8_len, List.length_replicate]
  have w1 := (Below.refl w.heap.size w).alloc (Nat.le_refl _) (.cells C0.toArray 27)
  have w2 := w1.alloc w1.size (.cells D0.toArray 28)
  have N0 := Lib.hid ((Blk.new w 27 C0 _ rfl).alloc (.cells D0.toArray 28))
  have N1 := Lib.hid (Blk.new (w.alloc (.cells C0.toArray 27)) 28 D0 (w.heap.size + 1) (by simp))
  have W2 := Lib.hid w2
  have HC := Lib.hid hC0
  have HD := Lib.hid hD0
  have HX := Lib.hid hx
  clear w1 w2 hC0 hD0 hx
  go_enter Tryd.func15, Tryd.ntmps15
  go_upto_region 4 with (fail)
  go_loopw [3] (fun x wr => ∃ k : Nat, k ≤ 32 ∧ x = .int .i64 (k : Int) ∧ Blk wr w.heap.size 27 (row8 (fillTo (fun j => j) 32 k)) ∧ Blk wr (w.heap.size + 1) 28 D0 ∧ Below w.heap.size w wr) (fun x _ => 32 - (intOf x).toNat)
  case atStart => exact ⟨0, by omega, rfl, by rw [fillTo_zero, ← HC.out]; exact N0.out, N1.out, W2.out⟩
  case round =>
    clear N0 N1 W2
    obtain ⟨k, hk, rfl, n0, n1, b0⟩ := hrel
    by_cases hlt : k < 32
    · have hltI : (k : Int) < 32 := by omega
      have c0 := n0.cell k _ (row8_val _ k (by rw [fillTo_len]; exact hlt))
      have f0 := n0.free k
      have hm : (k : Int) % 256 = (k : Int) := by omega
      have hstep := fillTo_step (fun j => j) 32 k hlt
      have HST := Lib.hid hstep
      have N0 := Lib.hid n0
      have N1 := Lib.hid n1
      have B0 := Lib.hid b0
      clear n0 n1 b0 hstep
      go_wp2_with fail
      have nt := N0.out.set k (.int .u8 ((k : Nat) : Int))
      rw [row8_set, HST.out] at nt
      exact ⟨⟨k + 1, by omega, by go_num, nt, N1.out.other ⟨w.heap.size, k, none⟩ _ (by simp <;> omega), B0.out.setCell (p := ⟨w.heap.size, k, none⟩) (by simp <;> omega) _⟩, by simp [intOf]; omega⟩
    · obtain rfl : k = 32 := by omega
      obtain ⟨KK, hKK⟩ : ∃ K, K = List.range 32 := ⟨_, rfl⟩
      rw [fillTo_all, show (List.range 32).map (fun j => j) = KK by rw [hKK]; simp] at n0
      have hkb : Bytes 32 KK := by rw [hKK, show List.range 32 = (List.range 32).map (fun j => j) by simp, ← fillTo_all]; exact fillTo_bytes _ _ _ fun k hk => by omega
      have HKB := Lib.hid hkb
      have HKK := Lib.hid hKK
      have N0 := Lib.hid n0
      have N1 := Lib.hid n1
      have B0 := Lib.hid b0
      clear n0 n1 b0 hKK hkb
      go_upto_region 8 with (fail)
      go_loopw [4] (fun x wr => ∃ k : Nat, k ≤ 16 ∧ x = .int .i64 (k : Int) ∧ Blk wr w.heap.size 27 (row8 KK) ∧ Blk wr (w.heap.size + 1) 28 (row8 (fillTo (17 * ·) 16 k)) ∧ Below w.heap.size w wr) (fun x _ => 16 - (intOf x).toNat)
      case atStart => exact ⟨0, by omega, rfl, N0.out, by rw [fillTo_zero, ← HD.out]; exact N1.out, B0.out⟩
      case round =>
        clear N0 N1 B0
        obtain ⟨k, hk, rfl, n0, n1, b0⟩ := hrel
        by_cases hlt : k < 16
        · have hltI : (k : Int) < 16 := by omega
          have c0 := n1.cell k _ (row8_val _ k (by rw [fillTo_len]; exact hlt))
          have f0 := n1.free k
          have hm : 17 * (k : Int) % 256 = ((17 * k : Nat) : Int) := by omega
          have hstep := fillTo_step (17 * ·) 16 k hlt
          have HST := Lib.hid hstep
          have N0 := Lib.hid n0
          have N1 := Lib.hid n1
          have B0 := Lib.hid b0
          clear n0 n1 b0 hstep
          go_wp2_with fail
          have nt := N1.out.set k (.int .u8 ((17 * k : Nat) : Int))
          rw [row8_set, HST.out, show ((17 * k : Nat) : Int) = 17 * (k : Int) by omega] at nt
          exact ⟨⟨k + 1, by omega, by go_num, N0.out.other ⟨w.heap.size + 1, k, none⟩ _ (by simp <;> omega), nt, B0.out.setCell (p := ⟨w.heap.size + 1, k, none⟩) (by simp <;> omega) _⟩, by simp [intOf]; omega⟩
        · obtain rfl : k = 16 := by omega
          obtain ⟨BB, hBB⟩ : ∃ B, B = (List.range 16).map (17 * ·) := ⟨_, rfl⟩
          rw [fillTo_all, ← hBB] at n1
          have hbb : Bytes 16 BB := by rw [hBB, ← fillTo_all]; exact fillTo_bytes _ _ _ fun k hk => by omega
          obtain ⟨E, hE⟩ : ∃ E, E = enc (rk (sched KK)) BB := ⟨_, rfl⟩
          have hek : E = [0x8e, 0xa2, 0xb7, 0xca, 0x51, 0x67, 0x45, 0xbf, 0xea, 0xfc, 0x49, 0x90, 0x4b, 0x49, 0x60, 0x89] := by rw [hE, hBB, HKK.out]; exact known
          have s0 : (row8 E)[0]? = some (.int .u8 142) := by rw [hek]; rfl
          have s1 : (row8 E)[1]? = some (.int .u8 162) := by rw [hek]; rfl
          have s2 : (row8 E)[15]? = some (.int .u8 137) := by rw [hek]; rfl
          have E16 := Lib.hid (show (row8 E).length = 16 by rw [hek]; rfl)
          have K32 := Lib.hid (show (row8 KK).length = 32 by rw [row8_len]; exact HKB.out.1)
          have B16 := Lib.hid (show (row8 BB).length = 16 by rw [row8_len]; exact hbb.1)
          have S0 := Lib.hid s0
          have S1 := Lib.hid s1
          have S2 := Lib.hid s2
          have HE := Lib.hid hE
          have HBB := Lib.hid hbb
          have N0 := Lib.hid n0
          have N1 := Lib.hid n1
          have B0 := Lib.hid b0
          clear n0 n1 b0 hBB hbb hE hek s0 s1 s2 hzk
          go_upto_region 11 with (fail)
          refine wp_region_g (by kernel_rfl) 5 (by decide) (by kernel_rfl) (by kernel_rfl) (by kernel_rfl) wr.heap.size (Nat.le_refl _) [.val (.agg (row8 KK).toArray), .cph KK, .val (.agg (row8 BB).toArray), .val (.agg (row8 E).toArray), .blk 28 D0] (fun _ => 6) ?_ ?_
          · refine ⟨?_, ?_, ?_, ?_, ?_, trivial⟩
            · intro a w' hF hB hd
              have e1 : a.eval (.tmp 1) = .pointer (some ⟨w.heap.size, 0, none⟩) := hF 1 (by decide +kernel)
              exact doesG_wp rfl rfl fun K' hK' => wp_load_mid 27 (.tmp 1) rfl w.heap.size 0 e1 (row8 KK) _ (N0.out.below hB N0.out.lt).range Tryd.underlying27 rfl (by rw [K32.out]; exact infoKey6) (hK' _ _ rfl (Below.refl _ _))
            · intro a w' hF hB hd
              have e23 : a.eval (.tmp 23) = .agg (row8 KK).toArray := hd 0 (by decide +kernel) (.inr (by decide))
              exact doesG_made rfl (ex_call (vs := #[.agg (row8 KK).toArray]) rfl (by simp only [List.map_toArray, List.map_cons, List.map_nil, e23]) (by go_simp)) ((cph_new KK HKB.out w' (HX.out.below (B0.out.on hB))).mono fun e w2 hh => by
                obtain ⟨c, hc, rfl, h2, b2⟩ := hh
                exact ⟨_, rfl, ⟨c, rfl, Nat.le_trans hB.size hc, h2⟩, b2, fun g hg => by have e : c = g := Option.some.inj hg; have := h2.lt; omega⟩)
            · intro a w' hF hB hd
              have e2 : a.eval (.tmp 2) = .pointer (some ⟨w.heap.size + 1, 0, none⟩) := hF 2 (by decide +kernel)
              exact doesG_wp rfl rfl fun K' hK' => wp_load_mid 28 (.tmp 2) rfl (w.heap.size + 1) 0 e2 (row8 BB) _ (N1.out.below hB N1.out.lt).range Tryd.underlying28 rfl (by rw [B16.out]; exact info16) (hK' _ _ rfl (Below.refl _ _))
            · intro a w' hF hB hd
              obtain ⟨c, e24, _, hc⟩ : (Pred.cph (B := wr.heap.size) KK).holds (a.eval (.tmp 24)) w' := hd 1 (by decide +kernel) (.inr (by decide))
              have e25 : a.eval (.tmp 25) = .agg (row8 BB).toArray := hd 2 (by decide +kernel) (.inr (by decide))
              exact doesG_call rfl (ex_call (vs := #[.pointer (some ⟨c, 0, none⟩), .agg (row8 BB).toArray]) rfl (by simp only [List.map_toArray, List.map_cons, List.map_nil, e24, e25]) (by go_simp)) rfl ((cph_enc KK c BB HBB.out w' hc (HX.out.below (B0.out.on hB))).mono fun e w2 hh => ⟨_, hh.1, by rw [← HE.out]; rfl, hh.2⟩)
            · intro a w' hF hB hd
              exact doesG_alloc rfl 28 D0 rfl hz hB.size rfl
          · intro vs w6 hB hv hap
            have e3 : vs 3 = .agg (row8 E).toArray := hv 3 (by decide) (by decide)
            obtain ⟨xb, e4, hxb, n6⟩ : (Pred.blk (B := wr.heap.size) 28 D0).holds (vs 4) w6 := hv 4 (by decide) (by decide)
            simp only [List.take_succ_cons, List.take_zero, List.drop_succ_cons, List.drop_zero, putOps, Act.put, List.setIfInBounds_toArray, List.set_cons_zero, List.set_cons_succ, e3, e4]
            have N6 := Lib.hid n6
            have XB := Lib.hid (show w.heap.size ≤ xb by have := B0.out.size; omega)
            have B6 := Lib.hid (B0.out.on hB)
            have SB6 := Lib.hid (sbox_any 0x53 (by decide))
            clear hv hap e3 e4 hB N0 N1 B0 n6 hxb
            generalize vs 0 = z0 at *
            generalize vs 1 = z1 at *
            generalize vs 2 = z2 at *
            go_upto_region 12 with (refine wpList_store_blk rfl 28 (.tmp 5) (.tmp 26) rfl xb 0 (row8 E) rfl rfl 28 D0 N6.out (by rw [E16.out, hd0]; exact Nat.le_refl _) (by rw [E16.out]; exact info16) (row8_one _) ?_; intro w7 b7 g7; rw [splice_all _ _ (by rw [E16.out, hd0])] at b7; have E7 := Lib.hid b7; have B7 := Lib.hid (B6.out.grown g7 B6.out.size (fun k hk => by have e : xb = k := Option.some.inj hk; have := XB.out; omega)); clear b7 g7)
            have c0 := E7.out.cell 0 _ S0.out
            have c1 := E7.out.cell 1 _ S1.out
            have c2 := E7.out.cell 15 _ S2.out
            have SB := Lib.hid (SB6.out w7 (HX.out.below B7.out))
            have sb := show ∀ w', (Calls Tryd.prog 10 #[.int .u8 83] w' fun e w'' => e = .returned (.int .u8 237) ∧ Below w'.heap.size w' w'') = (Calls Tryd.prog 10 #[.int .u8 ((83 : Nat) : Int)] w' fun e w'' => e = .returned (.int .u8 ((box 83 : Nat) : Int)) ∧ Below w'.heap.size w' w'') from fun _ => rfl
            have SC := Lib.hid ((sb w7).mpr SB.out)
            clear sb
            go_wp2_with (go_at_call 10; (with_reducible refine SC.out.mono ?_); rintro e w8 ⟨rfl, b8⟩; have B8 := Lib.hid (B7.out.on b8); clear b8)
            go_ret
            exact ⟨rfl, B8.out⟩
end Go.Proofs.YtdoifgofmlagbaaDoor

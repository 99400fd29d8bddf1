/- The document's device by value: Write: contract. Own work. -/
import Derived.Test.YtipdcocliefppaaDevRefT
import Derived.Test.YtipdcocliefppaaFactsO
import Derived.Test.YtipdcocliefppaaOwnAt
namespace Go.Proofs.Ytipdcocliefppaa
open Go.ChangeShapes Go.WideShapes Go.ChangeAt Go.RowKit
open DM
theorem infoLw : (Try.prog.info? 78).map (fun i => (i.zero, i.size, i.bytes)) = some (some (.agg #[.int .i64 0, .string { data := #[] }, .int .i64 0]), 3, 32) := by kernel_rfl
theorem lws_app (l m : List LW) : lwsCells (l ++ m) = lwsCells l ++ lwsCells m := by unfold lwsCells; simp
theorem lws_single (x : LW) : lwsCells [x] = lwCells x := by unfold lwsCells; simp
theorem lws_one (l : List LW) : ∀ u ∈ lwsCells l, u.oneCell' = true := by
  intro u hu
  unfold lwsCells at hu
  rw [List.mem_flatten] at hu
  obtain ⟨c, hc, hu⟩ := hu
  rw [List.mem_map] at hc
  obtain ⟨x, _, rfl⟩ := hc
  unfold lwCells at hu
  simp only [List.mem_cons, List.not_mem_nil, or_false] at hu
  rcases hu with rfl | rfl | rfl <;> rfl
/-- The j-th sector is touched just where j is below their number. -/
theorem many_lt (a n j : Nat) (hn : 0 < n) : (a / 512 + j) * 512 < a + n ↔ j < many a n := by unfold many; rw [if_neg (by omega)]; omega
theorem sectors_succ (X : List Nat) (a j : Nat) : (List.range (j + 1)).map (sector X a) = (List.range j).map (sector X a) ++ [sector X a j] := by rw [List.range_succ, List.map_append]; rfl
set_option maxHeartbeats 4000000 in
set_option maxRecDepth 100000 in
theorem rwrite_any (d : DS) (x : Int) (y : List Nat) (da : Option Addr) (dl dc : Nat) (w : World) (hok : Ok d) (hll : d.loose.length ≤ 1000000) (hyl : y.length ≤ 16777216) (hxw : -9223372036854775808 ≤ x ∧ x ≤ 9223372036854775807) (hs : d.steps < 9223372036854775807) (hb : d.after ≤ 9223372036854775807) (hd : RL w (.slice da dl dc) d.loose) :
    Calls Try.prog 36 #[.agg (rdv d (.slice da dl dc)).toArray, .int .i64 x, .string (bstr y)] w (RDone w (.slice da dl dc) (DM.write d x y)) := by
  have hz := zeroRd
  have hmo := hok.most
  have hse := hok.seen
  unfold DM.write
  obtain ⟨m, a, b, l, s, dn, tl, af, dd⟩ := d
  unfold rdv
  simp only at *
  have HD := Lib.hid hd
  have hya := bstr_size y
  have haa := bstr_size a
  obtain ⟨hx1, hx2⟩ := hxw
  cases dn
  · rw [if_neg (by simp)]
    by_cases hr1 : x < 0 ∨ (a.length : Int) < x
    · rw [if_pos hr1]
      clear hd hok
      rcases hr1 with hr1 | hr1
      · go_enter Try.func36, Try.ntmps36
        go_wp2_with fail
        exact bodyPost_ret (results_mid2 rfl _ _ (w.heap.size + 1) [.int .i64 (m : Int), .string (bstr a), .string (bstr b), .slice da dl dc, .int .i64 (s : Int), .bool false, .bool tl, .int .i64 (af : Int), .bool dd] _ rfl (rangeAt_at _ _ _ _ (by simp)) Try.underlying29 rfl infoRd) rfl ⟨da, dl, dc, rfl, HD.out.below (below_two w _ _), below_two w _ _, fun g hg => .inl hg⟩
      · have hr2 : ¬ x < 0 := by omega
        go_enter Try.func36, Try.ntmps36
        go_wp2_with fail
        exact bodyPost_ret (results_mid2 rfl _ _ (w.heap.size + 1) [.int .i64 (m : Int), .string (bstr a), .string (bstr b), .slice da dl dc, .int .i64 (s : Int), .bool false, .bool tl, .int .i64 (af : Int), .bool dd] _ rfl (rangeAt_at _ _ _ _ (by simp)) Try.underlying29 rfl infoRd) rfl ⟨da, dl, dc, rfl, HD.out.below (below_two w _ _), below_two w _ _, fun g hg => .inl hg⟩
    · rw [if_neg hr1]
      obtain ⟨p, rfl⟩ : ∃ p : Nat, x = (p : Int) := ⟨x.toNat, by omega⟩
      have hr2 : ¬ (p : Int) < 0 := by omega
      have hr3 : ¬ (a.length : Int) < (p : Int) := by omega
      clear hr1 hx1 hx2
      by_cases hf : (m : Int) - (p : Int) < (y.length : Int)
      · rw [if_pos hf]
        have hwm : IntKind.i64.wrap ((m : Int) - (p : Int)) = (m : Int) - (p : Int) := by rw [IntKind.wrap_i64]; omega
        have hwm2 : wrap64 ((m : Int) - (p : Int)) = (m : Int) - (p : Int) := by rw [wrap64]; omega
        clear hd hok
        go_enter Try.func36, Try.ntmps36
        go_wp2_with fail
        exact bodyPost_ret (results_mid2 rfl _ _ (w.heap.size + 1) [.int .i64 (m : Int), .string (bstr a), .string (bstr b), .slice da dl dc, .int .i64 (s : Int), .bool false, .bool tl, .int .i64 (af : Int), .bool dd] _ rfl (rangeAt_at _ _ _ _ (by simp)) Try.underlying29 rfl infoRd) rfl ⟨da, dl, dc, rfl, HD.out.below (below_two w _ _), below_two w _ _, fun g hg => .inl hg⟩
      · rw [if_neg hf, Int.toNat_natCast]
        have HS := Lib.hid hs
        have HA := Lib.hid hb
        have HLL := Lib.hid hll
        have hpl : p + y.length ≤ m := by omega
        have HPL := Lib.hid hpl
        have HPA := Lib.hid (show p ≤ a.length by omega)
        have HMO := Lib.hid hmo
        have HSE := Lib.hid hse
        have hxl : (laid a p y).length ≤ m := laid_le a p y m hse hpl
        obtain ⟨X, hX⟩ : ∃ X, X = laid a p y := ⟨_, rfl⟩
        rw [← hX] at hxl
        have HLD := Lib.hid (rlaid_any a y p)
        rw [← hX] at HLD
        unfold wrote
        simp only
        rw [← hX]
        generalize hr : DM.step _ _ = r
        have HR := Lib.hid hr
        have HXL := Lib.hid hxl
        have hxge : p + y.length ≤ X.length ∨ y.length = 0 := by
          by_cases h0 : y = []
          · right; rw [h0]; rfl
          · left; rw [hX, laid_len a p y h0]; omega
        have HXG := Lib.hid hxge
        have hwm : IntKind.i64.wrap ((m : Int) - (p : Int)) = (m : Int) - (p : Int) := by rw [IntKind.wrap_i64]; omega
        have hwm2 : wrap64 ((m : Int) - (p : Int)) = (m : Int) - (p : Int) := by rw [wrap64]; omega
        clear hd hs hb hok hll hpl hxl hX hr hxge hmo hse
        go_enter Try.func36, Try.ntmps36
        go_upto_region 8 with (fail)
        obtain ⟨W, hW⟩ : ∃ W, W = (((w.alloc (.cells #[.int .i64 (m : Int), .string (bstr a), .string (bstr b), .slice da dl dc, .int .i64 (s : Int), .bool false, .bool tl, .int .i64 (af : Int), .bool dd] 29)).alloc (.cells #[.int .i64 0, .string { data := #[] }, .string { data := #[] }, .slice none 0 0, .int .i64 0, .bool false, .bool false, .int .i64 0, .bool false] 29)).alloc (.cells #[.int .i64 (m : Int), .string (bstr a), .string (bstr b), .slice da dl dc, .int .i64 (s : Int), .bool false, .bool tl, .int .i64 (af : Int), .bool dd] 29)) := ⟨_, rfl⟩
        have b0 : Below w.heap.size w W := by rw [hW]; exact ((((Below.refl _ _).alloc (Nat.le_refl _) _).alloc (by simp) _).alloc (by simp; omega) _)
        have k0 : Blk W w.heap.size 29 [.int .i64 (m : Int), .string (bstr a), .string (bstr b), .slice da dl dc, .int .i64 (s : Int), .bool false, .bool tl, .int .i64 (af : Int), .bool dd] := by rw [hW]; exact ((Blk.new w 29 [.int .i64 (m : Int), .string (bstr a), .string (bstr b), .slice da dl dc, .int .i64 (s : Int), .bool false, .bool tl, .int .i64 (af : Int), .bool dd] _ rfl).alloc (.cells #[.int .i64 0, .string { data := #[] }, .string { data := #[] }, .slice none 0 0, .int .i64 0, .bool false, .bool false, .int .i64 0, .bool false] 29)).alloc (.cells #[.int .i64 (m : Int), .string (bstr a), .string (bstr b), .slice da dl dc, .int .i64 (s : Int), .bool false, .bool tl, .int .i64 (af : Int), .bool dd] 29)
        have k1 : Blk W (w.heap.size + 1) 29 [.int .i64 0, .string { data := #[] }, .string { data := #[] }, .slice none 0 0, .int .i64 0, .bool false, .bool false, .int .i64 0, .bool false] := by rw [hW]; exact (Blk.new (w.alloc (.cells #[.int .i64 (m : Int), .string (bstr a), .string (bstr b), .slice da dl dc, .int .i64 (s : Int), .bool false, .bool tl, .int .i64 (af : Int), .bool dd] 29)) 29 [.int .i64 0, .string { data := #[] }, .string { data := #[] }, .slice none 0 0, .int .i64 0, .bool false, .bool false, .int .i64 0, .bool false] (w.heap.size + 1) (by simp)).alloc (.cells #[.int .i64 (m : Int), .string (bstr a), .string (bstr b), .slice da dl dc, .int .i64 (s : Int), .bool false, .bool tl, .int .i64 (af : Int), .bool dd] 29)
        have k2 : Blk W (w.heap.size + 1 + 1) 29 [.int .i64 (m : Int), .string (bstr a), .string (bstr b), .slice da dl dc, .int .i64 (s : Int), .bool false, .bool tl, .int .i64 (af : Int), .bool dd] := by rw [hW]; exact Blk.new ((w.alloc (.cells #[.int .i64 (m : Int), .string (bstr a), .string (bstr b), .slice da dl dc, .int .i64 (s : Int), .bool false, .bool tl, .int .i64 (af : Int), .bool dd] 29)).alloc (.cells #[.int .i64 0, .string { data := #[] }, .string { data := #[] }, .slice none 0 0, .int .i64 0, .bool false, .bool false, .int .i64 0, .bool false] 29)) 29 [.int .i64 (m : Int), .string (bstr a), .string (bstr b), .slice da dl dc, .int .i64 (s : Int), .bool false, .bool tl, .int .i64 (af : Int), .bool dd] (w.heap.size + 1 + 1) (by simp)
        have c1 := k0.cell 1 _ rfl
        have hzW : W.heap.size = w.heap.size + 1 + 1 + 1 := by rw [hW]; simp
        have BW := Lib.hid b0
        have KA := Lib.hid k0
        have KB := Lib.hid k1
        have KC := Lib.hid k2
        have HZW := Lib.hid hzW
        have DW := Lib.hid (HD.out.below b0)
        rw [← hW]
        clear hW b0 k0 k1 k2 hzW
        go_upto_region 9 with (go_at_call 49; refine (HLD.out W (by have := HMO.out; have := HSE.out; omega) (by have := HMO.out; have := HPL.out; omega)).mono ?_; rintro e w1 ⟨rfl, hb1⟩; have BW1 := Lib.hid (BW.out.on hb1); have KA1 := Lib.hid (KA.out.below hb1 KA.out.lt); have KB1 := Lib.hid (KB.out.below hb1 KB.out.lt); have k1c := KC.out.below hb1 KC.out.lt; have cc1 := k1c.cell 1 _ rfl; have cf1 := k1c.free 1; have KC1 := Lib.hid k1c; have DW1 := Lib.hid (DW.out.below hb1); have HZ1 := Lib.hid (show w.heap.size + 1 + 1 + 1 ≤ w1.heap.size from HZW.out ▸ hb1.size); clear hb1 k1c)
        obtain ⟨w2, hw2⟩ : ∃ W, W = w1.setCell ⟨w.heap.size + 1 + 1, 1, none⟩ (.string (bstr X)) := ⟨_, rfl⟩
        have g12 : w1.grownBy w2 (some (w.heap.size + 1 + 1)) := by rw [hw2]; exact grownBy_cell _ _ _ _
        have KX2 := Lib.hid (show Blk w2 (w.heap.size + 1 + 1) 29 [.int .i64 (m : Int), .string (bstr X), .string (bstr b), .slice da dl dc, .int .i64 (s : Int), .bool false, .bool tl, .int .i64 (af : Int), .bool dd] by rw [hw2]; exact KC1.out.set 1 _)
        have KA2 := Lib.hid (KA1.out.grown g12 (fun e => by have := Option.some.inj e; omega))
        have KB2 := Lib.hid (KB1.out.grown g12 (fun e => by have := Option.some.inj e; omega))
        have RL2 := Lib.hid (DW1.out.grown g12 (.inr fun e => by have := HD.out.lt _ e; omega))
        have BW2 := Lib.hid (BW1.out.grown g12 BW1.out.size (fun k hk => by have : w.heap.size + 1 + 1 = k := Option.some.inj hk; omega))
        have HZ2 := Lib.hid (show w.heap.size + 1 + 1 + 1 ≤ w2.heap.size from Nat.le_trans HZ1.out g12.size)
        rw [← hw2]
        clear hw2 g12 cc1 cf1 c1
        have hpb : p ≤ 16777216 := by have := HPL.out; have := HMO.out; omega
        go_wp2_with fail
        go_loopw [9] (fun i wr => ∃ (j : Nat) (la : Option Addr) (n c : Nat), j ≤ many p y.length ∧ i = .int .i64 (((p / 512 + j) * 512 : Nat) : Int) ∧ Blk wr w.heap.size 29 [.int .i64 (m : Int), .string (bstr a), .string (bstr b), .slice da dl dc, .int .i64 (s : Int), .bool false, .bool tl, .int .i64 (af : Int), .bool dd] ∧ Blk wr (w.heap.size + 1) 29 [.int .i64 0, .string { data := #[] }, .string { data := #[] }, .slice none 0 0, .int .i64 0, .bool false, .bool false, .int .i64 0, .bool false] ∧ Blk wr (w.heap.size + 1 + 1) 29 [.int .i64 (m : Int), .string (bstr X), .string (bstr b), .slice la n c, .int .i64 (s : Int), .bool false, .bool tl, .int .i64 (af : Int), .bool dd] ∧ RL wr (.slice la n c) (l ++ (List.range j).map (sector X p)) ∧ (∀ g, (.slice la n c : Value).ownBlock = some g → (g ≠ w.heap.size + 1 ∧ g ≠ w.heap.size + 1 + 1) ∧ ((.slice da dl dc : Value).ownBlock = some g ∨ w.heap.size ≤ g)) ∧ w.heap.size + 1 + 1 + 1 ≤ wr.heap.size ∧ Below w.heap.size w wr) (fun i _ => (p + y.length + 512) - (intOf i).toNat)
        case atStart =>
          exact ⟨0, da, dl, dc, Nat.zero_le _, by rw [Nat.add_zero]; rfl, KA2.out, KB2.out, KX2.out, by simpa using RL2.out, fun g hg => ⟨by have := HD.out.lt _ hg; omega, .inl hg⟩, HZ2.out, BW2.out⟩
        case round =>
          clear KA2 KB2 KX2 RL2 BW2
          obtain ⟨j, la, n, c, hj, rfl, ka, kb, kx, rl, hne, hzr, bb⟩ := hrel
          have KA := Lib.hid ka
          have KB := Lib.hid kb
          have KX := Lib.hid kx
          have RJ := Lib.hid rl
          have NE := Lib.hid hne
          have HZR := Lib.hid hzr
          have BB := Lib.hid bb
          obtain ⟨Lj, hlj⟩ : ∃ L, L = l ++ (List.range j).map (sector X p) := ⟨_, rfl⟩
          rw [← hlj] at RJ
          have hjl : Lj.length = l.length + j := by rw [hlj]; simp
          obtain rfl : n = Lj.length := by
            obtain ⟨_, _, e, _⟩ := rl.rd.shape
            injection e with _ e2 _
            rw [e2, hlj]
          have HLJ2 := Lib.hid hlj
          obtain ⟨q, hq⟩ : ∃ q, q = (p / 512 + j) * 512 := ⟨_, rfl⟩
          rw [← hq]
          clear ka kb kx rl hne hzr bb hlj
          by_cases hn : 0 < y.length ∧ j < many p y.length
          · have hlt := (many_lt p y.length j hn.1).2 hn.2
            rw [← hq] at hlt
            have hqi : (q : Int) < (p : Int) + (y.length : Int) := by omega
            have hyp : (0 : Int) < (y.length : Int) := by omega
            have hqb : q ≤ 33554432 := by omega
            have hjm : j < 100000 := by unfold many at hn; rw [if_neg (by omega)] at hn; omega
            have HLJ := Lib.hid (show Lj.length ≤ 2000000 by have := HLL.out; omega)
            have hXl : p + y.length ≤ X.length := by have := HXG.out; omega
            obtain ⟨E, hE⟩ : ∃ E, E = min (q + 512) X.length := ⟨_, rfl⟩
            have HE := Lib.hid (show min ((q : Int) + 512) (X.length : Int) = (E : Int) by omega)
            have HQE := Lib.hid (show q ≤ E by omega)
            have HEX := Lib.hid (show E ≤ X.length by omega)
            have HEE := Lib.hid hE
            have HQ := Lib.hid hq
            have HNN := Lib.hid hn
            have HJL := Lib.hid hjl
            clear hq hE hn hlt hXl hj hjl
            go_upto_region 13 with (fail)
            refine wp_region_g (by kernel_rfl) 25 (by decide) (by kernel_rfl) (by kernel_rfl) (by kernel_rfl) (wr.heap.size) (Nat.le_refl _) [.val (.slice none 0 0), .val (.pointer (some ⟨(w.heap.size + 1 + 1), 3, none⟩)), .val (.slice la Lj.length c), .ownT 78 3 (0 + Lj.length) ([] ++ lwsCells Lj), .val (.int .i64 (q : Int)), .val (.pointer (some ⟨(w.heap.size + 1 + 1), 1, none⟩)), .val (.string (bstr X)), .val (.int .i64 (q : Int)), .val (.int .i64 (q : Int)), .val (.int .i64 ((q : Int) + 512)), .val (.pointer (some ⟨(w.heap.size + 1 + 1), 1, none⟩)), .val (.string (bstr X)), .val (.int .i64 (X.length : Int)), .val (.int .i64 (E : Int)), .val (.string (bstr ((X.take E).drop q))), .val (.int .i64 (q : Int)), .val (.int .i64 ((q : Int) + 512)), .val (.pointer (some ⟨(w.heap.size + 1 + 1), 1, none⟩)), .val (.string (bstr X)), .val (.int .i64 (X.length : Int)), .val (.int .i64 (E : Int)), .val (.agg #[.int .i64 (q : Int), .string (bstr ((X.take E).drop q)), .int .i64 (E : Int)]), .rdT 3 1 [.int .i64 (q : Int), .string (bstr ((X.take E).drop q)), .int .i64 (E : Int)], .ownT 78 3 (0 + Lj.length + 1) ([] ++ lwsCells Lj ++ [.int .i64 (q : Int), .string (bstr ((X.take E).drop q)), .int .i64 (E : Int)]), .val (.pointer (some ⟨(w.heap.size + 1 + 1), 3, none⟩))] (fun j => if j = 3 then 23 else 26) ?_ ?_
            · refine ⟨?_, ?_, ?_, ?_, ?_, ?_, ?_, ?_, ?_, ?_, ?_, ?_, ?_, ?_, ?_, ?_, ?_, ?_, ?_, ?_, ?_, ?_, ?_, ?_, ?_, trivial⟩
              · intro a w' hF hB hd
                have e10 : a.eval (.tmp 10) = .slice none 0 0 := hF 10 (by decide +kernel)
                exact doesG_val rfl (ex_move rfl e10) rfl rfl
              · intro a w' hF hB hd
                have e8 : a.eval (.tmp 8) = .pointer (some ⟨(w.heap.size + 1 + 1), 0, none⟩) := hF 8 (by decide +kernel)
                exact doesG_val rfl (v := .pointer (some ⟨(w.heap.size + 1 + 1), 3, none⟩)) (by unfold execOp; simp only [e8]; go_simp) rfl rfl
              · intro a w' hF hB hd
                have e59 : a.eval (.tmp 59) = .pointer (some ⟨(w.heap.size + 1 + 1), 3, none⟩) := hd 1 (by decide +kernel) (.inr (by decide))
                have cw := (KX.out.below hB KX.out.lt).cell 3 _ rfl
                exact doesG_val rfl (v := .slice la Lj.length c) (by unfold execOp; simp only [e59]; go_simp) rfl rfl
              · intro a w' hF hB hd
                have e58 : a.eval (.tmp 58) = .slice none 0 0 := hd 0 (by decide +kernel) (.inr (by decide))
                have e60 : a.eval (.tmp 60) = .slice la Lj.length c := hd 2 (by decide +kernel) (.inr (by decide))
                exact doesG_appT rfl (.tmp 58) (.tmp 60) 27 78 3 32 [.int .i64 0, .string { data := #[] }, .int .i64 0] rfl Try.underlying27 infoLw rfl (by decide) (by decide) _ _ _ _ _ _ 0 (.inl rfl) e58 e60 (owned_none w' _ 3 78) (RJ.out.below hB).rd (lws_one Lj) (by have := HLJ.out; omega) hB.size (fun _ _ h => h)
              · intro a w' hF hB hd
                have e9 : a.eval (.tmp 9) = .int .i64 (q : Int) := hF 9 (by decide +kernel)
                exact doesG_val rfl (ex_move rfl e9) rfl rfl
              · intro a w' hF hB hd
                have e8 : a.eval (.tmp 8) = .pointer (some ⟨(w.heap.size + 1 + 1), 0, none⟩) := hF 8 (by decide +kernel)
                exact doesG_val rfl (v := .pointer (some ⟨(w.heap.size + 1 + 1), 1, none⟩)) (by unfold execOp; simp only [e8]; go_simp) rfl rfl
              · intro a w' hF hB hd
                have e63 : a.eval (.tmp 63) = .pointer (some ⟨(w.heap.size + 1 + 1), 1, none⟩) := hd 5 (by decide +kernel) (.inr (by decide))
                have cw := (KX.out.below hB KX.out.lt).cell 1 _ rfl
                exact doesG_val rfl (v := .string (bstr X)) (by unfold execOp; simp only [e63]; go_simp) rfl rfl
              · intro a w' hF hB hd
                have e9 : a.eval (.tmp 9) = .int .i64 (q : Int) := hF 9 (by decide +kernel)
                exact doesG_val rfl (ex_move rfl e9) rfl rfl
              · intro a w' hF hB hd
                have e9 : a.eval (.tmp 9) = .int .i64 (q : Int) := hF 9 (by decide +kernel)
                exact doesG_val rfl (ex_move rfl e9) rfl rfl
              · intro a w' hF hB hd
                have e66 : a.eval (.tmp 66) = .int .i64 (q : Int) := hd 8 (by decide +kernel) (.inr (by decide))
                exact doesG_val rfl (ex_binOp rfl e66 rfl (by go_simp) (by go_simp; rw [IntKind.wrap_i64]; omega)) rfl rfl
              · intro a w' hF hB hd
                have e8 : a.eval (.tmp 8) = .pointer (some ⟨(w.heap.size + 1 + 1), 0, none⟩) := hF 8 (by decide +kernel)
                exact doesG_val rfl (v := .pointer (some ⟨(w.heap.size + 1 + 1), 1, none⟩)) (by unfold execOp; simp only [e8]; go_simp) rfl rfl
              · intro a w' hF hB hd
                have e68 : a.eval (.tmp 68) = .pointer (some ⟨(w.heap.size + 1 + 1), 1, none⟩) := hd 10 (by decide +kernel) (.inr (by decide))
                have cw := (KX.out.below hB KX.out.lt).cell 1 _ rfl
                exact doesG_val rfl (v := .string (bstr X)) (by unfold execOp; simp only [e68]; go_simp) rfl rfl
              · intro a w' hF hB hd
                have e69 : a.eval (.tmp 69) = .string (bstr X) := hd 11 (by decide +kernel) (.inr (by decide))
                exact doesG_val rfl (v := .int .i64 (X.length : Int)) (by rw [← bstr_size X]; exact ex_len_str rfl e69 (run_len_string _ _ _ _ Try.underlying9)) rfl rfl
              · intro a w' hF hB hd
                have e67 : a.eval (.tmp 67) = .int .i64 ((q : Int) + 512) := hd 9 (by decide +kernel) (.inr (by decide))
                have e70 : a.eval (.tmp 70) = .int .i64 (X.length : Int) := hd 12 (by decide +kernel) (.inr (by decide))
                exact doesG_val rfl (v := .int .i64 (E : Int)) (by rw [← HE.out]; exact ex_min rfl e67 e70) rfl rfl
              · intro a w' hF hB hd
                have e64 : a.eval (.tmp 64) = .string (bstr X) := hd 6 (by decide +kernel) (.inr (by decide))
                have e65 : a.eval (.tmp 65) = .int .i64 (q : Int) := hd 7 (by decide +kernel) (.inr (by decide))
                have e71 : a.eval (.tmp 71) = .int .i64 (E : Int) := hd 13 (by decide +kernel) (.inr (by decide))
                exact doesG_val rfl (v := .string (bstr ((X.take E).drop q))) (by rw [← bstr_mid]; exact ex_slice_str Try.underlying9 rfl e64 e65 e71 HQE.out (by rw [bstr_size]; exact HEX.out)) rfl rfl
              · intro a w' hF hB hd
                have e9 : a.eval (.tmp 9) = .int .i64 (q : Int) := hF 9 (by decide +kernel)
                exact doesG_val rfl (ex_move rfl e9) rfl rfl
              · intro a w' hF hB hd
                have e73 : a.eval (.tmp 73) = .int .i64 (q : Int) := hd 15 (by decide +kernel) (.inr (by decide))
                exact doesG_val rfl (ex_binOp rfl e73 rfl (by go_simp) (by go_simp; rw [IntKind.wrap_i64]; omega)) rfl rfl
              · intro a w' hF hB hd
                have e8 : a.eval (.tmp 8) = .pointer (some ⟨(w.heap.size + 1 + 1), 0, none⟩) := hF 8 (by decide +kernel)
                exact doesG_val rfl (v := .pointer (some ⟨(w.heap.size + 1 + 1), 1, none⟩)) (by unfold execOp; simp only [e8]; go_simp) rfl rfl
              · intro a w' hF hB hd
                have e75 : a.eval (.tmp 75) = .pointer (some ⟨(w.heap.size + 1 + 1), 1, none⟩) := hd 17 (by decide +kernel) (.inr (by decide))
                have cw := (KX.out.below hB KX.out.lt).cell 1 _ rfl
                exact doesG_val rfl (v := .string (bstr X)) (by unfold execOp; simp only [e75]; go_simp) rfl rfl
              · intro a w' hF hB hd
                have e76 : a.eval (.tmp 76) = .string (bstr X) := hd 18 (by decide +kernel) (.inr (by decide))
                exact doesG_val rfl (v := .int .i64 (X.length : Int)) (by rw [← bstr_size X]; exact ex_len_str rfl e76 (run_len_string _ _ _ _ Try.underlying9)) rfl rfl
              · intro a w' hF hB hd
                have e74 : a.eval (.tmp 74) = .int .i64 ((q : Int) + 512) := hd 16 (by decide +kernel) (.inr (by decide))
                have e77 : a.eval (.tmp 77) = .int .i64 (X.length : Int) := hd 19 (by decide +kernel) (.inr (by decide))
                exact doesG_val rfl (v := .int .i64 (E : Int)) (by rw [← HE.out]; exact ex_min rfl e74 e77) rfl rfl
              · intro a w' hF hB hd
                have e62 : a.eval (.tmp 62) = .int .i64 (q : Int) := hd 4 (by decide +kernel) (.inr (by decide))
                have e72 : a.eval (.tmp 72) = .string (bstr ((X.take E).drop q)) := hd 14 (by decide +kernel) (.inr (by decide))
                have e78 : a.eval (.tmp 78) = .int .i64 (E : Int) := hd 20 (by decide +kernel) (.inr (by decide))
                exact doesG_val rfl (v := .agg #[.int .i64 (q : Int), .string (bstr ((X.take E).drop q)), .int .i64 (E : Int)]) (by unfold execOp; simp only [List.map_toArray, List.map_cons, List.map_nil, e62, e72, e78]; go_simp) rfl rfl
              · intro a w' hF hB hd
                have e79 : a.eval (.tmp 79) = .agg #[.int .i64 (q : Int), .string (bstr ((X.take E).drop q)), .int .i64 (E : Int)] := hd 21 (by decide +kernel) (.inr (by decide))
                exact doesG_oneT rfl (.tmp 79) 27 78 3 32 [.int .i64 0, .string { data := #[] }, .int .i64 0] [.int .i64 (q : Int), .string (bstr ((X.take E).drop q)), .int .i64 (E : Int)] rfl Try.underlying27 infoLw (by decide) (by decide) rfl e79 (fun _ _ h => h)
              · intro a w' hF hB hd
                have ho : w'.ownsRow wr.heap.size 78 3 (a.eval (.tmp 61)) (0 + Lj.length) ([] ++ lwsCells Lj) := hd 3 (by decide +kernel) (.inl (by decide))
                have hy : RdT 3 w' (a.eval (.tmp 80)) 1 [.int .i64 (q : Int), .string (bstr ((X.take E).drop q)), .int .i64 (E : Int)] := hd 22 (by decide +kernel) (.inr (by decide))
                exact doesG_appT rfl (.tmp 61) (.tmp 80) 27 78 3 32 [.int .i64 0, .string { data := #[] }, .int .i64 0] rfl Try.underlying27 infoLw rfl (by decide) (by decide) _ _ _ _ _ _ 3 (.inr ⟨by decide +kernel, by decide, rfl, rfl⟩) rfl rfl ho hy (by simp [Value.oneCell']) (by have := HLJ.out; omega) hB.size (fun _ _ h => h)
              · intro a w' hF hB hd
                have e8 : a.eval (.tmp 8) = .pointer (some ⟨(w.heap.size + 1 + 1), 0, none⟩) := hF 8 (by decide +kernel)
                exact doesG_val rfl (v := .pointer (some ⟨(w.heap.size + 1 + 1), 3, none⟩)) (by unfold execOp; simp only [e8]; go_simp) rfl rfl
            · intro vs w6 hB hv hap
              have o6 : w6.ownsRow wr.heap.size 78 3 (vs 23) (0 + Lj.length + 1) ([] ++ lwsCells Lj ++ [.int .i64 (q : Int), .string (bstr ((X.take E).drop q)), .int .i64 (E : Int)]) := hv 23 (by decide) (by decide)
              have e24 : vs 24 = .pointer (some ⟨(w.heap.size + 1 + 1), 3, none⟩) := hv 24 (by decide) (by decide)
              obtain ⟨ao, cap, e23, _⟩ := (owned_rd o6).shape
              rw [e23] at o6
              rw [Nat.zero_add] at o6 e23
              simp only [List.take_succ_cons, List.take_zero, List.drop_succ_cons, List.drop_zero, putOps, Act.put, List.setIfInBounds_toArray, List.set_cons_zero, List.set_cons_succ, e23, e24]
              have kx6 := KX.out.below hB KX.out.lt
              have cx3 := kx6.cell 3 _ rfl
              have fx3 := kx6.free 3
              have O6 := Lib.hid o6
              have KX6 := Lib.hid kx6
              have KA6 := Lib.hid (KA.out.below hB KA.out.lt)
              have KB6 := Lib.hid (KB.out.below hB KB.out.lt)
              have BB6 := Lib.hid (BB.out.on hB)
              have HZ6 := Lib.hid (Nat.le_trans HZR.out hB.size)
              clear hv hap e23 e24 hB kx6 o6
              generalize vs 0 = y0 at *
              go_wp2_with fail
              have g67 := grownBy_cell w6 (w.heap.size + 1 + 1) 3 (.slice ao (Lj.length + 1) cap)
              have hzr := HZR.out
              have eqL : ([] ++ lwsCells Lj ++ [.int .i64 (q : Int), .string (bstr ((X.take E).drop q)), .int .i64 (E : Int)]) = lwsCells (l ++ (List.range (j + 1)).map (sector X p)) := by
                rw [sectors_succ, ← List.append_assoc, ← HLJ2.out, lws_app, lws_single, List.nil_append]
                unfold sector lwCells
                rw [HQ.out, HEE.out, HQ.out]
              have hlen : Lj.length + 1 = (l ++ (List.range (j + 1)).map (sector X p)).length := by rw [HLJ2.out]; simp; omega
              have hne2 : (.slice ao (Lj.length + 1) cap : Value).ownBlock ≠ some (w.heap.size + 1 + 1) := fun e => by have := (World.ownsRow.lt O6.out _ e).1; omega
              have rd7 := (owned_rd O6.out).grown g67 (.inr hne2)
              refine ⟨⟨j + 1, ao, Lj.length + 1, cap, HNN.out.2, by rw [show (p / 512 + (j + 1)) * 512 = q + 512 by rw [HQ.out]; omega]; go_num, KA6.out.grown g67 (fun e => by have := Option.some.inj e; omega), KB6.out.grown g67 (fun e => by have := Option.some.inj e; omega), KX6.out.set 3 _, ⟨by rw [← hlen, ← eqL]; exact rd7, fun g hg => Nat.lt_of_lt_of_le (World.ownsRow.lt O6.out g hg).2 g67.size⟩, fun g hg => ⟨by have := (World.ownsRow.lt O6.out g hg).1; omega, .inr (by have := (World.ownsRow.lt O6.out g hg).1; omega)⟩, Nat.le_trans HZ6.out g67.size, BB6.out.setCell (p := ⟨w.heap.size + 1 + 1, 3, none⟩) (by show w.heap.size ≤ w.heap.size + 1 + 1; omega) _⟩, by simp [intOf]; omega⟩
          · have hjm : j = many p y.length := by
              rcases Nat.eq_zero_or_pos y.length with h0 | h0
              · have : many p y.length = 0 := by unfold many; rw [if_pos h0]
                omega
              · omega
            have hcond : (p : Int) + (y.length : Int) ≤ (q : Int) ∨ (y.length : Int) = 0 := by
              rcases Nat.eq_zero_or_pos y.length with h0 | h0
              · right; omega
              · left
                have hml := many_lt p y.length j h0
                have : ¬ (p / 512 + j) * 512 < p + y.length := fun h => hn ⟨h0, hml.1 h⟩
                omega
            have HQ := Lib.hid hq
            have HJM := Lib.hid hjm
            clear hq hn hjl hj hjm
            have hc0 := rstep_any ⟨m, a, b, l, s, false, tl, af, dd⟩ ⟨m, X, b, l ++ (List.range (many p y.length)).map (sector X p), s, false, tl, af, dd⟩ da la dl dc Lj.length c wr HS.out rfl rfl HA.out (HD.out.below BB.out) (by rw [← HJM.out, ← HLJ2.out]; exact RJ.out)
            rw [HR.out] at hc0
            have HC := Lib.hid hc0
            clear hc0
            rcases hcond with hcond | hcond
            all_goals (
              go_wp2_with (first
                | (refine wpList_load_mid rfl 29 (.tmp 3) rfl (w.heap.size) 0 rfl [.int .i64 (m : Int), .string (bstr a), .string (bstr b), .slice da dl dc, .int .i64 (s : Int), .bool false, .bool tl, .int .i64 (af : Int), .bool dd] _ KA.out.range Try.underlying29 rfl infoRd ?_)
                | (refine wpList_load_mid rfl 29 (.tmp 8) rfl (w.heap.size + 1 + 1) 0 rfl [.int .i64 (m : Int), .string (bstr X), .string (bstr b), .slice la Lj.length c, .int .i64 (s : Int), .bool false, .bool tl, .int .i64 (af : Int), .bool dd] _ KX.out.range Try.underlying29 rfl infoRd ?_)
                | (go_at_call 48; refine HC.out.mono ?_; rintro e w5 ⟨la2, n2, c2, rfl, hl5, hb5, hq5⟩; have L5 := Lib.hid hl5; have NE5 := Lib.hid (show (.slice la2 n2 c2 : Value).ownBlock ≠ some (w.heap.size + 1) from by rcases hq5 with q2 | q2 <;> (rw [q2]; first | (intro h; exact (NE.out _ h).1.1 rfl) | (intro h; have := HD.out.lt _ h; omega))); have K5 := Lib.hid (KB.out.below hb5 KB.out.lt); have B5 := Lib.hid (BB.out.on hb5); have QQ := Lib.hid hq5; clear hl5 hb5 hq5)
                | (refine wpList_store_blk rfl 29 (.tmp 6) (.tmp 86) rfl (w.heap.size + 1) 0 [.int .i64 (r.1.most : Int), .string (bstr r.1.seen), .string (bstr r.1.safe), .slice la2 n2 c2, .int .i64 (r.1.steps : Int), .bool r.1.down, .bool r.1.told, .int .i64 (r.1.after : Int), .bool r.1.done] rfl rfl 29 _ K5.out (by simp) infoRd (by simp [Value.oneCell']) ?_; intro w6 k6 g6; have K6 := Lib.hid (k6.dev rfl); have L6 := Lib.hid (L5.out.grown g6 (.inr NE5.out)); have B6 := Lib.hid (B5.out.grown g6 B5.out.size (fun k hk => by have : w.heap.size + 1 = k := Option.some.inj hk; omega)); clear k6 g6))
              all_goals exact bodyPost_ret (results_mid2 rfl _ _ (w.heap.size + 1) [.int .i64 (r.1.most : Int), .string (bstr r.1.seen), .string (bstr r.1.safe), .slice la2 n2 c2, .int .i64 (r.1.steps : Int), .bool r.1.down, .bool r.1.told, .int .i64 (r.1.after : Int), .bool r.1.done] _ rfl K6.out.range Try.underlying29 rfl infoRd) rfl ⟨la2, n2, c2, rfl, L6.out, B6.out, fun g hg => by rcases QQ.out with q2 | q2 <;> (rw [q2] at hg; first | exact (NE.out _ hg).2 | exact .inl hg)⟩)
  · rw [if_pos rfl]
    clear hd hok
    go_enter Try.func36, Try.ntmps36
    go_wp2_with fail
    exact bodyPost_ret (results_mid2 rfl _ _ (w.heap.size + 1) [.int .i64 (m : Int), .string (bstr a), .string (bstr b), .slice da dl dc, .int .i64 (s : Int), .bool true, .bool tl, .int .i64 (af : Int), .bool dd] _ rfl (rangeAt_at _ _ _ _ (by simp)) Try.underlying29 rfl infoRd) rfl ⟨da, dl, dc, rfl, HD.out.below (below_two w _ _), below_two w _ _, fun g hg => .inl hg⟩
end Go.Proofs.Ytipdcocliefppaa

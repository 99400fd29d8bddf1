/- The document's device by value: Start: contract. Own work. -/
import Derived.Test.YtipdcocliefppaaDevRefW
import Derived.Laws.BitsAllLaws
namespace Go.Proofs.Ytipdcocliefppaa
open Go.ChangeShapes Go.WideShapes Go.ChangeAt Go.RowKit
open DM
theorem lws_get (l : List LW) (k : Nat) (x : LW) (h : l[k]? = some x) : (lwsCells l)[k * 3 + 0]? = some (.int .i64 (x.at_ : Int)) ∧ (lwsCells l)[k * 3 + 1]? = some (.string (bstr x.bytes)) ∧ (lwsCells l)[k * 3 + 2]? = some (.int .i64 (x.size : Int)) := by
  induction l generalizing k with
  | nil => simp at h
  | cons y r ih =>
    have e : lwsCells (y :: r) = lwCells y ++ lwsCells r := by unfold lwsCells; simp
    rw [e]
    cases k with
    | zero => simp at h; subst h; exact ⟨rfl, rfl, rfl⟩
    | succ k =>
      have h2 := ih k (by simpa using h)
      have hl : (lwCells y).length = 3 := rfl
      refine ⟨?_, ?_, ?_⟩
      · rw [List.getElem?_append_right (by omega), hl, show (k + 1) * 3 + 0 - 3 = k * 3 + 0 by omega]; exact h2.1
      · rw [List.getElem?_append_right (by omega), hl, show (k + 1) * 3 + 1 - 3 = k * 3 + 1 by omega]; exact h2.2.1
      · rw [List.getElem?_append_right (by omega), hl, show (k + 1) * 3 + 2 - 3 = k * 3 + 2 by omega]; exact h2.2.2
theorem rd_plain {w : World} {ao : Option Addr} {n cap : Nat} {l : List Nat} (h : Rd w (.slice ao n cap) l) (j : Nat) (hj : j < l.length) : ∃ b off, ao = some ⟨b, off, none⟩ ∧ w.cell? ⟨b, off + j, none⟩ = some (.int .u8 ((gb l j : Nat) : Int)) := by
  obtain ⟨ad, e, h0⟩ := h.at_ 0 (by omega)
  obtain ⟨b, off, spot⟩ := ad
  have hspot : spot = none := by simpa [Addr.add] using World.cell?_spot h0
  subst hspot
  obtain ⟨ad2, e2, h1⟩ := h.at_ j hj
  rw [e] at e2
  obtain rfl := Option.some.inj e2
  exact ⟨b, off, e, by rw [← Addr.add_lit]; exact h1⟩
theorem keep_bit (b k : Nat) (hb : b < 256) : bits .and .u8 ((b : Int) / 2 ^ k) 1 = ((b / 2 ^ k % 2 : Nat) : Int) := by
  have e : ((b : Int) / 2 ^ k) = ((b / 2 ^ k : Nat) : Int) := by simp
  have l : b / 2 ^ k < 256 := Nat.lt_of_le_of_lt (Nat.div_le_self _ _) hb
  rw [e]
  have := u8_and_nat (b / 2 ^ k) 1 l (by omega)
  rw [nat_mask1] at this; exact this
theorem layTo_yes {k : List Nat} {l : List LW} {s : List Nat} {n : Nat} {x : LW} (hx : l[n]? = some x) (hb : bit k n = true) : layTo k l s (n + 1) = laid (layTo k l s n) x.at_ x.bytes := by rw [layTo, hx]; simp only; rw [if_pos hb]
theorem layTo_no {k : List Nat} {l : List LW} {s : List Nat} {n : Nat} {x : LW} (hx : l[n]? = some x) (hb : bit k n = false) : layTo k l s (n + 1) = layTo k l s n := by rw [layTo, hx]; simp only; rw [if_neg (by rw [hb]; decide)]
theorem layTo_len (k : List Nat) (l : List LW) (s : List Nat) (m : Nat) (hs : s.length ≤ m) (hl : ∀ x ∈ l, x.at_ + x.bytes.length ≤ m) : ∀ n, (layTo k l s n).length ≤ m
  | 0 => hs
  | n + 1 => by
    unfold layTo
    split
    · rename_i x hx
      split
      · exact laid_le _ _ _ _ (layTo_len k l s m hs hl n) (hl x (List.mem_of_getElem? hx))
      · exact layTo_len k l s m hs hl n
    · exact layTo_len k l s m hs hl n
set_option maxHeartbeats 4000000 in
set_option maxRecDepth 100000 in
theorem rstart_any (d : DS) (v : Value) (y : List Nat) (da : Option Addr) (dl dc : Nat) (w : World) (hok : Ok d) (hll : d.loose.length ≤ 1000000) (hv : Rd w v y) (hd : RL w (.slice da dl dc) d.loose) :
    Calls Try.prog 33 #[.agg (rdv d (.slice da dl dc)).toArray, v] w (RGave w (.slice da dl dc) (DM.start d y)) := by
  have hz := zeroRd
  have hlen := layTo_len y d.loose d.safe d.most hok.safe (fun x hx => (hok.loose x hx).2.2)
  have hmo := hok.most
  have hlo := hok.loose
  unfold DM.start
  obtain ⟨m, a, b, l, s, dn, tl, af, dd⟩ := d
  unfold rdv
  simp only at *
  obtain ⟨va, vc, rfl, hvc⟩ := hv.shape
  have HD := Lib.hid hd
  have HV := Lib.hid hv
  obtain rfl : dl = l.length := by
    obtain ⟨_, _, e, _⟩ := hd.rd.shape
    injection e
  have HLEN := Lib.hid hlen
  have HMO := Lib.hid hmo
  have HLO := Lib.hid hlo
  have HLL := Lib.hid hll
  clear hd hok hv hlen hmo hlo hvc
  go_enter Try.func33, Try.ntmps33
  go_upto_region 2 with (fail)
  obtain ⟨W, hW⟩ : ∃ W, W = ((w.alloc (.cells #[.int .i64 (m : Int), .string (bstr a), .string (bstr b), .slice da l.length dc, .int .i64 (s : Int), .bool dn, .bool tl, .int .i64 (af : Int), .bool dd] 29)).alloc (.cells #[.int .i64 0, .string { data := #[] }, .string { data := #[] }, .slice none 0 0, .int .i64 0, .bool false, .bool false, .int .i64 0, .bool false] 29)) := ⟨_, rfl⟩
  have BW := Lib.hid (show Below w.heap.size w W by rw [hW]; exact below_two w _ _)
  have KA := Lib.hid (show Blk W w.heap.size 29 [.int .i64 (m : Int), .string (bstr a), .string (bstr b), .slice da l.length dc, .int .i64 (s : Int), .bool dn, .bool tl, .int .i64 (af : Int), .bool dd] by rw [hW]; exact (Blk.new w 29 [.int .i64 (m : Int), .string (bstr a), .string (bstr b), .slice da l.length dc, .int .i64 (s : Int), .bool dn, .bool tl, .int .i64 (af : Int), .bool dd] _ rfl).alloc (.cells #[.int .i64 0, .string { data := #[] }, .string { data := #[] }, .slice none 0 0, .int .i64 0, .bool false, .bool false, .int .i64 0, .bool false] 29))
  have KB := Lib.hid (show Blk W (w.heap.size + 1) 29 [.int .i64 0, .string { data := #[] }, .string { data := #[] }, .slice none 0 0, .int .i64 0, .bool false, .bool false, .int .i64 0, .bool false] by rw [hW]; exact Blk.new (w.alloc (.cells #[.int .i64 (m : Int), .string (bstr a), .string (bstr b), .slice da l.length dc, .int .i64 (s : Int), .bool dn, .bool tl, .int .i64 (af : Int), .bool dd] 29)) 29 [.int .i64 0, .string { data := #[] }, .string { data := #[] }, .slice none 0 0, .int .i64 0, .bool false, .bool false, .int .i64 0, .bool false] (w.heap.size + 1) (by simp))
  rw [← hW]
  clear hW
  go_wp2_with fail
  go_loopw [5, 6] (fun u i wr => ∃ k : Nat, k ≤ l.length ∧ u = .string (bstr (layTo y l b k)) ∧ i = .int .i64 (k : Int) ∧ Blk wr w.heap.size 29 [.int .i64 (m : Int), .string (bstr a), .string (bstr b), .slice da l.length dc, .int .i64 (s : Int), .bool dn, .bool tl, .int .i64 (af : Int), .bool dd] ∧ Blk wr (w.heap.size + 1) 29 [.int .i64 0, .string { data := #[] }, .string { data := #[] }, .slice none 0 0, .int .i64 0, .bool false, .bool false, .int .i64 0, .bool false] ∧ Below w.heap.size w wr) (fun _ i _ => l.length - (intOf i).toNat)
  case atStart => exact ⟨0, Nat.zero_le _, rfl, rfl, KA.out, KB.out, BW.out⟩
  case round =>
    clear KA KB BW
    obtain ⟨k, hk, rfl, rfl, ka, kb, bb⟩ := hrel
    have KA := Lib.hid ka
    have KB := Lib.hid kb
    have BB := Lib.hid bb
    have c3 := ka.cell 3 _ rfl
    obtain ⟨C, hC⟩ : ∃ C, C = layTo y l b k := ⟨_, rfl⟩
    have HC := Lib.hid hC
    rw [← hC]
    clear hC
    by_cases hk2 : k < l.length
    · obtain ⟨x, hx⟩ : ∃ x, l[k]? = some x := ⟨l[k], List.getElem?_eq_getElem hk2⟩
      obtain ⟨lb, lo, rfl, hcs⟩ := (HD.out.below bb).rd.at_ (by decide) k hk2
      have hg := lws_get l k x hx
      have cx0 := hcs 0 _ (by decide) hg.1
      have cx1 := hcs 1 _ (by decide) hg.2.1
      have HX := Lib.hid hx
      clear ka kb bb hcs hg hx
      by_cases h8 : k / 8 < y.length
      · obtain ⟨va', vo, rfl, cz⟩ : ∃ b off, va = some ⟨b, off, none⟩ ∧ wr.cell? ⟨b, off + k / 8, none⟩ = some (.int .u8 ((gb y (k / 8) : Nat) : Int)) := by
          exact rd_plain (HV.out.below BB.out) (k / 8) h8
        have hzb := HV.out.byte (k / 8)
        obtain ⟨Z, hZ⟩ : ∃ Z, Z = gb y (k / 8) := ⟨_, rfl⟩
        obtain ⟨q, hq⟩ : ∃ q, q = k / 8 := ⟨_, rfl⟩
        obtain ⟨r, hr⟩ : ∃ r, r = k % 8 := ⟨_, rfl⟩
        rw [← hZ] at cz hzb
        rw [← hq] at cz h8
        have hq2 : (k : Int) / 8 = (q : Int) := by omega
        have hr2 : (k : Int) % 8 = (r : Int) := by omega
        have hr8 : r < 8 := by omega
        have HZ := Lib.hid hZ
        have HQ := Lib.hid hq
        have HRR := Lib.hid hr
        have hkb : k ≤ 1000000 := by have := HLL.out; omega
        clear hZ hq hr
        have hbt := keep_bit Z r hzb
        have hxb := HLO.out x (List.mem_of_getElem? HX.out)
        by_cases hb1 : Z / 2 ^ r % 2 = 1
        · rw [hb1] at hbt
          have hcond : (bits BinOp.and IntKind.u8 ((Z : Int) / 2 ^ r) 1 == 1) = true := by rw [hbt]; rfl
          have hbit : bit y k = true := by unfold bit; rw [← HQ.out, ← HRR.out, HQ.out, ← HZ.out]; simp [← HQ.out, h8, hb1]
          have HY := Lib.hid (layTo_yes (s := b) HX.out hbit)
          have HLD := Lib.hid (fun w' => rlaid_any C x.bytes x.at_ w' (by rw [HC.out]; exact Nat.le_trans (HLEN.out k) HMO.out) (by have := hxb.2.2; have := HMO.out; omega))
          have cx0' : wr.cell? ⟨lb, lo + k * 3, none⟩ = some (.int .i64 (x.at_ : Int)) := cx0
          have cx1' : wr.cell? ⟨lb, lo + k * 3 + 1, none⟩ = some (.string (bstr x.bytes)) := by rw [Nat.add_assoc]; exact cx1
          clear hbt hbit hxb cx0 cx1
          go_upto_region 6 with (fail)
          refine wp_region_g (by kernel_rfl) 14 (by decide) (by kernel_rfl) (by kernel_rfl) (by kernel_rfl) (wr.heap.size) (Nat.le_refl _) [.val (.string (bstr C)), .val (.pointer (some ⟨w.heap.size, 3, none⟩)), .val (.slice (some ⟨lb, lo, none⟩) l.length dc), .val (.int .i64 (k : Int)), .val (.pointer (some ⟨lb, lo + k * 3, none⟩)), .val (.pointer (some ⟨lb, lo + k * 3, none⟩)), .val (.int .i64 (x.at_ : Int)), .val (.pointer (some ⟨w.heap.size, 3, none⟩)), .val (.slice (some ⟨lb, lo, none⟩) l.length dc), .val (.int .i64 (k : Int)), .val (.pointer (some ⟨lb, lo + k * 3, none⟩)), .val (.pointer (some ⟨lb, lo + k * 3 + 1, none⟩)), .val (.string (bstr x.bytes)), .val (.string (bstr (laid C x.at_ x.bytes)))] (fun _ => 15) ?_ ?_
          · refine ⟨?_, ?_, ?_, ?_, ?_, ?_, ?_, ?_, ?_, ?_, ?_, ?_, ?_, ?_, trivial⟩
            · intro a w' hF hB hd
              have e5 : a.eval (.tmp 5) = .string (bstr C) := hF 5 (by decide +kernel)
              exact doesG_val rfl (ex_move rfl e5) rfl rfl
            · intro a w' hF hB hd
              have e2 : a.eval (.tmp 2) = .pointer (some ⟨w.heap.size, 0, none⟩) := hF 2 (by decide +kernel)
              exact doesG_val rfl (v := .pointer (some ⟨w.heap.size, 3, none⟩)) (by unfold execOp; simp only [e2]; go_simp) rfl rfl
            · intro a w' hF hB hd
              have e35 : a.eval (.tmp 35) = .pointer (some ⟨w.heap.size, 3, none⟩) := hd 1 (by decide +kernel) (.inr (by decide))
              have cw := (KA.out.below hB KA.out.lt).cell 3 _ rfl
              exact doesG_val rfl (v := .slice (some ⟨lb, lo, none⟩) l.length dc) (by unfold execOp; simp only [e35]; go_simp) rfl rfl
            · intro a w' hF hB hd
              have e6 : a.eval (.tmp 6) = .int .i64 (k : Int) := hF 6 (by decide +kernel)
              exact doesG_val rfl (ex_move rfl e6) rfl rfl
            · intro a w' hF hB hd
              have e36 : a.eval (.tmp 36) = .slice (some ⟨lb, lo, none⟩) l.length dc := hd 2 (by decide +kernel) (.inr (by decide))
              have e37 : a.eval (.tmp 37) = .int .i64 (k : Int) := hd 3 (by decide +kernel) (.inr (by decide))
              have f36 : a.tmps[36]?.getD undef = .slice (some ⟨lb, lo, none⟩) l.length dc := by rw [← Array.getD_eq_getD_getElem?]; exact e36
              have f37 : a.tmps[37]?.getD undef = .int .i64 (k : Int) := by rw [← Array.getD_eq_getD_getElem?]; exact e37
              have hkz : (k : Int) < (l.length : Int) := by omega
              exact doesG_val rfl (v := .pointer (some ⟨lb, lo + k * 3, none⟩)) (by unfold execOp; go_simp) rfl rfl
            · intro a w' hF hB hd
              have e38 : a.eval (.tmp 38) = .pointer (some ⟨lb, lo + k * 3, none⟩) := hd 4 (by decide +kernel) (.inr (by decide))
              exact doesG_val rfl (v := .pointer (some ⟨lb, lo + k * 3, none⟩)) (by unfold execOp; simp only [e38]; go_simp) rfl rfl
            · intro a w' hF hB hd
              have e39 : a.eval (.tmp 39) = .pointer (some ⟨lb, lo + k * 3, none⟩) := hd 5 (by decide +kernel) (.inr (by decide))
              have cw := (hB.cell (World.block_lt_of_cell? _ _ cx0')).trans cx0'
              exact doesG_val rfl (v := .int .i64 (x.at_ : Int)) (by unfold execOp; simp only [e39]; go_simp) rfl rfl
            · intro a w' hF hB hd
              have e2 : a.eval (.tmp 2) = .pointer (some ⟨w.heap.size, 0, none⟩) := hF 2 (by decide +kernel)
              exact doesG_val rfl (v := .pointer (some ⟨w.heap.size, 3, none⟩)) (by unfold execOp; simp only [e2]; go_simp) rfl rfl
            · intro a w' hF hB hd
              have e41 : a.eval (.tmp 41) = .pointer (some ⟨w.heap.size, 3, none⟩) := hd 7 (by decide +kernel) (.inr (by decide))
              have cw := (KA.out.below hB KA.out.lt).cell 3 _ rfl
              exact doesG_val rfl (v := .slice (some ⟨lb, lo, none⟩) l.length dc) (by unfold execOp; simp only [e41]; go_simp) rfl rfl
            · intro a w' hF hB hd
              have e6 : a.eval (.tmp 6) = .int .i64 (k : Int) := hF 6 (by decide +kernel)
              exact doesG_val rfl (ex_move rfl e6) rfl rfl
            · intro a w' hF hB hd
              have e42 : a.eval (.tmp 42) = .slice (some ⟨lb, lo, none⟩) l.length dc := hd 8 (by decide +kernel) (.inr (by decide))
              have e43 : a.eval (.tmp 43) = .int .i64 (k : Int) := hd 9 (by decide +kernel) (.inr (by decide))
              have f42 : a.tmps[42]?.getD undef = .slice (some ⟨lb, lo, none⟩) l.length dc := by rw [← Array.getD_eq_getD_getElem?]; exact e42
              have f43 : a.tmps[43]?.getD undef = .int .i64 (k : Int) := by rw [← Array.getD_eq_getD_getElem?]; exact e43
              have hkz : (k : Int) < (l.length : Int) := by omega
              exact doesG_val rfl (v := .pointer (some ⟨lb, lo + k * 3, none⟩)) (by unfold execOp; go_simp) rfl rfl
            · intro a w' hF hB hd
              have e44 : a.eval (.tmp 44) = .pointer (some ⟨lb, lo + k * 3, none⟩) := hd 10 (by decide +kernel) (.inr (by decide))
              exact doesG_val rfl (v := .pointer (some ⟨lb, lo + k * 3 + 1, none⟩)) (by unfold execOp; simp only [e44]; go_simp) rfl rfl
            · intro a w' hF hB hd
              have e45 : a.eval (.tmp 45) = .pointer (some ⟨lb, lo + k * 3 + 1, none⟩) := hd 11 (by decide +kernel) (.inr (by decide))
              have cw := (hB.cell (World.block_lt_of_cell? _ _ cx1')).trans cx1'
              exact doesG_val rfl (v := .string (bstr x.bytes)) (by unfold execOp; simp only [e45]; go_simp) rfl rfl
            · intro a w' hF hB hd
              have e34 : a.eval (.tmp 34) = .string (bstr C) := hd 0 (by decide +kernel) (.inr (by decide))
              have e40 : a.eval (.tmp 40) = .int .i64 (x.at_ : Int) := hd 6 (by decide +kernel) (.inr (by decide))
              have e46 : a.eval (.tmp 46) = .string (bstr x.bytes) := hd 12 (by decide +kernel) (.inr (by decide))
              exact doesG_call rfl (ex_call (vs := #[.string (bstr C), .int .i64 (x.at_ : Int), .string (bstr x.bytes)]) rfl (by simp only [List.map_toArray, List.map_cons, List.map_nil, e34, e40, e46]) (by go_simp)) rfl ((HLD.out w').mono fun e w2 hh => ⟨_, hh.1, rfl, hh.2⟩)
          · intro vs w6 hB hv hap
            have e13 : vs 13 = .string (bstr (laid C x.at_ x.bytes)) := hv 13 (by decide) (by decide)
            simp only [List.take_succ_cons, List.take_zero, List.drop_succ_cons, List.drop_zero, putOps, Act.put, List.setIfInBounds_toArray, List.set_cons_zero, List.set_cons_succ, e13]
            have KA6 := Lib.hid (KA.out.below hB KA.out.lt)
            have KB6 := Lib.hid (KB.out.below hB KB.out.lt)
            have BB6 := Lib.hid (BB.out.on hB)
            clear hv hap e13 hB
            go_wp2_with fail
            exact ⟨⟨k + 1, by omega, by rw [HY.out, ← HC.out], by go_num, KA6.out, KB6.out, BB6.out⟩, by simp [intOf]; omega⟩
        · have hb0 : Z / 2 ^ r % 2 = 0 := by omega
          rw [hb0] at hbt
          have hcond : (bits BinOp.and IntKind.u8 ((Z : Int) / 2 ^ r) 1 == 1) = false := by rw [hbt]; rfl
          have hbit : bit y k = false := by unfold bit; rw [← HQ.out, ← HRR.out, HQ.out, ← HZ.out]; simp [← HQ.out, h8, hb0]
          have HN := Lib.hid (layTo_no (s := b) HX.out hbit)
          clear hbt hbit hxb cx0 cx1
          go_wp2_with fail
          exact ⟨⟨k + 1, by omega, by rw [HN.out, ← HC.out], by go_num, KA.out, KB.out, BB.out⟩, by simp [intOf]; omega⟩
      · have hbit : bit y k = false := by unfold bit; simp [h8]
        have HN := Lib.hid (layTo_no (s := b) HX.out hbit)
        have h8i : ¬ (k : Int) / 8 < (y.length : Int) := by omega
        have hkb : k ≤ 1000000 := by have := HLL.out; omega
        clear hbit cx0 cx1
        go_wp2_with fail
        exact ⟨⟨k + 1, by omega, by rw [HN.out, ← HC.out], by go_num, KA.out, KB.out, BB.out⟩, by simp [intOf]; omega⟩
    · obtain rfl : k = l.length := by omega
      have c0 := ka.cell 0 _ rfl
      have c4 := ka.cell 4 _ rfl
      clear ka kb bb
      go_wp2_with (refine wpList_store_blk rfl 29 (.tmp 4) (.tmp 54) rfl (w.heap.size + 1) 0 [.int .i64 (m : Int), .string (bstr C), .string (bstr C), .slice none 0 0, .int .i64 (s : Int), .bool false, .bool false, .int .i64 0, .bool false] rfl rfl 29 _ KB.out (by simp) infoRd (by simp [Value.oneCell']) ?_; intro w6 k6 g6; have K6 := Lib.hid (k6.dev rfl); have B6 := Lib.hid (BB.out.grown g6 BB.out.size (fun k hk => by have : w.heap.size + 1 = k := Option.some.inj hk; omega)); clear k6 g6)
      exact bodyPost_ret (results_mid rfl _ _ (w.heap.size + 1) [.int .i64 (m : Int), .string (bstr C), .string (bstr C), .slice none 0 0, .int .i64 (s : Int), .bool false, .bool false, .int .i64 0, .bool false] _ rfl K6.out.range Try.underlying29 rfl infoRd) rfl ⟨none, 0, 0, by rw [← HC.out]; rfl, RL.none_ _, B6.out, fun g hg => by cases hg⟩
end Go.Proofs.Ytipdcocliefppaa

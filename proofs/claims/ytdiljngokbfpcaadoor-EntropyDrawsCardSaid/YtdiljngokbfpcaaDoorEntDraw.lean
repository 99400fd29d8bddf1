/- Bytes drawn of a source: contract. Own work. -/
import Derived.Test.YtdiljngokbfpcaaDoorEntIter
import Derived.Test.YtdiljngokbfpcaaDoorLasts
import Derived.Test.YtdiljngokbfpcaaDoorBlkRd
import Derived.Laws.MakeOwn
namespace Go.Proofs.YtdiljngokbfpcaaDoor
open Go.ChangeShapes Go.WideShapes Go.ChangeAt Go.RowKit
open SM
attribute [local go_sem] Oper.semAt_some
theorem run_make0 (w : World) (B : Nat) (hB : B ≤ w.heap.size) (n : Nat) (hn : n ≤ 1024) : ∃ w', (Instr.makeSlice 22 (.int .i64 0) (.int .i64 (n : Int))).run Tryd.prog w = .ok (.slice (some ⟨w.heap.size, 0, none⟩) 0 n) w' ∧ Own w' B (.slice (some ⟨w.heap.size, 0, none⟩) 0 n) [] ∧ Below w.heap.size w w' ∧ w.heap.size < w'.heap.size := by
  obtain ⟨i0, hi, hz0, hz1, hz2⟩ := info_parts infoB
  obtain ⟨w', hr, ho, hg⟩ := run_makeSlice_owned (P := Tryd.prog) w B 22 5 i0 (.int .u8 0) 1 Tryd.underlying22 hi hz0 hz1 .i64 .i64 n (by omega) (by rw [hz2]; omega) (by unfold maxLen; omega) hB
  exact ⟨w', hr, ⟨ho, fun k => by rw [gb_nil]; omega, by simp⟩, below_of_grown hg, (ho.lt _ rfl).2⟩
theorem lasts_env {B bi bs x g : Nat} {S : List Nat} {t i0 : Nat} : Lasts B (fun w => Env w bi bs x g S t i0) := fun A A' h hs =>
  ⟨lasts_blk A A' h.box_i hs, lasts_blk A A' h.box_s hs, ⟨lasts_blk A A' h.src.blk hs, lasts_hs A A' h.src.inn hs, h.src.ne⟩, lasts_tab A A' h.tab hs⟩
theorem Env.grown {w w' : World} {bi bs x g : Nat} {S : List Nat} {t i0 : Nat} {row : Option Nat} (h : Env w bi bs x g S t i0) (hg : w.grownBy w' row) (h1 : some bi ≠ row) (h2 : some bs ≠ row) (h3 : some x ≠ row) (h4 : some g ≠ row) (h5 : some 0 ≠ row) : Env w' bi bs x g S t i0 :=
  ⟨h.box_i.grown hg h1, h.box_s.grown hg h2, h.src.grown hg h3 h4, h.tab.keep (hg.block _ h.tab.lt h5)⟩
theorem Env.below {w w' : World} {bi bs x g : Nat} {S : List Nat} {t i0 : Nat} (h : Env w bi bs x g S t i0) (hb : Below w.heap.size w w') : Env w' bi bs x g S t i0 :=
  ⟨h.box_i.below hb h.box_i.lt, h.box_s.below hb h.box_s.lt, h.src.below hb, h.tab.below hb⟩
/-- What of the blocks that came is drawn. -/
def cut (sk n : Nat) (pre : List B32) : List Nat := ((pre.map (·.1)).flatten.drop sk).take n
theorem flat_len (pre : List B32) : (pre.map (·.1)).flatten.length = 32 * pre.length := by
  induction pre with
  | nil => rfl
  | cons x r ih => simp only [List.map_cons, List.flatten_cons, List.length_append, ih, x.2.1, List.length_cons]; omega
theorem cut_len (sk n : Nat) (pre : List B32) : (cut sk n pre).length = min n (32 * pre.length - sk) := by
  unfold cut; rw [List.length_take, List.length_drop, flat_len]
theorem cut_snoc (sk n : Nat) (pre : List B32) (x : B32) (hsk : sk < 32) (hp : pre = [] ∨ 32 * pre.length - sk < n) :
    cut sk n (pre ++ [x]) = cut sk n pre ++ (x.1.drop (if pre = [] then sk else 0)).take (n - (cut sk n pre).length) := by
  have hl := flat_len pre
  rw [cut_len]
  unfold cut
  rw [List.map_append, List.flatten_append]
  simp only [List.map_cons, List.map_nil, List.flatten_cons, List.flatten_nil, List.append_nil]
  by_cases he : pre = []
  · subst he; simp
  · have h1 : 0 < pre.length := List.length_pos_iff.2 he
    rcases hp with hp | hp
    · exact absurd hp he
    · rw [if_neg he, List.drop_zero, List.drop_append_of_le_length (by omega), List.take_append, List.length_drop, hl, show min n (32 * pre.length - sk) = 32 * pre.length - sk by omega]
theorem cut_drawn (S : List Nat) (t n : Nat) (pre : List B32) (hp : pre.map (·.1) = EM.parts S (t / 32) pre.length) (hn : n ≤ 32 * pre.length - t % 32) : cut (t % 32) n pre = EM.drawn S t n := by
  unfold cut
  rw [hp, EM.parts_drawn]
  by_cases h0 : n = 0
  · subst h0; rfl
  · rw [EM.drawn_cut _ _ _ _ _ (by omega), show 32 * (t / 32) + t % 32 = t by omega]
theorem lasts_size {B k : Nat} : Lasts B (fun w => k ≤ w.heap.size) := fun _ _ hi ⟨_, hg, _⟩ => Nat.le_trans hi hg.size
theorem keeps_below {B : Nat} {w w' : World} (h : Below w.heap.size w w') : KeepsFrom B w w' := ⟨h.size, fun k _ _ hk _ => (h.block k (Array.getElem?_eq_some_iff.1 hk).1).trans hk⟩
theorem keeps_own {B base : Nat} {v : Value} {l : List Nat} {w w' : World} (ho : Own w base v l) (h : w.grownBy w' v.ownBlock) : KeepsFrom B w w' :=
  ⟨h.size, fun k o _ hk hc => (h.block k (Array.getElem?_eq_some_iff.1 hk).1 (fun e => by
    rcases ho.1.2 with ⟨q, _⟩ | ⟨g, cap, cur, q, _, hh, _⟩
    · rw [q] at e; cases e
    · rw [q] at e
      obtain rfl : k = g := Option.some.inj e
      rw [hh] at hk; cases hk; cases hc)).trans hk⟩
set_option maxRecDepth 100000 in
set_option maxHeartbeats 2000000 in
theorem pdraw_ok (w : World) (x g : Nat) (S : List Nat) (t n : Nat) (hn : n ≤ 1024) (ht : t ≤ 1099511627776) (hf : S.length ≤ 140737488355328) (hs : Sc w x g S t) (hp : TabP w) :
    Calls Tryd.prog 8 #[.pointer (some ⟨x, 0, none⟩), .int .i64 (n : Int)] w fun e w' =>
      ∃ y, e = .returned (.tuple #[y, .int .i64 0]) ∧ Own w' w.heap.size y (EM.drawn S t n) ∧ Sc w' x g S (t + n) ∧ w.grownBy w' (some x) := by
  have HS := Lib.hid hs
  have HP := Lib.hid hp
  have b1 := (Below.refl w.heap.size w).alloc (Nat.le_refl _) (.cells #[.int .i64 (n : Int)] 3)
  have r1 := Blk.new w 3 [.int .i64 (n : Int)] _ rfl
  obtain ⟨W1, hW1⟩ : ∃ W, W = w.alloc (.cells #[.int .i64 (n : Int)] 3) := ⟨_, rfl⟩
  have hw1 : W1.heap.size = w.heap.size + 1 := by rw [hW1]; simp
  obtain ⟨Wm, hmk, om, bm, lm⟩ := run_make0 W1 w.heap.size (by omega) n hn
  rw [show W1.heap.size = w.heap.size + 1 from hw1] at hmk om
  rw [← hW1] at b1 r1
  rw [hW1] at hmk
  clear hs hp
  have hn0 : ¬ ((n : Int) < 0) := by omega
  have hn1 : ¬ (1024 < (n : Int)) := by omega
  refine callsIn_wide.1 (callsIn_of_wp_marks (n := 0) Tryd.func8 rfl trivial ?_)
  refine wpIn_wide.2 ?_
  simp only [Tryd.ntmps8, List.size_toArray, List.length_cons, List.length_nil, Nat.reduceAdd, Nat.reduceSub, Array.replicate_succ, Array.replicate_zero, List.push_toArray, List.append_toArray, List.nil_append, List.cons_append]
  go_upto_region 6 with (fail)
  have hmx : x < w.heap.size := HS.out.blk.lt
  have hgx : g < w.heap.size := HS.out.inn.lt
  obtain ⟨bd, hbd⟩ : ∃ b, b = Wm.heap.size := ⟨_, rfl⟩
  obtain ⟨am, ham⟩ : ∃ b, b = w.heap.size + 1 := ⟨_, rfl⟩
  obtain ⟨W2, hW2⟩ : ∃ W, W = Wm.alloc (.cells #[.slice (some ⟨am, 0, none⟩) 0 n] 22) := ⟨_, rfl⟩
  rw [← ham] at om hmk
  have d2 : Blk W2 bd 22 [.slice (some ⟨am, 0, none⟩) 0 n] := by rw [hW2]; exact Blk.new Wm _ [_] _ hbd
  have o2 : Own W2 w.heap.size (.slice (some ⟨am, 0, none⟩) 0 n) [] := by rw [hW2]; exact om.alloc _
  have n2 : Blk W2 w.heap.size 3 [.int .i64 (n : Int)] := by rw [hW2]; exact (r1.below bm (by omega)).alloc _
  have b2 : Below w.heap.size w W2 := by rw [hW2]; exact (b1.on bm).alloc (b1.on bm).size _
  have hz2 : W2.heap.size = bd + 1 := by rw [hW2, hbd]; simp
  have s2 := HS.out.below b2
  have x2 := s2.blk.cell 1 _ rfl
  rw [← ham, ← hbd, ← hW2]
  have D2 := Lib.hid d2
  have O2 := Lib.hid o2
  have N2 := Lib.hid n2
  have B2 := Lib.hid b2
  have S2 := Lib.hid s2
  have HAM := Lib.hid ham
  have HLM := Lib.hid (show w.heap.size + 1 < bd by omega)
  clear d2 o2 n2 b2 s2 ham hbd hW2 hmk om bm lm r1 b1 hW1 hw1
  obtain ⟨sk, hsk⟩ : ∃ k, k = t % 32 := ⟨_, rfl⟩
  obtain ⟨i0, hi0⟩ : ∃ k, k = t / 32 := ⟨_, rfl⟩
  have q1 : (t : Int) % 32 = (sk : Int) := by omega
  have q2 : (t : Int) / 32 = (i0 : Int) := by omega
  have HSK := Lib.hid hsk
  have HI0 := Lib.hid hi0
  clear hsk hi0
  have r3 := D2.out.alloc (.cells #[.int .i64 (sk : Int)] 3)
  have k3 := Blk.new W2 3 [.int .i64 (sk : Int)] (bd + 1) hz2.symm
  have x3 := (S2.out.blk.alloc (.cells #[.int .i64 (sk : Int)] 3)).cell 1 _ rfl
  have R3 := Lib.hid r3
  have K3 := Lib.hid k3
  clear r3 k3
  have HBL := Lib.hid (fun (W : World) => pblocks_any W x i0)
  go_wp2_with (go_at_call 15; refine (HBL.out _).mono ?_; rintro e w4 ⟨bs, bi, hbs, hbi, rfl, p4, i4, b4, z4⟩; have HBS := Lib.hid hbs; have HBI := Lib.hid hbi; have P4 := Lib.hid p4; have I4 := Lib.hid i4; have B4 := Lib.hid b4; have Z4 := Lib.hid z4; clear hbs hbi p4 i4 b4 z4)
  have hbx3 := HBS.out
  have hbi3 := HBI.out
  rw [World.size_alloc, hz2] at hbx3 hbi3
  have HZ4 := Lib.hid (show w4.heap.size = bd + 4 by have := Z4.out; rw [World.size_alloc, hz2] at this; omega)
  have b4 := B4.out
  have D4 := Lib.hid (R3.out.below b4 R3.out.lt)
  have K4 := Lib.hid (K3.out.below b4 K3.out.lt)
  have N4 := Lib.hid ((N2.out.alloc (.cells #[.int .i64 (sk : Int)] 3)).below b4 (N2.out.alloc (.cells #[.int .i64 (sk : Int)] 3)).lt)
  have O4 := Lib.hid ((O2.out.alloc (.cells #[.int .i64 (sk : Int)] 3)).below b4)
  have S4 := Lib.hid ((S2.out.alloc (.cells #[.int .i64 (sk : Int)] 3)).below b4)
  have BW4 := Lib.hid ((B2.out.alloc B2.out.size (.cells #[.int .i64 (sk : Int)] 3)).on b4)
  have E4 := Lib.hid (show Env w4 bi bs x g S t i0 from ⟨I4.out, P4.out, S4.out, HP.out.below BW4.out⟩)
  have HS32 := Lib.hid (show sk < 32 by have := HSK.out; omega)
  have HBX := Lib.hid hbx3
  have HBI2 := Lib.hid hbi3
  clear b4 x2 x3 hn0 hn1 q1 q2 HBL hbx3 hbi3
  refine wp_range_fn (α := B32) (gf := 20) (lb := #[.pointer (some ⟨bi, 0, none⟩), .pointer (some ⟨bs, 0, none⟩)]) rfl (enters_of Tryd.func20 (by kernel_rfl) rfl) encB (fun _ => rfl)
    (fun pre W => (pre = [] ∨ 32 * pre.length - sk < n) ∧ Blk W (bd + 1) 3 [.int .i64 ((if pre = [] then sk else 0 : Nat) : Int)] ∧ Blk W w.heap.size 3 [.int .i64 (n : Int)] ∧ Env W bi bs x g S t i0 ∧ Below w.heap.size w W ∧ w4.heap.size ≤ W.heap.size ∧
      ∃ v, Blk W bd 22 [v] ∧ Own W w.heap.size v (cut sk n pre) ∧ ∀ k, v.ownBlock = some k → k = am ∨ w4.heap.size ≤ k)
    (fun c pre W => c = .exit 1 ∧ n ≤ 32 * pre.length - sk ∧ Blk W w.heap.size 3 [.int .i64 (n : Int)] ∧ Env W bi bs x g S t i0 ∧ Below w.heap.size w W ∧ w4.heap.size ≤ W.heap.size ∧
      ∃ v, Blk W bd 22 [v] ∧ Own W w.heap.size v (cut sk n pre) ∧ ∀ k, v.ownBlock = some k → k = am ∨ w4.heap.size ≤ k)
    (fun a x b W => ∃ Bx, w4.heap.size ≤ Bx ∧ Blk W Bx 39 (row8 x.1) ∧ b = { tmps := (a.tmps.setIfInBounds 34 (.agg (row8 x.1).toArray)).setIfInBounds 8 (.pointer (some ⟨Bx, 0, none⟩)), defers := [] })
    (fun _ => False) (fun pre => pre.map (·.1) = EM.parts S i0 pre.length) ?hI ?hIx ?hAx ?h0 ?hseq ?assign ?body ?done ?stop
  case hI => exact fun pre => (Lasts.pure _).and (lasts_blk.and (lasts_blk.and (lasts_env.and ((lasts_below BW4.out.size).and (lasts_size.and (Lasts.ex fun v => lasts_blk.and (lasts_own.and (Lasts.pure _))))))))
  case hIx => exact fun c pre => (Lasts.pure _).and ((Lasts.pure _).and (lasts_blk.and (lasts_env.and ((lasts_below BW4.out.size).and (lasts_size.and (Lasts.ex fun v => lasts_blk.and (lasts_own.and (Lasts.pure _))))))))
  case hAx => exact fun x b => Lasts.ex fun Bx => (Lasts.pure _).and (lasts_blk.and (Lasts.pure _))
  case h0 => exact ⟨.inl rfl, K4.out, N4.out, E4.out, BW4.out, Nat.le_refl _, _, D4.out, by have := O4.out; rwa [show cut sk n [] = [] by simp [cut]], fun k hk => .inl (Option.some.inj hk).symm⟩
  case hseq =>
    intro l J Jx W _ hJI hJg _ hY h0
    refine (piter_any 40 bi bs x g S t i0 hf (by have := HI0.out; omega) l J Jx W (fun pre A hj => ⟨(hJI pre A hj).2.2.2.1, ?_⟩) hJg hY h0).mono fun e W' h => ⟨h.1, .inr h.2⟩
    rcases (hJI pre A hj).1 with q | q
    · subst q; simp
    · have := HS32.out; omega
  case assign =>
    rintro l pre y W K ⟨h1, k1, n1, e1, b1, z1, v, d1, o1, hv⟩ hK
    refine wpIn_list_round (by kernel_rfl) (fun ⟨_, _, h⟩ => h) ?_
    obtain ⟨D0, hD0⟩ : ∃ D, D = row8 (List.replicate 32 0) := ⟨_, rfl⟩
    have hz : ∀ w, (zeroValue 39).run Tryd.prog w = .ok (.agg D0.toArray) w := by rw [hD0]; exact zeroSum
    have hd0 : D0.length = 32 := by rw [hD0, row8_len, List.length_replicate]
    have hyl : (row8 y.1).length = 32 := by rw [row8_len]; exact y.2.1
    have BY := Lib.hid y.2
    generalize hY : y.1 = Y at *
    have hK2 := fun W' (hb : Below W.heap.size W W') (hx : Blk W' W.heap.size 39 (row8 Y)) => hK _ W' (keeps_below hb) ⟨h1, k1.below hb k1.lt, n1.below hb n1.lt, e1.below hb, b1.on hb, Nat.le_trans z1 hb.size, v, d1.below hb d1.lt, o1.below hb, hv⟩ ⟨_, z1, hx, rfl⟩
    clear hK h1 k1 n1 e1 b1 d1 o1 hv hD0
    simp only [List.setIfInBounds_toArray, List.set_cons_zero, List.set_cons_succ] at hK2
    have HK2 := Lib.hid hK2
    clear hK2
    go_wp2_with (refine wpList_store_blk rfl 39 (.tmp 8) (.tmp 34) rfl W.heap.size 0 (row8 Y) rfl rfl 39 D0 (Blk.new W 39 D0 _ rfl) (by rw [hyl, hd0]; exact Nat.le_refl _) (by rw [hyl]; exact infoS) (row8_one _) ?_; intro w3 b3 g3; rw [splice_all _ _ (by rw [hyl, hd0])] at b3; have K3 := Lib.hid b3; have B3 := Lib.hid (own_turn (Below.refl W.heap.size W) g3); clear b3 g3)
    simp only [put_none]
    exact HK2.out _ B3.out K3.out
  case body =>
    rintro l pre y b W ⟨h1, k1, n1, e1, b1, z1, v, d1, o1, hv⟩ ⟨Bx, hBx, bX, rfl⟩
    have hyb := y.2
    have HCS := Lib.hid (cut_snoc sk n pre y HS32.out h1)
    obtain ⟨Y, hY⟩ : ∃ Y, Y = y.1 := ⟨_, rfl⟩
    rw [← hY] at bX hyb
    obtain ⟨k, hk⟩ : ∃ k, k = if pre = [] then sk else 0 := ⟨_, rfl⟩
    obtain ⟨L, hL⟩ : ∃ L, L = cut sk n pre := ⟨_, rfl⟩
    rw [← hk] at k1
    rw [← hL] at o1
    rw [← hY, ← hk, ← hL] at HCS
    have hk32 : k < 32 := by rw [hk]; have := HS32.out; split <;> omega
    have hLn : L.length ≤ n := by rw [hL, cut_len]; omega
    obtain ⟨ao, cap, rfl, hcap⟩ := o1.rd.shape
    have ck := k1.cell 0 _ rfl
    have cn := n1.cell 0 _ rfl
    have cd := d1.cell 0 _ rfl
    have HY := Lib.hid hY
    have HK := Lib.hid hk
    have HL := Lib.hid hL
    have H1 := Lib.hid h1
    have K1 := Lib.hid k1
    have N1 := Lib.hid n1
    have E1 := Lib.hid e1
    have B1 := Lib.hid b1
    have Z1 := Lib.hid z1
    have D1 := Lib.hid d1
    have O1 := Lib.hid o1
    have HV := Lib.hid hv
    have BX := Lib.hid bX
    have HYB := Lib.hid hyb
    clear hY hk hL h1 k1 n1 e1 b1 z1 d1 o1 hv bX hyb
    simp only [List.setIfInBounds_toArray, List.set_cons_zero, List.set_cons_succ]
    have hk1 : (0 : Int) ≤ (k : Int) := by omega
    have hk2 : (k : Int) ≤ 32 := by omega
    gi_wp2
    obtain ⟨r, hr⟩ : ∃ r, r = 32 - k := ⟨_, rfl⟩
    obtain ⟨q, hq⟩ : ∃ q, q = n - L.length := ⟨_, rfl⟩
    obtain ⟨m, hm⟩ : ∃ m, m = min r q := ⟨_, rfl⟩
    obtain ⟨c, hc⟩ : ∃ c, c = L.length := ⟨_, rfl⟩
    have hdl : (Y.drop k).length = r := by rw [List.length_drop, HYB.out.1, hr]
    have RM := Lib.hid (blk_rd_at BX.out HYB.out.2 k m r (by rw [HYB.out.1]; omega) (by omega) (by rw [HYB.out.1]; omega))
    have HCM := Lib.hid (show cut sk n (pre ++ [y]) = L ++ (Y.drop k).take m by
      rw [HCS.out, ← hq]
      congr 1
      by_cases hrq : r ≤ q
      · rw [hm, Nat.min_eq_left hrq, List.take_of_length_le (by omega), List.take_of_length_le (by omega)]
      · rw [hm, Nat.min_eq_right (by omega)])
    have HR := Lib.hid hr
    have HM := Lib.hid hm
    rw [← hr]
    rw [← hc] at cd hq hLn hcap
    have hlen : L.length = c := hc.symm
    have f1 : (n : Int) - (c : Int) = (q : Int) := by omega
    have f2 : (if q < r then (q : Int) else (r : Int)) = (m : Int) := by split <;> omega
    have f3 : (m : Int) ≤ (r : Int) := by omega
    have f4 : q ≤ 1024 := by omega
    have f5 : r ≤ 32 := by omega
    have HCD := Lib.hid cd
    have HCN := Lib.hid cn
    have HMQ := Lib.hid (show m ≤ q by omega)
    have HQ := Lib.hid hq
    clear hr hm hdl hc hq
    have f6 : IntKind.i64.wrap (q : Int) = (q : Int) := by rw [IntKind.wrap_i64]; omega
    refine wpIn_region_round (by kernel_rfl) (by kernel_rfl) (fun ⟨_, _, h⟩ => h) ?_
    refine any_g 10 (by decide) (by kernel_rfl) (by kernel_rfl) (by kernel_rfl) W.heap.size (Nat.le_refl _) [.val (.slice ao c cap), .val (.slice (some ⟨Bx, k, none⟩) r r), .val (.slice (some ⟨Bx, k, none⟩) r r), .val (.int .i64 (r : Int)), .val (.int .i64 (n : Int)), .val (.slice ao c cap), .val (.int .i64 (c : Int)), .val (.int .i64 (q : Int)), .val (.int .i64 (m : Int)), .val (.slice (some ⟨Bx, k, none⟩) m r)] (fun _ => 12) ?_ ?_
    · refine ⟨?_, ?_, ?_, ?_, ?_, ?_, ?_, ?_, ?_, ?_, trivial⟩
      · intro a w' hF hB hd
        have e6 : a.eval (.tmp 6) = .pointer (some ⟨bd, 0, none⟩) := hF 6 (by decide +kernel)
        have c1 := (D1.out.below hB D1.out.lt).cell 0 _ rfl
        rw [hlen] at c1
        exact doesG_val (v := .slice ao c cap) rfl (by unfold execOp; simp only [e6]; go_simp) rfl rfl
      · intro a w' hF hB hd
        have e9 : a.eval (.tmp 9) = .slice (some ⟨Bx, k, none⟩) r r := hF 9 (by decide +kernel)
        exact doesG_val rfl (ex_move rfl e9) rfl rfl
      · intro a w' hF hB hd
        have e9 : a.eval (.tmp 9) = .slice (some ⟨Bx, k, none⟩) r r := hF 9 (by decide +kernel)
        exact doesG_val rfl (ex_move rfl e9) rfl rfl
      · intro a w' hF hB hd
        have e39 : a.eval (.tmp 39) = .slice (some ⟨Bx, k, none⟩) r r := hd 2 (by decide +kernel) (.inr (by decide))
        have f39 : a.tmps[39]?.getD undef = .slice (some ⟨Bx, k, none⟩) r r := by rw [← Array.getD_eq_getD_getElem?]; exact e39
        exact doesG_val (v := .int .i64 (r : Int)) rfl (by unfold execOp; go_simp) rfl rfl
      · intro a w' hF hB hd
        have e3 : a.eval (.tmp 3) = .pointer (some ⟨w.heap.size, 0, none⟩) := hF 3 (by decide +kernel)
        have c1 := (N1.out.below hB N1.out.lt).cell 0 _ rfl
        exact doesG_val (v := .int .i64 (n : Int)) rfl (by unfold execOp; simp only [e3]; go_simp) rfl rfl
      · intro a w' hF hB hd
        have e6 : a.eval (.tmp 6) = .pointer (some ⟨bd, 0, none⟩) := hF 6 (by decide +kernel)
        have c1 := (D1.out.below hB D1.out.lt).cell 0 _ rfl
        rw [hlen] at c1
        exact doesG_val (v := .slice ao c cap) rfl (by unfold execOp; simp only [e6]; go_simp) rfl rfl
      · intro a w' hF hB hd
        have e42 : a.eval (.tmp 42) = .slice ao c cap := hd 5 (by decide +kernel) (.inr (by decide))
        have f42 : a.tmps[42]?.getD undef = .slice ao c cap := by rw [← Array.getD_eq_getD_getElem?]; exact e42
        exact doesG_val (v := .int .i64 (c : Int)) rfl (by unfold execOp; go_simp) rfl rfl
      · intro a w' hF hB hd
        have e41 : a.eval (.tmp 41) = .int .i64 (n : Int) := hd 4 (by decide +kernel) (.inr (by decide))
        have e43 : a.eval (.tmp 43) = .int .i64 (c : Int) := hd 6 (by decide +kernel) (.inr (by decide))
        exact doesG_val rfl (ex_binOp rfl e41 e43 (by go_simp) (by go_simp)) rfl rfl
      · intro a w' hF hB hd
        have e40 : a.eval (.tmp 40) = .int .i64 (r : Int) := hd 3 (by decide +kernel) (.inr (by decide))
        have e44 : a.eval (.tmp 44) = .int .i64 (q : Int) := hd 7 (by decide +kernel) (.inr (by decide))
        have f40 : a.tmps[40]?.getD undef = .int .i64 (r : Int) := by rw [← Array.getD_eq_getD_getElem?]; exact e40
        have f44 : a.tmps[44]?.getD undef = .int .i64 (q : Int) := by rw [← Array.getD_eq_getD_getElem?]; exact e44
        exact doesG_val (v := .int .i64 (m : Int)) rfl (by unfold execOp; go_simp) rfl rfl
      · intro a w' hF hB hd
        have e38 : a.eval (.tmp 38) = .slice (some ⟨Bx, k, none⟩) r r := hd 1 (by decide +kernel) (.inr (by decide))
        have e45 : a.eval (.tmp 45) = .int .i64 (m : Int) := hd 8 (by decide +kernel) (.inr (by decide))
        have f38 : a.tmps[38]?.getD undef = .slice (some ⟨Bx, k, none⟩) r r := by rw [← Array.getD_eq_getD_getElem?]; exact e38
        have f45 : a.tmps[45]?.getD undef = .int .i64 (m : Int) := by rw [← Array.getD_eq_getD_getElem?]; exact e45
        exact doesG_val (v := .slice (some ⟨Bx, k, none⟩) m r) rfl (by unfold execOp; simp only [e38]; go_simp) rfl rfl
    · intro vs w5 hB hv hap
      have e0 : vs 0 = .slice ao c cap := hv 0 (by omega) (by omega)
      have e9 : vs 9 = .slice (some ⟨Bx, k, none⟩) m r := hv 9 (by omega) (by omega)
      simp only [List.take_succ_cons, List.take_zero, List.drop_succ_cons, List.drop_zero, putOps, Act.put, List.setIfInBounds_toArray, List.set_cons_zero, List.set_cons_succ, e0, e9]
      have HWB := Lib.hid hB
      have hsz := hB.size
      have o5 := O1.out.below hB
      have r5 := RM.out.below hB
      have d5 := D1.out.below hB D1.out.lt
      rw [hlen] at o5 d5
      have hv5 := HV.out
      rw [hlen] at hv5
      have O5 := Lib.hid o5
      have R5 := Lib.hid r5
      have D5 := Lib.hid d5
      have HV5 := Lib.hid hv5
      have HML := Lib.hid (show ((Y.drop k).take m).length = m by rw [List.length_take, List.length_drop, HYB.out.1]; have := HM.out; have := HR.out; omega)
      have NE := Lib.hid (fun (j : Nat) (h1 : j ≠ am) (h2 : j < w4.heap.size) => (show some j ≠ (Value.slice ao c cap).ownBlock from fun e => (HV5.out j e.symm).elim h1 (by omega)))
      have HZ5 := Lib.hid (show w4.heap.size ≤ w5.heap.size from Nat.le_trans Z1.out hsz)
      clear hv hap hB e0 e9 o5 r5 d5 hv5 hsz
      go_upto_region 11 with (first
        | (refine wpList_app rfl (.tmp 37) (.tmp 46) rfl w.heap.size (.slice ao c cap) (.slice (some ⟨Bx, k, none⟩) m r) L ((Y.drop k).take m) rfl rfl O5.out R5.out (by rw [hlen, HML.out]; omega) (Nat.le_trans B1.out.size HWB.out.size) ?_; intro v6 w6 o6 g6 h6; obtain ⟨a6, c6, rfl, _⟩ := o6.rd.shape; rw [List.length_append, hlen, HML.out] at o6 h6 ⊢; have d6 := D5.out.grown g6 (NE.out bd (by have := HAM.out; have := HLM.out; omega) (by have := HZ4.out; omega)); have cd6 := d6.cell 0 _ rfl; have fd6 := d6.free 0; have O6 := Lib.hid o6; have G6 := Lib.hid g6; have H6 := Lib.hid h6; have D6 := Lib.hid d6; clear o6 g6 h6 d6))
      have hbd := HLM.out
      have hz4 := HZ4.out
      have ham := HAM.out
      have hz5 := HZ5.out
      have hb3 := HBX.out
      have hb4 := HBI2.out
      have hct := HP.out.lt
      obtain ⟨V6, hV6⟩ : ∃ V, V = Value.slice a6 (c + m) c6 := ⟨_, rfl⟩
      have k6 := ((K1.out.below HWB.out K1.out.lt).grown G6.out (NE.out (bd + 1) (by omega) (by omega)))
      have n6 := ((N1.out.below HWB.out N1.out.lt).grown G6.out (NE.out w.heap.size (by omega) (by omega)))
      have e6 := ((E1.out.below HWB.out).grown G6.out (NE.out _ (by omega) (by omega)) (NE.out _ (by omega) (by omega)) (NE.out _ (by omega) (by omega)) (NE.out _ (by omega) (by omega)) (NE.out _ (by omega) (by omega)))
      have b6 := (B1.out.on HWB.out).grown G6.out (B1.out.on HWB.out).size (fun j hj => (O5.out.from j hj).1)
      have kf6 : KeepsFrom w4.heap.size W w6 := (keeps_below HWB.out).trans (keeps_own O5.out G6.out)
      have o6 := O6.out
      have hs6 := G6.out.size
      have hv6 : ∀ j, V6.ownBlock = some j → j = am ∨ w4.heap.size ≤ j := fun j hj => by
        rw [hV6] at hj
        rcases H6.out with q | q
        · exact HV5.out j (by rw [← q]; exact hj)
        · rw [q] at hj; have := Option.some.inj hj; right; omega
      have hbv : V6.ownBlock ≠ some bd := fun e => (hv6 bd e).elim (by omega) (by omega)
      rw [← hV6] at o6
      obtain ⟨w7, hw7⟩ : ∃ W, W = w6.setCell ⟨bd, 0, none⟩ V6 := ⟨_, rfl⟩
      have hg7 : w6.grownBy w7 (some bd) := by rw [hw7]; exact grownBy_setCell' w6 _ _
      have d7 : Blk w7 bd 22 [V6] := by rw [hw7]; exact D6.out.set 0 V6
      have k7 := k6.grown hg7 (by simp)
      have n7 := n6.grown hg7 (by simp; omega)
      have e7 := e6.grown hg7 (by simp; omega) (by simp; omega) (by simp; omega) (by simp; omega) (by simp; omega)
      have b7 := b6.grown hg7 b6.size (fun j hj => by have := Option.some.inj hj; omega)
      have kf7 : KeepsFrom w4.heap.size W w7 := kf6.trans (by rw [hw7]; exact (KeepsOthers.setCell _ _ _).from _)
      have o7 := o6.keep hg7 (.inr hbv)
      have z7 : w4.heap.size ≤ w7.heap.size := Nat.le_trans (Nat.le_trans hz5 hs6) hg7.size
      rw [← HCM.out] at o7
      have hcl := cut_len sk n (pre ++ [y])
      rw [HCM.out, List.length_append, hlen, HML.out, List.length_append] at hcl
      have hcl2 : c + m = min n (32 * (pre.length + 1) - sk) := hcl
      rw [← hV6, ← hw7]
      have cd7 := d7.cell 0 _ rfl
      have cn7 := n7.cell 0 _ rfl
      have ck7 := k7.cell 0 _ rfl
      have fk7 := k7.free 0
      rw [hV6] at cd7
      have D7 := Lib.hid d7
      have K7 := Lib.hid k7
      have N7 := Lib.hid n7
      have E7 := Lib.hid e7
      have B7 := Lib.hid b7
      have KF7 := Lib.hid kf7
      have O7 := Lib.hid o7
      have Z7 := Lib.hid z7
      have HV7 := Lib.hid hv6
      have HCL := Lib.hid hcl2
      have HBV := Lib.hid hbv
      clear d7 k7 n7 e7 b7 kf7 o7 z7 hv6 hcl hcl2 k6 n6 e6 b6 kf6 o6 hbd hz4 ham hz5 hb3 hb4 hct hw7 hg7 hV6 hbv cd6 fd6 hs6
      by_cases hfull : c + m = n
      · have hq1 : ((c : Int) + (m : Int) == (n : Int)) = true := by simp; omega
        have hq2 : (c : Int) + (m : Int) = (n : Int) := by omega
        gi_wp2
        have hcl := HCL.out
        exact ⟨KF7.out, rfl, by rw [List.length_append]; show n ≤ 32 * (pre.length + 1) - sk; omega, N7.out, E7.out, B7.out, Z7.out, V6, D7.out, O7.out, HV7.out⟩
      · have hq1 : ((c : Int) + (m : Int) == (n : Int)) = false := by simp; omega
        have hq2 : ¬ ((c : Int) + (m : Int) = (n : Int)) := by omega
        gi_wp2
        have hcl := HCL.out
        have hbd := HLM.out
        have hz4 := HZ4.out
        have ham := HAM.out
        have hb3 := HBX.out
        have hb4 := HBI2.out
        have hct := HP.out.lt
        have g8 := grownBy_setCell' w7 (bd + 1) (.int .i64 0)
        refine ⟨KF7.out.trans ((KeepsOthers.setCell _ _ _).from _), .inr (by rw [List.length_append]; show 32 * (pre.length + 1) - sk < n; omega), by rw [if_neg (by simp)]; exact K7.out.set 0 (.int .i64 0), N7.out.grown g8 (by intro e; have := Option.some.inj e; omega), E7.out.grown g8 (by intro e; have := Option.some.inj e; omega) (by intro e; have := Option.some.inj e; omega) (by intro e; have := Option.some.inj e; omega) (by intro e; have := Option.some.inj e; omega) (by intro e; have := Option.some.inj e; omega),
          B7.out.grown g8 B7.out.size (fun j hj => by have := Option.some.inj hj; omega), Nat.le_trans Z7.out g8.size, V6, D7.out.grown g8 (by intro e; have := Option.some.inj e; omega), O7.out.keep g8 (.inr (fun e => (HV7.out (bd + 1) e).elim (by omega) (by omega))), HV7.out⟩
  case done => exact fun _ _ h => h.elim
  case stop =>
    rintro c pre W hS ⟨rfl, hle, n1, e1, b1, z1, v, d1, o1, hv⟩ hD
    have hcd := cut_drawn S t n pre (by rw [← HI0.out]; exact hS) (by rw [← HSK.out]; exact hle)
    rw [← HSK.out] at hcd
    rw [hcd] at o1
    have cx := e1.src.blk.cell 1 _ rfl
    have fx := e1.src.blk.free 1
    have cn := n1.cell 0 _ rfl
    have cd := d1.cell 0 _ rfl
    go_upto_region 13 with (fail)
    have q0 : (0 : Int) ≤ (t : Int) := by omega
    have q1 : (t : Int) ≤ 1099511627776 := by omega
    have q2 : (n : Int) ≤ 1024 := by omega
    go_region
    have hbd := HLM.out
    have hz4 := HZ4.out
    have g8 : W.grownBy (W.setCell ⟨x, 1, none⟩ (.int .i64 ((t : Int) + (n : Int)))).drew (some x) := by
      have h := only_set (World.grownBy.refl W (some x)) (p := ⟨x, 1, none⟩) (.inl rfl) (.int .i64 ((t : Int) + (n : Int)))
      exact ⟨h.os, h.tape, h.output, h.size, h.block⟩
    obtain ⟨w8, hw8⟩ : ∃ W', W' = (W.setCell ⟨x, 1, none⟩ (.int .i64 ((t : Int) + (n : Int)))).drew := ⟨_, rfl⟩
    rw [← hw8] at g8 ⊢
    have cd8 := (d1.grown g8 (by intro e; have := Option.some.inj e; omega)).cell 0 _ rfl
    have s8 : Sc w8 x g S (t + n) := ⟨by rw [hw8]; exact e1.src.blk.set 1 (.int .i64 ((t + n : Nat) : Int)), e1.src.inn.grown g8 (by intro e; exact e1.src.ne (Option.some.inj e)), e1.src.ne⟩
    have o8 : Own w8 w.heap.size v (EM.drawn S t n) := o1.keep g8 (by
      cases q : v.ownBlock with
      | none => exact .inl rfl
      | some j => right; intro e; have := Option.some.inj e; have := (o1.from j q).1; omega)
    have gg8 : w.grownBy w8 (some x) := only_trans (grown_of_below b1 (some x)) g8
    have hD8 : w8.heap[w4.heap.size]? = some (.deferred (some [])) := (g8.block _ (Array.getElem?_eq_some_iff.1 hD).1 (by intro e; have := Option.some.inj e; omega)).trans hD
    have S8 := Lib.hid s8
    have O8 := Lib.hid o8
    have G8 := Lib.hid gg8
    have HD8 := Lib.hid hD8
    clear hw8 g8 s8 o8 gg8 hD8 cx fx cn cd d1 o1 e1 n1 b1 hD hcd hS
    go_wp2_with fail
    refine ⟨by simp, .inl ⟨_, _, rfl, run_takeDeferred HD8.out, ?_⟩⟩
    have hx := HD8.out
    have g9 := G8.out
    have hlt : w.heap.size ≤ w4.heap.size := BW4.out.size
    exact ⟨_, results_tmp2 rfl _ _ _, v, rfl, lasts_own.put (B := 0) _ O8.out (Nat.zero_le _) hx rfl, ⟨lasts_blk.put (B := 0) _ S8.out.blk (Nat.zero_le _) hx rfl, lasts_hs.put (B := 0) _ S8.out.inn (Nat.zero_le _) hx rfl, S8.out.ne⟩,
      ⟨g9.os, g9.tape, g9.output, by rw [World.putObj_size]; exact g9.size, fun k hk hne => (World.putObj_heap_other (by omega)).trans (g9.block k hk hne)⟩⟩
theorem pdraw_nil (w : World) (n : Int) : Calls Tryd.prog 8 #[.pointer none, .int .i64 n] w fun e w' => e = .returned (.tuple #[.slice none 0 0, .int .i64 1]) ∧ Below w.heap.size w w' := by
  refine callsIn_wide.1 (callsIn_of_wp_marks (n := 0) Tryd.func8 rfl trivial ?_)
  refine wpIn_wide.2 ?_
  simp only [Tryd.ntmps8, List.size_toArray, List.length_cons, List.length_nil, Nat.reduceAdd, Nat.reduceSub, Array.replicate_succ, Array.replicate_zero, List.push_toArray, List.append_toArray, List.nil_append, List.cons_append]
  go_wp2_with fail
  exact ⟨_, results_tmp2 rfl _ _ _, rfl, (Below.refl _ w).alloc (Nat.le_refl _) _⟩
theorem pdraw_bad (w : World) (x : Nat) (n : Int) (hn : n < 0 ∨ 1024 < n) : Calls Tryd.prog 8 #[.pointer (some ⟨x, 0, none⟩), .int .i64 n] w fun e w' => e = .returned (.tuple #[.slice none 0 0, .int .i64 2]) ∧ Below w.heap.size w w' := by
  by_cases h0 : n < 0
  · refine callsIn_wide.1 (callsIn_of_wp_marks (n := 0) Tryd.func8 rfl trivial ?_)
    refine wpIn_wide.2 ?_
    simp only [Tryd.ntmps8, List.size_toArray, List.length_cons, List.length_nil, Nat.reduceAdd, Nat.reduceSub, Array.replicate_succ, Array.replicate_zero, List.push_toArray, List.append_toArray, List.nil_append, List.cons_append]
    clear hn
    go_wp2_with fail
    exact ⟨_, results_tmp2 rfl _ _ _, rfl, (Below.refl _ w).alloc (Nat.le_refl _) _⟩
  · have h1 : 1024 < n := by omega
    refine callsIn_wide.1 (callsIn_of_wp_marks (n := 0) Tryd.func8 rfl trivial ?_)
    refine wpIn_wide.2 ?_
    simp only [Tryd.ntmps8, List.size_toArray, List.length_cons, List.length_nil, Nat.reduceAdd, Nat.reduceSub, Array.replicate_succ, Array.replicate_zero, List.push_toArray, List.append_toArray, List.nil_append, List.cons_append]
    clear hn
    go_wp2_with fail
    exact ⟨_, results_tmp2 rfl _ _ _, rfl, (Below.refl _ w).alloc (Nat.le_refl _) _⟩
end Go.Proofs.YtdiljngokbfpcaaDoor

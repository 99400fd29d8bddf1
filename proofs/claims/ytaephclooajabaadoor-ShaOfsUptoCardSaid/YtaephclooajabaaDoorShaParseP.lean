/- A sum read out of its digits, in the program: contract. Own work. -/
import Derived.Test.YtaephclooajabaaDoorShaParse
import Derived.WalkMore
namespace Go.Proofs.YtaephclooajabaaDoor
open Go.ChangeShapes Go.WideShapes Go.ChangeAt Go.RowKit
namespace SM
/-- What the first i digits make. -/
def half (l : List Nat) (i : Nat) : List Nat := (List.range 32).map fun j => if 2 * j + 1 < i then pb l j else if 2 * j < i then (dg (gb l (2 * j))).toNat else 0
theorem half_len (l : List Nat) (i : Nat) : (half l i).length = 32 := by simp [half]
theorem half_zero (l : List Nat) : half l 0 = List.replicate 32 0 := rfl
theorem half_all (l : List Nat) : half l 64 = parK l 32 := by
  unfold half parK
  apply List.map_congr_left
  intro j hj
  have : j < 32 := by simpa using hj
  rw [if_pos (by omega), if_pos (by omega)]
theorem dg_hd : ∀ v, v < 16 → dg (hd v) = v := by
  intro v hv
  have : v = 0 ∨ v = 1 ∨ v = 2 ∨ v = 3 ∨ v = 4 ∨ v = 5 ∨ v = 6 ∨ v = 7 ∨ v = 8 ∨ v = 9 ∨ v = 10 ∨ v = 11 ∨ v = 12 ∨ v = 13 ∨ v = 14 ∨ v = 15 := by omega
  rcases this with rfl | rfl | rfl | rfl | rfl | rfl | rfl | rfl | rfl | rfl | rfl | rfl | rfl | rfl | rfl | rfl <;> rfl
theorem dg_none (c : Nat) (h : ∀ u, u < 16 → c ≠ hd u) : dg c = -1 := by
  unfold dg
  by_cases h1 : 48 ≤ c ∧ c ≤ 57
  · exact absurd (show c = hd (c - 48) by unfold hd; rw [if_pos (by omega)]; omega) (h (c - 48) (by omega))
  · rw [if_neg h1]
    by_cases h2 : 97 ≤ c ∧ c ≤ 102
    · exact absurd (show c = hd (c - 87) by unfold hd; rw [if_neg (by omega)]; omega) (h (c - 87) (by omega))
    · rw [if_neg h2]
theorem or_low (a b : Nat) (ha : a < 16) (hb : b < 16) : a * 16 % 256 ||| b = a * 16 + b := by
  have : ∀ a b : Fin 16, a.1 * 16 % 256 ||| b.1 = a.1 * 16 + b.1 := by decide
  exact this ⟨a, ha⟩ ⟨b, hb⟩
/-- The byte that digit i makes of the one that is there. -/
def nxt (l : List Nat) (i v : Nat) : Nat := gb (half l i) (i / 2) * 16 % 256 ||| v
theorem gb_half (l : List Nat) (i j : Nat) (hj : j < 32) : gb (half l i) j = if 2 * j + 1 < i then pb l j else if 2 * j < i then (dg (gb l (2 * j))).toNat else 0 := by
  unfold half; rw [gb_map, if_pos hj]
theorem half_step (l : List Nat) (i v : Nat) (hi : i < 64) (hv : v < 16) (hd' : dg (gb l i) = v) (hpos : ∀ j, j < i → 0 ≤ dg (gb l j)) : (half l i).set (i / 2) (nxt l i v) = half l (i + 1) := by
  apply bytes_ext (n := 32) (by rw [List.length_set, half_len]) (half_len _ _)
  intro k hk
  rw [gb_set _ _ _ _ (by rw [half_len]; omega), gb_half _ _ _ hk, gb_half _ _ _ hk]
  by_cases e : i / 2 = k
  · rw [if_pos e]
    unfold nxt
    rw [gb_half _ _ _ (by omega)]
    by_cases ho : i % 2 = 0
    · rw [if_neg (by omega), if_neg (by omega), if_neg (by omega), if_pos (by omega), show 2 * k = i by omega, hd']
      simp
    · have e2 : i = 2 * k + 1 := by omega
      rw [if_neg (by omega), if_pos (by omega), if_pos (by omega), e]
      have h1 := dg_le (gb l (2 * k))
      rw [or_low _ _ (by omega) hv]
      unfold pb
      rw [← e2, hd']
      have h2 := hpos (2 * k) (by omega)
      omega
  · rw [if_neg e]
    by_cases h1 : 2 * k + 1 < i
    · rw [if_pos h1, if_pos (by omega)]
    · rw [if_neg h1, if_neg (by omega)]
      by_cases h2 : 2 * k < i
      · omega
      · rw [if_neg (by omega), if_neg (by omega)]
theorem digits_of (l : List Nat) (hl : l.length = 64) (h : ∀ j, j < 64 → 0 ≤ dg (gb l j)) : Digits64 l := ⟨hl, fun j hj => ⟨h _ (by omega), h _ (by omega)⟩⟩
theorem no_digits (l : List Nat) (i : Nat) (hi : i < 64) (h : dg (gb l i) = -1) : ¬ Digits64 l := fun hd => by
  have := hd.2 (i / 2) (by omega)
  unfold okd at this
  by_cases e : i % 2 = 0
  · rw [show 2 * (i / 2) = i by omega] at this; omega
  · rw [show 2 * (i / 2) + 1 = i by omega] at this; omega
end SM
open SM
theorem eq_cast (a b : Nat) : ((a : Int) == (b : Int)) = decide (a = b) := by
  by_cases h : a = b
  · subst h; simp
  · rw [decide_eq_false h]; simp; omega
set_option maxHeartbeats 1000000 in
theorem ex_digitI {o : Oper} {a : Act} {w : World} {x : Operand} (n : Nat) (ho : o.op = .index 9 (.const (.string digs)) x) (hx : a.eval x = .int .i64 (n : Int)) (hn : n < 16) :
    (execOp a.eval o).run Tryd.prog w = .ok (.value (.int .u8 ((hd n : Nat) : Int))) w := by
  have h : ∀ m : Fin 16, (Instr.index 9 (.string digs) (.int .i64 ((m.1 : Nat) : Int))).run Tryd.prog w = .ok (.int .u8 ((hd m.1 : Nat) : Int)) w := by
    intro m
    rcases m with ⟨m, hm⟩
    have : m = 0 ∨ m = 1 ∨ m = 2 ∨ m = 3 ∨ m = 4 ∨ m = 5 ∨ m = 6 ∨ m = 7 ∨ m = 8 ∨ m = 9 ∨ m = 10 ∨ m = 11 ∨ m = 12 ∨ m = 13 ∨ m = 14 ∨ m = 15 := by omega
    rcases this with rfl | rfl | rfl | rfl | rfl | rfl | rfl | rfl | rfl | rfl | rfl | rfl | rfl | rfl | rfl | rfl <;> (show _ = _; rfl)
  have h1 := h ⟨n, hn⟩
  unfold execOp
  rw [ho]
  have h2 : a.eval (.const (.string digs)) = .string digs := rfl
  simp only [h2, hx, Sem.run_bind, h1, Result.andThen_ok, Sem.run_pure]
set_option maxRecDepth 100000 in
set_option maxHeartbeats 1000000 in
theorem parse_any (s : ByteArray) (w : World) :
    Calls Tryd.prog 20 #[.string s] w fun ev w' => ∃ r e, ev = .returned (.tuple #[.agg (row8 r).toArray, .int .i64 e]) ∧ ((Digits64 (sb s) ∧ r = parK (sb s) 32 ∧ e = 0) ∨ (¬ Digits64 (sb s) ∧ r = List.replicate 32 0 ∧ e = 4)) ∧ Below w.heap.size w w' := by
  have hsl := sb_len s
  go_enter Tryd.func20, Tryd.ntmps20
  have r0 := (Blk.new w 26 (row8 (List.replicate 32 0)) _ rfl).alloc (.cells (row8 (List.replicate 32 0)).toArray 26)
  have n0 := Blk.new (w.alloc (.cells (row8 (List.replicate 32 0)).toArray 26)) 26 (row8 (List.replicate 32 0)) (w.heap.size + 1) (by simp)
  have b0 := ((Below.refl w.heap.size w).alloc (Nat.le_refl _) (.cells (row8 (List.replicate 32 0)).toArray 26)).alloc (by simp) (.cells (row8 (List.replicate 32 0)).toArray 26)
  have R0 := Lib.hid r0
  have N0 := Lib.hid n0
  have B0 := Lib.hid b0
  clear r0 n0 b0
  by_cases h64 : s.size = 64
  · have q64 : ((s.size : Int) != 64) = false := by rw [h64]; rfl
    have q64' : (s.size : Int) = 64 := by omega
    go_wp2_with fail
    go_step3
    go_wp2_with fail
    go_step3
    go_wp2_with fail
    go_loopw [13] (fun i wr => ∃ k : Nat, k ≤ 64 ∧ i = .int .i64 (k : Int) ∧ (∀ j, j < k → 0 ≤ dg (gb (sb s) j)) ∧ Blk wr w.heap.size 26 (row8 (List.replicate 32 0)) ∧ Blk wr (w.heap.size + 1) 26 (row8 (half (sb s) k)) ∧ Below w.heap.size w wr) (fun i _ => 64 - (intOf i).toNat)
    case atStart => exact ⟨0, Nat.zero_le _, rfl, fun j hj => absurd hj (by omega), R0.out, by rw [half_zero]; exact N0.out, B0.out⟩
    case round =>
      clear R0 N0 B0
      obtain ⟨k, hk, rfl, hok, r0, n0, b0⟩ := hrel
      by_cases hlt : k < 64
      · have HOK := Lib.hid hok
        have R0 := Lib.hid r0
        have N0 := Lib.hid n0
        have B0 := Lib.hid b0
        obtain ⟨c, hc⟩ : ∃ c, c = gb (sb s) k := ⟨_, rfl⟩
        have HC := Lib.hid hc
        clear hok r0 n0 b0 hc
        go_wp2_with fail
        go_loopw [16] (fun x wq => ∃ v : Nat, v ≤ 16 ∧ x = .int .i64 (v : Int) ∧ (∀ u, u < v → c ≠ hd u) ∧ Blk wq w.heap.size 26 (row8 (List.replicate 32 0)) ∧ Blk wq (w.heap.size + 1) 26 (row8 (half (sb s) k)) ∧ Below w.heap.size w wq) (fun x _ => 16 - (intOf x).toNat)
        case atStart => exact ⟨0, Nat.zero_le _, rfl, fun u hu => absurd hu (by omega), R0.out, N0.out, B0.out⟩
        case round =>
          clear R0 N0 B0
          obtain ⟨v, hv, rfl, hno, r0, n0, b0⟩ := hrel
          by_cases hvt : v < 16
          · have HNO := Lib.hid hno
            have R0 := Lib.hid r0
            have N0 := Lib.hid n0
            have B0 := Lib.hid b0
            clear hno r0 n0 b0
            go_upto_region 10 with (fail)
            refine wp_region_facts (by kernel_rfl) (by kernel_rfl) [.val (.string s), .val (.int .i64 (k : Int)), .val (.int .u8 (c : Int)), .val (.int .i64 (v : Int)), .val (.int .u8 ((hd v : Nat) : Int)), .val (.bool (decide (c = hd v)))] ?_ ?_
            · refine ⟨?_, ?_, ?_, ?_, ?_, ?_, trivial⟩
              · intro a W hF hB hd
                exact does_val rfl (ex_move rfl (hF 0 (by decide +kernel))) rfl
              · intro a W hF hB hd
                exact does_val rfl (ex_move rfl (hF 5 (by decide +kernel))) rfl
              · intro a W hF hB hd
                have e : a.eval (.tmp 19) = .string s := hd 0 (by decide +kernel)
                have e2 : a.eval (.tmp 20) = .int .i64 (k : Int) := hd 1 (by decide +kernel)
                exact does_val rfl (ex_char (k := k) rfl e e2 (by omega)) (by show _ = _; rw [HC.out])
              · intro a W hF hB hd
                exact does_val rfl (ex_move rfl (hF 6 (by decide +kernel))) rfl
              · intro a W hF hB hd
                have e : a.eval (.tmp 22) = .int .i64 (v : Int) := hd 3 (by decide +kernel)
                exact does_val rfl (ex_digitI v rfl e hvt) rfl
              · intro a W hF hB hd
                have e : a.eval (.tmp 21) = .int .u8 (c : Int) := hd 2 (by decide +kernel)
                have e2 : a.eval (.tmp 23) = .int .u8 ((SM.hd v : Nat) : Int) := hd 4 (by decide +kernel)
                exact does_val rfl (ex_binOp rfl e e2 (by go_simp) (by go_simp; exact eq_cast c (SM.hd v))) rfl
            · intro vs W hB hv'
              have e5 : vs 5 = .bool (decide (c = hd v)) := hv' 5 (by decide)
              have R1 := Lib.hid (R0.out.below hB R0.out.lt)
              have N1 := Lib.hid (N0.out.below hB N0.out.lt)
              have B1 := Lib.hid (B0.out.on hB)
              simp only [putOps, Act.put, List.setIfInBounds_toArray, List.set_cons_zero, List.set_cons_succ, e5]
              clear hv' e5 hB
              by_cases hch : c = hd v
              · have hdv := Lib.hid (show dg (gb (sb s) k) = v by rw [← HC.out, hch]; exact dg_hd v hvt)
                have cn := N1.out.cell (k / 2) _ (row8_val _ _ (by rw [half_len]; omega))
                have fn := N1.out.free (k / 2)
                have g1 : gb (half (sb s) k) (k / 2) * 16 % 256 < 256 := Nat.mod_lt _ (by omega)
                have hor := Lib.hid (u8_or_nat (gb (half (sb s) k) (k / 2) * 16 % 256) v g1 (by omega))
                rw [decide_eq_true hch]
                go_wp2_with fail
                have e1 : bits BinOp.or IntKind.u8 (((gb (half (sb s) k) (k / 2) : Nat) : Int) * 16 % 256) (v : Int) = ((nxt (sb s) k v : Nat) : Int) := by
                  rw [show (((gb (half (sb s) k) (k / 2) : Nat) : Int) * 16 % 256) = ((gb (half (sb s) k) (k / 2) * 16 % 256 : Nat) : Int) by omega, hor.out]; rfl
                rw [e1]
                refine ⟨⟨k + 1, by omega, by go_num, fun j hj => ?_, R1.out.other _ _ (by simp <;> omega), ?_, B1.out.setCell (by simp) _⟩, by simp [intOf]; omega⟩
                · by_cases e : j = k
                  · subst e; rw [hdv.out]; omega
                  · exact HOK.out j (by omega)
                · rw [← half_step _ k v hlt hvt hdv.out HOK.out, ← row8_set]
                  exact N1.out.set (k / 2) _
              · rw [decide_eq_false hch]
                go_wp2_with fail
                refine ⟨⟨v + 1, by omega, by go_num, fun u hu => ?_, R1.out, N1.out, B1.out⟩, by simp [intOf]; omega⟩
                by_cases e : u = v
                · subst e; exact hch
                · exact HNO.out u (by omega)
          · obtain rfl : v = 16 := by omega
            have HND := Lib.hid (show ¬ Digits64 (sb s) from no_digits _ k hlt (by rw [← HC.out]; exact dg_none c hno))
            have R1 := Lib.hid r0
            have B1 := Lib.hid b0
            clear r0 n0 b0 hno
            go_wp2_with (refine wpList_store_mid rfl 26 (.tmp 2) (.tmp 37) rfl w.heap.size 0 (row8 (List.replicate 32 0)).toArray rfl rfl (R1.out.there _ rfl) infoS (row8_one _) ?_)
            have fin := R1.out.whole (row8 (List.replicate 32 0)) rfl
            try rw [Exit.noGoto_ret]
            exact bodyPost_ret (results_rowslot rfl _ _ w.heap.size (row8 (List.replicate 32 0)) _ rfl fin.range Tryd.underlying26 rfl infoS) rfl ⟨_, _, rfl, .inr ⟨HND.out, rfl, rfl⟩, below_setCells w.heap.size (Nat.le_refl _) _ 0 _ B1.out⟩
      · obtain rfl : k = 64 := by omega
        rw [half_all] at n0
        have HND := Lib.hid (digits_of (sb s) (by rw [hsl]; exact h64) hok)
        have H32 := Lib.hid (show (row8 (parK (sb s) 32)).length = 32 by rw [row8_len, parK_len])
        obtain ⟨pk, hpk⟩ : ∃ pk, pk = parK (sb s) 32 := ⟨_, rfl⟩
        rw [← hpk] at n0 H32
        have HPK := Lib.hid hpk
        have R1 := Lib.hid r0
        have N1 := Lib.hid n0
        have B1 := Lib.hid b0
        clear r0 n0 b0 hok hpk
        go_wp2_with (first | (refine wpList_load_mid rfl 26 (.tmp 4) rfl (w.heap.size + 1) 0 rfl (row8 pk) _ N1.out.range Tryd.underlying26 rfl (by rw [H32.out]; exact infoS) ?_) | (refine wpList_store_mid rfl 26 (.tmp 2) (.tmp 39) rfl w.heap.size 0 (row8 pk).toArray rfl rfl (R1.out.there _ (by rw [List.size_toArray, H32.out]; rfl)) (by rw [List.size_toArray, H32.out]; exact infoS) (row8_one _) ?_))
        have fin := R1.out.whole (row8 pk) (by rw [H32.out]; rfl)
        try rw [Exit.noGoto_ret]
        exact bodyPost_ret (results_rowslot rfl _ _ w.heap.size (row8 pk) _ rfl fin.range Tryd.underlying26 rfl (by rw [H32.out]; exact infoS)) rfl ⟨_, _, rfl, .inl ⟨HND.out, HPK.out, rfl⟩, below_setCells w.heap.size (Nat.le_refl _) _ 0 _ B1.out⟩
  · have HNO := Lib.hid (show ¬ Digits64 (sb s) from fun h => h64 (by rw [← hsl]; exact h.1))
    have q64 : ((s.size : Int) != 64) = true := by simp; omega
    have q64' : ¬ ((s.size : Int) = 64) := by omega
    go_wp2_with fail
    go_step3
    go_wp2_with (refine wpList_store_mid rfl 26 (.tmp 2) (.tmp 10) rfl w.heap.size 0 (row8 (List.replicate 32 0)).toArray rfl rfl (R0.out.there _ rfl) infoS (row8_one _) ?_)
    have fin := R0.out.whole (row8 (List.replicate 32 0)) rfl
    try rw [Exit.noGoto_ret]
    exact bodyPost_ret (results_rowslot rfl _ _ w.heap.size (row8 (List.replicate 32 0)) _ rfl fin.range Tryd.underlying26 rfl infoS) rfl ⟨_, _, rfl, .inr ⟨HNO.out, rfl, rfl⟩, below_setCells w.heap.size (Nat.le_refl _) _ 0 _ B0.out⟩
end Go.Proofs.YtaephclooajabaaDoor

/- A sum read out of its digits, as the document says: contract. Own work. -/
import Derived.Test.YtaephclooajabaaDoorShaHex
import Derived.Test.YtaephclooajabaaDoorShaOf
namespace Go.Proofs.YtaephclooajabaaDoor
open Go.ChangeShapes Go.WideShapes Go.ChangeAt Go.RowKit
namespace SM
/-- Byte j has two digits. -/
def okd (l : List Nat) (j : Nat) : Prop := 0 ≤ dg (gb l (2 * j)) ∧ 0 ≤ dg (gb l (2 * j + 1))
/-- Sixty-four digits, and nothing else. -/
def Digits64 (l : List Nat) : Prop := l.length = 64 ∧ ∀ j, j < 32 → okd l j
def pb (l : List Nat) (j : Nat) : Nat := (16 * dg (gb l (2 * j)) + dg (gb l (2 * j + 1))).toNat
/-- The first i bytes that the digits make. -/
def parK (l : List Nat) (i : Nat) : List Nat := (List.range 32).map fun j => if j < i then pb l j else 0
theorem parK_len (l : List Nat) (i : Nat) : (parK l i).length = 32 := by simp [parK]
theorem parK_zero (l : List Nat) : parK l 0 = List.replicate 32 0 := rfl
theorem parK_step (l : List Nat) (i : Nat) (hi : i < 32) : (parK l i).set i (pb l i) = parK l (i + 1) := by
  apply bytes_ext (n := 32) (by rw [List.length_set, parK_len]) (parK_len _ _)
  intro k hk
  rw [gb_set _ _ _ _ (by rw [parK_len]; exact hi)]
  unfold parK
  rw [gb_map, gb_map, if_pos hk, if_pos hk]
  by_cases e : i = k
  · subst e; rw [if_pos rfl, if_pos (by omega)]
  · rw [if_neg e]
    by_cases h : k < i
    · rw [if_pos h, if_pos (by omega)]
    · rw [if_neg h, if_neg (by omega)]
theorem dg_le (c : Nat) : dg c ≤ 15 := by unfold dg; split <;> (try split) <;> omega
theorem dg_ge (c : Nat) : -1 ≤ dg c := by unfold dg; split <;> (try split) <;> omega
end SM
open SM
/-- An index into a string. -/
theorem ex_char {o : Oper} {a : Act} {w : World} {x y : Operand} {s : ByteArray} {k : Nat} (ho : o.op = .index 9 x y) (hx : a.eval x = .string s) (hy : a.eval y = .int .i64 (k : Int)) (hk : k < s.size) :
    (execOp a.eval o).run Tryd.prog w = .ok (.value (.int .u8 ((gb (sb s) k : Nat) : Int))) w := by
  have hg : gb (sb s) k = (s[k]'hk).toNat := by
    unfold gb sb
    rw [List.getD_eq_getElem?_getD, List.getElem?_map, List.getElem?_eq_getElem (by simpa using hk)]
    rfl
  have q : (k : Int) < (s.size : Int) := by omega
  unfold execOp
  rw [ho]
  simp only [hx, hy]
  go_simp
/-- Results that are a row of cells, out of the variable in which it stands, and a slot. -/
theorem results_rowslot {P : Program} {fn : Func} {p t : Tmp} {ty : TypeId} (h : fn.results = #[.cell p ty, .tmp t]) (tmps : Array Value) (w : World) (b : Nat) (cs : List Value) (d : TypeDesc)
    (hp : tmps.getD p undef = .pointer (some ⟨b, 0, none⟩)) (hr : w.rangeAt b 0 cs) (hu : P.underlying ty = some d) (hd : d.isRow = true) (hi : (P.info? ty).map (·.size) = some cs.length) :
    (results fn tmps).run P w = .ok (.tuple #[.agg cs.toArray, tmps.getD t undef]) w := by
  have hp' : tmps[p]?.getD undef = .pointer (some ⟨b, 0, none⟩) := by simpa using hp
  simp [results, h, hp', asAddr, run_loadVar_mid w b 0 ty cs d hr hu hd hi]
set_option maxRecDepth 100000 in
set_option maxHeartbeats 1000000 in
theorem rparse_any (s : ByteArray) (w : World) :
    Calls Tryd.prog 21 #[.string s] w fun ev w' => ∃ r e, ev = .returned (.tuple #[.agg (row8 r).toArray, .int .i64 e]) ∧ ((Digits64 (sb s) ∧ r = parK (sb s) 32 ∧ e = 0) ∨ (¬ Digits64 (sb s) ∧ r = List.replicate 32 0 ∧ e = 4)) ∧ Below w.heap.size w w' := by
  have hsl := sb_len s
  go_enter Tryd.func21, Tryd.ntmps21
  have hz : (row8 (List.replicate 32 0)).length = 32 := rfl
  have r0 := (Blk.new w 26 (row8 (List.replicate 32 0)) _ rfl).alloc (.cells (row8 (List.replicate 32 0)).toArray 26)
  have n0 := Blk.new (w.alloc (.cells (row8 (List.replicate 32 0)).toArray 26)) 26 (row8 (List.replicate 32 0)) (w.heap.size + 1) (by simp)
  have b0 := ((Below.refl w.heap.size w).alloc (Nat.le_refl _) (.cells (row8 (List.replicate 32 0)).toArray 26)).alloc (by simp) (.cells (row8 (List.replicate 32 0)).toArray 26)
  have R0 := Lib.hid r0
  have N0 := Lib.hid n0
  have B0 := Lib.hid b0
  clear r0 n0 b0
  by_cases h64 : s.size = 64
  · have q64 : ((s.size : Int) != 64) = false := by rw [h64]; rfl
    have q64' : (s.size : Int) = 64 := by omega
    go_wp2_with fail
    go_loopw [5] (fun i wr => ∃ k : Nat, k ≤ 32 ∧ i = .int .i64 (k : Int) ∧ (∀ j, j < k → okd (sb s) j) ∧ Blk wr w.heap.size 26 (row8 (List.replicate 32 0)) ∧ Blk wr (w.heap.size + 1) 26 (row8 (parK (sb s) k)) ∧ Below w.heap.size w wr) (fun i _ => 32 - (intOf i).toNat)
    case atStart => exact ⟨0, Nat.zero_le _, rfl, fun j hj => absurd hj (by omega), R0.out, by rw [parK_zero]; exact N0.out, B0.out⟩
    case round =>
      clear R0 N0 B0
      obtain ⟨k, hk, rfl, hok, r0, n0, b0⟩ := hrel
      by_cases hlt : k < 32
      · have cn := n0.cell k _ (row8_val _ _ (by rw [parK_len]; exact hlt))
        have fn := n0.free k
        have HOK := Lib.hid hok
        have R0 := Lib.hid r0
        have N0 := Lib.hid n0
        have B0 := Lib.hid b0
        have l1 := dg_le (gb (sb s) (2 * k))
        have l2 := dg_le (gb (sb s) (2 * k + 1))
        have m1 := dg_ge (gb (sb s) (2 * k))
        have m2 := dg_ge (gb (sb s) (2 * k + 1))
        have hpb : pb (sb s) k = (16 * dg (gb (sb s) (2 * k)) + dg (gb (sb s) (2 * k + 1))).toNat := rfl
        have hokd : okd (sb s) k ↔ (0 ≤ dg (gb (sb s) (2 * k)) ∧ 0 ≤ dg (gb (sb s) (2 * k + 1))) := Iff.rfl
        have c1 := sb_byte s (2 * k)
        have c2 := sb_byte s (2 * k + 1)
        obtain ⟨x, hx⟩ : ∃ x, x = gb (sb s) (2 * k) := ⟨_, rfl⟩
        obtain ⟨y, hy⟩ : ∃ y, y = gb (sb s) (2 * k + 1) := ⟨_, rfl⟩
        rw [← hx] at l1 m1 hpb hokd c1
        rw [← hy] at l2 m2 hpb hokd c2
        have HX := Lib.hid hx
        have HY := Lib.hid hy
        have DX := Lib.hid (fun W => digit_any x c1 W)
        have DY := Lib.hid (fun W => digit_any y c2 W)
        have HPB := Lib.hid hpb
        have HOD := Lib.hid hokd
        generalize dg x = p at *
        generalize dg y = r at *
        clear r0 n0 b0 hok hx hy hpb hokd
        go_upto_region 7 with (fail)
        refine wp_region_facts (by kernel_rfl) (by kernel_rfl) [.val (.string s), .val (.int .i64 (k : Int)), .val (.int .i64 (2 * (k : Int))), .val (.int .u8 (x : Int)), .val (.int .i64 p), .val (.string s), .val (.int .i64 (k : Int)), .val (.int .i64 (2 * (k : Int))), .val (.int .i64 (2 * (k : Int) + 1)), .val (.int .u8 (y : Int)), .val (.int .i64 r), .val (.int .i64 p), .val (.int .i64 r)] ?_ ?_
        · refine ⟨?_, ?_, ?_, ?_, ?_, ?_, ?_, ?_, ?_, ?_, ?_, ?_, ?_, trivial⟩
          · intro a W hF hB hd
            exact does_val rfl (ex_move rfl (hF 0 (by decide +kernel))) rfl
          · intro a W hF hB hd
            exact does_val rfl (ex_move rfl (hF 5 (by decide +kernel))) rfl
          · intro a W hF hB hd
            have e : a.eval (.tmp 17) = .int .i64 (k : Int) := hd 1 (by decide +kernel)
            exact does_val rfl (ex_binOp rfl rfl e (by go_simp) (by go_simp; rw [IntKind.wrap_i64]; omega)) rfl
          · intro a W hF hB hd
            have e : a.eval (.tmp 16) = .string s := hd 0 (by decide +kernel)
            have e2 : a.eval (.tmp 18) = .int .i64 (2 * (k : Int)) := hd 2 (by decide +kernel)
            exact does_val rfl (ex_char (k := 2 * k) rfl e (by rw [e2]; congr 1) (by omega)) (by show _ = _; rw [HX.out])
          · intro a W hF hB hd
            have e : a.eval (.tmp 19) = .int .u8 (x : Int) := hd 3 (by decide +kernel)
            exact does_call rfl (ex_call (vs := #[.int .u8 (x : Int)]) rfl (by simp only [List.map_toArray, List.map_cons, List.map_nil, e]) (by go_simp)) ((DX.out W).mono fun _ _ h => ⟨_, h.1, rfl, h.2 ▸ Below.refl _ _⟩)
          · intro a W hF hB hd
            exact does_val rfl (ex_move rfl (hF 0 (by decide +kernel))) rfl
          · intro a W hF hB hd
            exact does_val rfl (ex_move rfl (hF 5 (by decide +kernel))) rfl
          · intro a W hF hB hd
            have e : a.eval (.tmp 22) = .int .i64 (k : Int) := hd 6 (by decide +kernel)
            exact does_val rfl (ex_binOp rfl rfl e (by go_simp) (by go_simp; rw [IntKind.wrap_i64]; omega)) rfl
          · intro a W hF hB hd
            have e : a.eval (.tmp 23) = .int .i64 (2 * (k : Int)) := hd 7 (by decide +kernel)
            exact does_val rfl (ex_binOp rfl e rfl (by go_simp) (by go_simp; rw [IntKind.wrap_i64]; omega)) rfl
          · intro a W hF hB hd
            have e : a.eval (.tmp 21) = .string s := hd 5 (by decide +kernel)
            have e2 : a.eval (.tmp 24) = .int .i64 (2 * (k : Int) + 1) := hd 8 (by decide +kernel)
            exact does_val rfl (ex_char (k := 2 * k + 1) rfl e (by rw [e2]; congr 1) (by omega)) (by show _ = _; rw [HY.out])
          · intro a W hF hB hd
            have e : a.eval (.tmp 25) = .int .u8 (y : Int) := hd 9 (by decide +kernel)
            exact does_call rfl (ex_call (vs := #[.int .u8 (y : Int)]) rfl (by simp only [List.map_toArray, List.map_cons, List.map_nil, e]) (by go_simp)) ((DY.out W).mono fun _ _ h => ⟨_, h.1, rfl, h.2 ▸ Below.refl _ _⟩)
          · intro a W hF hB hd
            exact does_val rfl (ex_assign rfl (hd 4 (by decide +kernel))) rfl
          · intro a W hF hB hd
            exact does_val rfl (ex_assign rfl (hd 10 (by decide +kernel))) rfl
        · intro vs W hB hv
          have e11 : vs 11 = .int .i64 p := hv 11 (by decide)
          have e12 : vs 12 = .int .i64 r := hv 12 (by decide)
          have r1 := R0.out.below hB R0.out.lt
          have n1 := N0.out.below hB N0.out.lt
          have b1 := B0.out.on hB
          have cn := n1.cell k _ (row8_val _ _ (by rw [parK_len]; exact hlt))
          have fn := n1.free k
          have R1 := Lib.hid r1
          have N1 := Lib.hid n1
          have B1 := Lib.hid b1
          simp only [putOps, Act.put, List.setIfInBounds_toArray, List.set_cons_zero, List.set_cons_succ, e11, e12]
          clear hv e11 e12 r1 n1 b1 hB
          by_cases hp : p < 0
          · have HNO := Lib.hid (show ¬ Digits64 (sb s) from fun h => by have := (HOD.out.1 (h.2 k hlt)).1; omega)
            go_wp2_with (first | (refine wpList_store_mid rfl 26 (.tmp 2) (.tmp 33) rfl w.heap.size 0 (row8 (List.replicate 32 0)).toArray rfl rfl (R1.out.there _ rfl) infoS (row8_one _) ?_))
            have fin := R1.out.whole (row8 (List.replicate 32 0)) rfl
            exact bodyPost_ret (results_rowslot rfl _ _ w.heap.size (row8 (List.replicate 32 0)) _ rfl fin.range Tryd.underlying26 rfl infoS) rfl ⟨_, _, rfl, .inr ⟨HNO.out, rfl, rfl⟩, below_setCells w.heap.size (Nat.le_refl _) _ 0 _ B1.out⟩
          · by_cases hr : r < 0
            · have HNO := Lib.hid (show ¬ Digits64 (sb s) from fun h => by have := (HOD.out.1 (h.2 k hlt)).2; omega)
              go_wp2_with (first | (refine wpList_store_mid rfl 26 (.tmp 2) (.tmp 33) rfl w.heap.size 0 (row8 (List.replicate 32 0)).toArray rfl rfl (R1.out.there _ rfl) infoS (row8_one _) ?_))
              have fin := R1.out.whole (row8 (List.replicate 32 0)) rfl
              exact bodyPost_ret (results_rowslot rfl _ _ w.heap.size (row8 (List.replicate 32 0)) _ rfl fin.range Tryd.underlying26 rfl infoS) rfl ⟨_, _, rfl, .inr ⟨HNO.out, rfl, rfl⟩, below_setCells w.heap.size (Nat.le_refl _) _ 0 _ B1.out⟩
            · go_wp2_with fail
              have hval : 16 * p + r = ((pb (sb s) k : Nat) : Int) := by rw [HPB.out]; omega
              rw [hval]
              refine ⟨⟨k + 1, by omega, by go_num, fun j hj => ?_, R1.out.other _ _ (by simp <;> omega), ?_, B1.out.setCell (by simp) _⟩, by simp [intOf]; omega⟩
              · by_cases e : j = k
                · subst e; exact HOD.out.2 ⟨by omega, by omega⟩
                · exact HOK.out j (by omega)
              · rw [← parK_step _ k hlt, ← row8_set]
                exact N1.out.set k _
      · obtain rfl : k = 32 := by omega
        have hp32 : (row8 (parK (sb s) 32)).length = 32 := by rw [row8_len, parK_len]
        have H32 := Lib.hid hp32
        have HOK := Lib.hid hok
        have R1 := Lib.hid r0
        have N1 := Lib.hid n0
        have B1 := Lib.hid b0
        clear r0 n0 b0 hp32 hok
        go_wp2_with (first | (refine wpList_load_mid rfl 26 (.tmp 4) rfl (w.heap.size + 1) 0 rfl (row8 (parK (sb s) 32)) _ N1.out.range Tryd.underlying26 rfl (by rw [H32.out]; exact infoS) ?_) | (refine wpList_store_mid rfl 26 (.tmp 2) (.tmp 41) rfl w.heap.size 0 (row8 (parK (sb s) 32)).toArray rfl rfl (R1.out.there _ (by rw [List.size_toArray, H32.out]; rfl)) (by rw [List.size_toArray, H32.out]; exact infoS) (row8_one _) ?_))
        have fin := R1.out.whole (row8 (parK (sb s) 32)) (by rw [H32.out]; rfl)
        exact bodyPost_ret (results_rowslot rfl _ _ w.heap.size (row8 (parK (sb s) 32)) _ rfl fin.range Tryd.underlying26 rfl (by rw [H32.out]; exact infoS)) rfl ⟨_, _, rfl, .inl ⟨⟨by rw [hsl]; exact h64, HOK.out⟩, rfl, rfl⟩, below_setCells w.heap.size (Nat.le_refl _) _ 0 _ B1.out⟩
  · have HNO := Lib.hid (show ¬ Digits64 (sb s) from fun h => h64 (by rw [← hsl]; exact h.1))
    have q64 : ((s.size : Int) != 64) = true := by simp; omega
    have q64' : ¬ ((s.size : Int) = 64) := by omega
    go_wp2_with (first | (refine wpList_load_mid rfl 26 (.tmp 4) rfl (w.heap.size + 1) 0 rfl (row8 (List.replicate 32 0)) _ N0.out.range Tryd.underlying26 rfl infoS ?_) | (refine wpList_store_mid rfl 26 (.tmp 2) (.tmp 11) rfl w.heap.size 0 (row8 (List.replicate 32 0)).toArray rfl rfl (R0.out.there _ rfl) infoS (row8_one _) ?_))
    have fin := R0.out.whole (row8 (List.replicate 32 0)) rfl
    exact bodyPost_ret (results_rowslot rfl _ _ w.heap.size (row8 (List.replicate 32 0)) _ rfl fin.range Tryd.underlying26 rfl infoS) rfl ⟨_, _, rfl, .inr ⟨HNO.out, rfl, rfl⟩, below_setCells w.heap.size (Nat.le_refl _) _ 0 _ B0.out⟩
end Go.Proofs.YtaephclooajabaaDoor

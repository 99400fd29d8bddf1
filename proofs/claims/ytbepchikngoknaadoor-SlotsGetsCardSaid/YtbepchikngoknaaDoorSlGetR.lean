/- A table of key slots that is read out of bytes: contract. Written by gen_slget.py. Own work. -/
import Derived.Test.YtbepchikngoknaaDoorSlGR
import Derived.Test.YtbepchikngoknaaDoorSlDX
import Derived.Test.YtbepchikngoknaaDoorResults
import Derived.Test.YtbepchikngoknaaDoorWrapLaws
import Derived.Test.YtbepchikngoknaaDoorFactX
import Derived.Test.YtbepchikngoknaaDoorMakeG
import Derived.Test.YtbepchikngoknaaDoorOwnAt
namespace Go.Proofs.YtbepchikngoknaaDoor
open Go.ChangeShapes Go.WideShapes Go.ChangeAt Go.RowKit
open SL
theorem u16_or_nat (a b : Nat) (ha : a < 65536) (hb : b < 65536) : bits .or .u16 (a : Int) (b : Int) = ((a ||| b : Nat) : Int) := by
  have hx : a ||| b < 2 ^ 16 := Nat.or_lt_two_pow (by omega) (by omega)
  show IntKind.u16.wrap ((BitVec.ofInt 16 (a : Int) ||| BitVec.ofInt 16 (b : Int)).toNat : Int) = _
  have e : ∀ n : Nat, n < 65536 → (BitVec.ofInt 16 (n : Int)).toNat = n := fun n hn => by
    rw [BitVec.toNat_ofInt]; omega
  rw [BitVec.toNat_or, e a ha, e b hb, IntKind.wrap_u16]
  omega
theorem two_bytes (a b : Nat) (ha : a < 256) (hb : b < 256) : bits .or .u16 ((a * 256 : Nat) : Int) (b : Int) = ((a * 256 + b : Nat) : Int) := by
  rw [u16_or_nat _ _ (by omega) (by omega)]
  have e : a * 256 ||| b = a * 256 + b := by
    rw [show a * 256 = 2 ^ 8 * a by omega, ← Nat.two_pow_add_eq_or_of_lt (by omega : b < 2 ^ 8)]
  rw [e]
theorem run_eql_u8 (a b : Nat) (w : World) : (binOp .eql 5 (.int .u8 (a : Int)) (.int .u8 (b : Int))).run Tryd.prog w = .ok (.bool (a == b)) w := by
  go_simp
  rw [Bool.eq_iff_iff]; simp; omega
/-- A piece cut out of a slice of bytes at a plain address. -/
theorem wpList_cut {ops : Array Oper} {rest : List Oper} {o : Oper} {a : Act} {w : World} {Q : Exit → Act → World → Prop} (hgd : o.guard = none) {x y z : Operand} {b off n cap k h : Nat} (ho : o.op = .slice 31 x (some y) (some z) none) (hx : a.eval x = .slice (some ⟨b, off, none⟩) n cap) (hy : a.eval y = .int .i64 (k : Int)) (hz : a.eval z = .int .i64 (h : Int)) (hkh : k ≤ h) (hh : h ≤ cap) (hc : k < cap)
    (hr : wpList Tryd.prog ops Q rest (a.put o.dst (.slice (some ⟨b, off + k, none⟩) (h - k) (cap - k))) w) : wpList Tryd.prog ops Q (o :: rest) a w := by
  have q : (k : Int) ≤ (h : Int) := by omega
  have q3 : (h : Int) ≤ (cap : Int) := by omega
  have q2 : cap ≠ k := by omega
  have e : (execOp a.eval o).run Tryd.prog w = .ok (.value (.slice (some ⟨b, off + k, none⟩) (h - k) (cap - k))) w := by
    unfold execOp
    rw [ho]
    simp only [Option.map_some, Option.map_none, hx, hy, hz]
    go_simp
  refine wpList_plain hgd fun _ hK => ?_
  unfold Oper.wp
  rw [e]
  exact hK _ _ hr
/-- One cell stored into a block. -/
theorem wpList_put1 {P : Program} {ops : Array Oper} {rest : List Oper} {o : Oper} {a : Act} {w : World} {Q : Exit → Act → World → Prop} (hgd : o.guard = none) (ty : TypeId) (p x : Operand) (ho : o.op = .store ty p x) (b k : Nat) (u : Value) (hp : a.eval p = .pointer (some ⟨b, k, none⟩)) (hx : a.eval x = u) (t : TypeId) (cs : List Value) (hb : Blk w b t cs) (hk : k < cs.length)
    (hz : (P.info? ty).map (·.size) = some 1) (hc : u.cells = #[u]) (h1 : u.oneCell' = true) (h : ∀ w', Blk w' b t (cs.set k u) → w.grownBy w' (some b) → wpList P ops Q rest (a.put o.dst undef) w') : wpList P ops Q (o :: rest) a w := by
  refine wpList_plain hgd fun _ hK => ?_
  have hr := run_store_one (P := P) w b k ty u hc (there_part hb k 1 (by omega)) hz h1
  unfold Oper.wp execOp
  simp only [ho, hp, hx, Sem.run_bind, hr, Result.andThen_ok, Sem.run_pure]
  exact hK _ _ (h _ (hb.set k u) (grownBy_cell w b k u))
/-- The table behind k slots read. -/
def tab (b : List Nat) (k : Nat) : List Slot := (List.range 8).map fun j => if j < k then read (piece b j) else none_
theorem tab_at (b : List Nat) (k j : Nat) (hj : j < 8) : (tab b k)[j]? = some (if j < k then read (piece b j) else none_) := by
  unfold tab; rw [List.getElem?_map, List.getElem?_range hj]; rfl
theorem tab_zero (b : List Nat) : tab b 0 = zero := rfl
theorem tab_all (b : List Nat) : tab b 8 = reads b := by
  unfold tab reads
  apply List.map_congr_left
  intro j hj
  rw [if_pos (List.mem_range.1 hj)]
theorem tab_step (b : List Nat) (k : Nat) (hk : k < 8) : (tab b k).set k (read (piece b k)) = tab b (k + 1) := by
  apply List.ext_getElem?
  intro j
  by_cases hj : j < 8
  · rw [List.getElem?_set, tab_at b k j hj, tab_at b (k + 1) j hj]
    by_cases e : k = j
    · subst e; rw [if_pos rfl, if_pos (by simpa [tab] using hk), if_pos (by omega)]
    · rw [if_neg e]
      by_cases h : j < k
      · rw [if_pos h, if_pos (by omega)]
      · rw [if_neg h, if_neg (by omega)]
  · rw [List.getElem?_eq_none (by rw [List.length_set]; simp [tab]; omega), List.getElem?_eq_none (by simp [tab]; omega)]
theorem tab_ok {b : List Nat} (hb : b.length = 1024) (hy : ∀ k, gb b k < 256) (k : Nat) : Tok (tab b k) := ⟨by simp [tab], fun s hs => by
  unfold tab at hs
  obtain ⟨j, hj, rfl⟩ := List.mem_map.1 hs
  split
  · exact read_ok (piece_len hb (List.mem_range.1 hj)) (piece_byte hy j)
  · exact none_ok⟩
set_option maxRecDepth 100000 in
set_option maxHeartbeats 4000000 in
theorem rtget_any (b : List Nat) (v : Value) (w : World) (hv : Rd w v b) : Calls Tryd.prog 17 #[v] w fun e w' => e = .returned (.tuple #[.agg (tbc (gotT b)).toArray, .int .i64 (gerr b)]) ∧ Below w.heap.size w w' := by
  obtain ⟨va, vc, rfl, hvc⟩ := hv.shape
  obtain ⟨bl, hbl⟩ : ∃ n, n = b.length := ⟨_, rfl⟩
  obtain ⟨Z0, hZ0⟩ : ∃ D, D = tbc zero := ⟨_, rfl⟩
  obtain ⟨D1, hD1⟩ : ∃ D, D = slc none_ := ⟨_, rfl⟩
  obtain ⟨RT, hRT⟩ : ∃ x, x = tbc (gotT b) := ⟨_, rfl⟩
  obtain ⟨RE, hRE⟩ : ∃ x, x = gerr b := ⟨_, rfl⟩
  have hz : ∀ w, (zeroValue 34).run Tryd.prog w = .ok (.agg Z0.toArray) w := by rw [hZ0]; exact zeroTr
  have hz1 : ∀ w, (zeroValue 28).run Tryd.prog w = .ok (.agg D1.toArray) w := by rw [hD1]; exact zeroSl
  have hd1 : D1.length = 82 := by rw [hD1]; exact slc_len none_ok
  have hz656 : Z0.length = 656 := by rw [hZ0]; exact tbc_len zero_ok
  have hbz : Tryd.prog.built 34 [] = some Z0.toArray := by rw [hZ0]; exact builtTr
  have ZONE := Lib.hid (show Z0.toArray.all (·.oneCell') = true by rw [hZ0]; exact tbc_all _)
  have x1 := (Below.refl w.heap.size w).alloc (Nat.le_refl _) (.cells Z0.toArray 34)
  have W2 := Lib.hid (x1.alloc x1.size (.cells Z0.toArray 34))
  have R2 := Lib.hid ((Blk.new w 34 Z0 _ rfl).alloc (.cells Z0.toArray 34))
  have T2 := Lib.hid (Blk.new (w.alloc (.cells Z0.toArray 34)) 34 Z0 (w.heap.size + 1) (by simp))
  have V2 := Lib.hid ((hv.alloc (.cells Z0.toArray 34)).alloc (.cells Z0.toArray 34))
  have HBY := Lib.hid hv.byte
  have HV := Lib.hid hv
  have HZE := Lib.hid hZ0
  have HRT := Lib.hid hRT
  have HRE := Lib.hid hRE
  have HBL := Lib.hid hbl
  rw [← hbl] at V2 HV hvc ⊢
  rw [← hRT, ← hRE]
  have HNO := Lib.hid (fun (h : ¬ isPut b) => (show (Ending.returned (.tuple #[.agg Z0.toArray, .int .i64 4]) : Ending) = .returned (.tuple #[.agg RT.toArray, .int .i64 RE]) by rw [HRT.out, HRE.out, (got_not h).1, (got_not h).2, ← HZE.out]))
  clear hv x1 hZ0 hD1 hRT hRE hbl
  by_cases hlen : bl = 1024
  · subst hlen
    obtain ⟨vb, vo, rfl, _⟩ := rd_spot V2.out 0 (by rw [← HBL.out]; decide)
    have NVT := Lib.hid (show vb < w.heap.size + 1 from Nat.lt_of_not_le fun hge => HV.out.old (by rw [← HBL.out]; decide) vb (by omega) rfl)
    go_enter Tryd.func17, Tryd.ntmps17
    go_wp2_with fail
    obtain ⟨w2, hw2⟩ : ∃ x, x = (w.alloc (.cells Z0.toArray 34)).alloc (.cells Z0.toArray 34) := ⟨_, rfl⟩
    rw [← hw2] at W2 T2 R2 V2 ⊢
    clear hw2
    go_loopw [5] (fun x wr => ∃ k : Nat, k ≤ 8 ∧ x = .int .i64 (k : Int) ∧ (∀ j, j < k → may (read (piece b j)) = true) ∧ Blk wr w.heap.size 34 Z0 ∧ Blk wr (w.heap.size + 1) 34 (tbc (tab b k)) ∧ Rd wr (.slice (some ⟨vb, vo, none⟩) 1024 vc) b ∧ Below w.heap.size w wr) (fun x _ => 8 - (intOf x).toNat)
    case atStart => exact ⟨0, by decide, rfl, fun j hj => absurd hj (Nat.not_lt_zero j), R2.out, by rw [tab_zero, ← HZE.out]; exact T2.out, V2.out, W2.out⟩
    case round =>
      clear W2 T2 R2 V2
      obtain ⟨k, hk8, rfl, hmay, y1, y2, y3, y4⟩ := hrel
      have HMAY := Lib.hid hmay
      have RR := Lib.hid y1
      have TR := Lib.hid y2
      have VR := Lib.hid y3
      have WR := Lib.hid y4
      clear hmay y1 y2 y3 y4
      by_cases hlt : k < 8
      · obtain ⟨c, hc⟩ : ∃ c, c = piece b k := ⟨_, rfl⟩
        obtain ⟨q, hq⟩ : ∃ q, q = vo + k * 128 := ⟨_, rfl⟩
        obtain ⟨lo, hlo⟩ : ∃ q, q = k * 128 := ⟨_, rfl⟩
        obtain ⟨hi, hhi⟩ : ∃ q, q = k * 128 + 128 := ⟨_, rfl⟩
        obtain ⟨cc, hcc⟩ : ∃ q, q = vc - lo := ⟨_, rfl⟩
        have HC128 := Lib.hid (show c.length = 128 by rw [hc]; exact piece_len HBL.out.symm hlt)
        have HCB := Lib.hid (show ∀ j, gb c j < 256 by rw [hc]; exact piece_byte HBY.out k)
        have HCELL := Lib.hid (fun W (h : Rd W (.slice (some ⟨vb, vo, none⟩) 1024 vc) b) (j : Nat) (hj : j < 128) => (show W.cell? ⟨vb, q + j, none⟩ = some (.int .u8 ((gb c j : Nat) : Int)) by
          obtain ⟨b2, o2, e2, h2⟩ := rd_spot h (k * 128 + j) (by rw [← HBL.out]; omega)
          cases e2
          rw [hc, piece_get b k j hj, hq, Nat.add_assoc]; exact h2))
        have HCE := Lib.hid hc
        have hwl : IntKind.i64.wrap ((k : Int) * 128) = (lo : Int) := by rw [IntKind.wrap_i64]; omega
        have hw1 : IntKind.i64.wrap ((k : Int) + 1) = (k : Int) + 1 := by rw [IntKind.wrap_i64]; omega
        have hwh : IntKind.i64.wrap (((k : Int) + 1) * 128) = (hi : Int) := by rw [IntKind.wrap_i64]; omega
        have HCUT := Lib.hid (show lo ≤ hi ∧ hi ≤ vc ∧ lo < vc ∧ vo + lo = q ∧ hi - lo = 128 ∧ vc - lo = cc from ⟨by omega, by omega, by omega, by omega, by omega, by omega⟩)
        have hcc128 : 128 ≤ cc := by omega
        have hklt : (k : Int) < 8 := by omega
        clear hc hq hlo hhi hcc
        go_upto_region 8 with (refine wpList_cut rfl (x := .tmp 18) (y := .tmp 20) (z := .tmp 23) rfl rfl rfl rfl HCUT.out.1 HCUT.out.2.1 HCUT.out.2.2.1 ?_; rw [HCUT.out.2.2.2.1, HCUT.out.2.2.2.2.1, HCUT.out.2.2.2.2.2])
        obtain ⟨x0, hx0⟩ : ∃ x, x = gb c 0 := ⟨_, rfl⟩
        obtain ⟨x1, hx1⟩ : ∃ x, x = gb c 1 := ⟨_, rfl⟩
        obtain ⟨x2, hx2⟩ : ∃ x, x = gb c 2 := ⟨_, rfl⟩
        obtain ⟨u, hu⟩ : ∃ u, u = (x0 == 1) := ⟨_, rfl⟩
        obtain ⟨tn, htn⟩ : ∃ n, n = x1 * 256 + x2 := ⟨_, rfl⟩
        have hx0b : x0 < 256 := by rw [hx0]; exact HCB.out 0
        have hx1b : x1 < 256 := by rw [hx1]; exact HCB.out 1
        have hx2b : x2 < 256 := by rw [hx2]; exact HCB.out 2
        have HB0 := Lib.hid (fun (W : World) (h : Rd W (.slice (some ⟨vb, vo, none⟩) 1024 vc) b) => (show W.cell? ⟨vb, q, none⟩ = some (.int .u8 (x0 : Int)) by rw [hx0]; exact HCELL.out W h 0 (by decide)))
        have HB1 := Lib.hid (fun (W : World) (h : Rd W (.slice (some ⟨vb, vo, none⟩) 1024 vc) b) => (show W.cell? ⟨vb, q + 1, none⟩ = some (.int .u8 (x1 : Int)) by rw [hx1]; exact HCELL.out W h 1 (by decide)))
        have HB2 := Lib.hid (fun (W : World) (h : Rd W (.slice (some ⟨vb, vo, none⟩) 1024 vc) b) => (show W.cell? ⟨vb, q + 2, none⟩ = some (.int .u8 (x2 : Int)) by rw [hx2]; exact HCELL.out W h 2 (by decide)))
        have hU : ∀ w, (binOp .eql 5 (.int .u8 (x0 : Int)) (.int .u8 1)).run Tryd.prog w = .ok (.bool u) w := fun w => by rw [hu]; exact run_eql_u8 x0 1 w
        have aw1 : IntKind.u16.wrap (x1 : Int) = (x1 : Int) := by rw [IntKind.wrap_u16]; omega
        have aw2 : IntKind.u16.wrap (x2 : Int) = (x2 : Int) := by rw [IntKind.wrap_u16]; omega
        have aw3 : IntKind.u16.wrap ((x1 : Int) * 256) = ((x1 * 256 : Nat) : Int) := by rw [IntKind.wrap_u16]; omega
        have aw4 : bits .or .u16 ((x1 : Int) * 256) (x2 : Int) = (tn : Int) := by rw [htn]; exact two_bytes x1 x2 hx1b hx2b
        obtain ⟨C1, hC1⟩ : ∃ C, C = slc (mids c 0 0 0) := ⟨_, rfl⟩
        have hC2 : C1 = .bool u :: .int .u16 (tn : Int) :: (row8 (List.replicate 16 0) ++ (row8 (List.replicate 32 0) ++ row8 (List.replicate 32 0))) := by rw [hC1, mids_none, hu, htn, hx0, hx1, hx2]; rfl
        have HBD := Lib.hid (show Tryd.prog.built 28 [(0, .bool u), (1, .int .u16 (tn : Int))] = some C1.toArray by rw [hC2]; exact builtRead u tn)
        have C82 := Lib.hid (show C1.length = 82 by rw [hC1]; exact slc_len (mids_ok HCB.out 0 0 0))
        have CONE := Lib.hid (show C1.toArray.all (·.oneCell') = true by rw [hC1]; exact slc_all _)
        have HC1 := Lib.hid hC1
        clear hx0 hx1 hx2 hu htn hC1 hC2
        refine wp_region_s (by kernel_rfl) 17 (by decide) (fun i => [25, 26, 27, 28, 29, 30, 31, 32, 33, 34, 35, 36, 37, 38, 39, 7, 7].getD i 0) (by kernel_rfl) (by kernel_rfl) (by kernel_rfl) (wr.heap.size) (Nat.le_refl _) [.val (.slice (some ⟨vb, q, none⟩) 128 cc), .val (.pointer (some ⟨vb, q, none⟩)), .val (.int .u8 (x0 : Int)), .val (.bool u), .val (.slice (some ⟨vb, q, none⟩) 128 cc), .val (.pointer (some ⟨vb, q + 1, none⟩)), .val (.int .u8 (x1 : Int)), .val (.int .u16 (x1 : Int)), .val (.int .u16 ((x1 * 256 : Nat) : Int)), .val (.slice (some ⟨vb, q, none⟩) 128 cc), .val (.pointer (some ⟨vb, q + 2, none⟩)), .val (.int .u8 (x2 : Int)), .val (.int .u16 (x2 : Int)), .val (.int .u16 (tn : Int)), .val (.agg C1.toArray), .blk 28 D1, .blk 28 (C1)] (fun j => if j = 15 then 16 else 17) ?_ ?_
        · refine ⟨?_, ?_, ?_, ?_, ?_, ?_, ?_, ?_, ?_, ?_, ?_, ?_, ?_, ?_, ?_, ?_, ?_, trivial⟩
          · intro a w' hF hB hd
            have e6 : a.eval (.tmp 6) = .slice (some ⟨vb, q, none⟩) 128 cc := hF 6 (by decide +kernel)
            exact DoesG.toS (doesG_val rfl (ex_move rfl e6) rfl rfl) nofun (by decide +kernel)
          · intro a w' hF hB hd
            have e25 : a.eval (.tmp 25) = .slice (some ⟨vb, q, none⟩) 128 cc := hd 0 (by decide +kernel) (.inr (by decide))
            exact DoesG.toS (doesG_val rfl (v := .pointer (some ⟨vb, q, none⟩)) (by unfold execOp; simp only [e25]; go_simp) rfl rfl) nofun (by decide +kernel)
          · intro a w' hF hB hd
            have e26 : a.eval (.tmp 26) = .pointer (some ⟨vb, q, none⟩) := hd 1 (by decide +kernel) (.inr (by decide))
            have ct := HB0.out w' (VR.out.below hB)
            exact DoesG.toS (doesG_val rfl (v := .int .u8 (x0 : Int)) (by unfold execOp; simp only [e26]; go_simp) rfl rfl) nofun (by decide +kernel)
          · intro a w' hF hB hd
            have e27 : a.eval (.tmp 27) = .int .u8 (x0 : Int) := hd 2 (by decide +kernel) (.inr (by decide))
            exact DoesG.toS (doesG_val rfl (ex_binOp rfl e27 rfl (by go_simp) (hU w')) rfl rfl) nofun (by decide +kernel)
          · intro a w' hF hB hd
            have e6 : a.eval (.tmp 6) = .slice (some ⟨vb, q, none⟩) 128 cc := hF 6 (by decide +kernel)
            exact DoesG.toS (doesG_val rfl (ex_move rfl e6) rfl rfl) nofun (by decide +kernel)
          · intro a w' hF hB hd
            have e29 : a.eval (.tmp 29) = .slice (some ⟨vb, q, none⟩) 128 cc := hd 4 (by decide +kernel) (.inr (by decide))
            exact DoesG.toS (doesG_val rfl (v := .pointer (some ⟨vb, q + 1, none⟩)) (by unfold execOp; simp only [e29]; go_simp) rfl rfl) nofun (by decide +kernel)
          · intro a w' hF hB hd
            have e30 : a.eval (.tmp 30) = .pointer (some ⟨vb, q + 1, none⟩) := hd 5 (by decide +kernel) (.inr (by decide))
            have ct := HB1.out w' (VR.out.below hB)
            exact DoesG.toS (doesG_val rfl (v := .int .u8 (x1 : Int)) (by unfold execOp; simp only [e30]; go_simp) rfl rfl) nofun (by decide +kernel)
          · intro a w' hF hB hd
            have e31 : a.eval (.tmp 31) = .int .u8 (x1 : Int) := hd 6 (by decide +kernel) (.inr (by decide))
            exact DoesG.toS (doesG_val rfl (ex_convert rfl e31 (by go_simp)) rfl rfl) nofun (by decide +kernel)
          · intro a w' hF hB hd
            have e32 : a.eval (.tmp 32) = .int .u16 (x1 : Int) := hd 7 (by decide +kernel) (.inr (by decide))
            exact DoesG.toS (doesG_val rfl (ex_binOp rfl e32 rfl (by go_simp) (by go_simp)) rfl rfl) nofun (by decide +kernel)
          · intro a w' hF hB hd
            have e6 : a.eval (.tmp 6) = .slice (some ⟨vb, q, none⟩) 128 cc := hF 6 (by decide +kernel)
            exact DoesG.toS (doesG_val rfl (ex_move rfl e6) rfl rfl) nofun (by decide +kernel)
          · intro a w' hF hB hd
            have e34 : a.eval (.tmp 34) = .slice (some ⟨vb, q, none⟩) 128 cc := hd 9 (by decide +kernel) (.inr (by decide))
            exact DoesG.toS (doesG_val rfl (v := .pointer (some ⟨vb, q + 2, none⟩)) (by unfold execOp; simp only [e34]; go_simp) rfl rfl) nofun (by decide +kernel)
          · intro a w' hF hB hd
            have e35 : a.eval (.tmp 35) = .pointer (some ⟨vb, q + 2, none⟩) := hd 10 (by decide +kernel) (.inr (by decide))
            have ct := HB2.out w' (VR.out.below hB)
            exact DoesG.toS (doesG_val rfl (v := .int .u8 (x2 : Int)) (by unfold execOp; simp only [e35]; go_simp) rfl rfl) nofun (by decide +kernel)
          · intro a w' hF hB hd
            have e36 : a.eval (.tmp 36) = .int .u8 (x2 : Int) := hd 11 (by decide +kernel) (.inr (by decide))
            exact DoesG.toS (doesG_val rfl (ex_convert rfl e36 (by go_simp)) rfl rfl) nofun (by decide +kernel)
          · intro a w' hF hB hd
            have e33 : a.eval (.tmp 33) = .int .u16 ((x1 * 256 : Nat) : Int) := hd 8 (by decide +kernel) (.inr (by decide))
            have e37 : a.eval (.tmp 37) = .int .u16 (x2 : Int) := hd 12 (by decide +kernel) (.inr (by decide))
            exact DoesG.toS (doesG_val rfl (ex_binOp rfl e33 e37 (by go_simp) (by go_simp)) rfl rfl) nofun (by decide +kernel)
          · intro a w' hF hB hd
            have e28 : a.eval (.tmp 28) = .bool u := hd 3 (by decide +kernel) (.inr (by decide))
            have e38 : a.eval (.tmp 38) = .int .u16 (tn : Int) := hd 13 (by decide +kernel) (.inr (by decide))
            exact DoesG.toS (doesG_val rfl (ex_build rfl (Eq.trans (b := Tryd.prog.built 28 [(0, .bool u), (1, .int .u16 (tn : Int))]) (by simp only [List.map_toArray, List.map_cons, List.map_nil, e28, e38]) HBD.out)) rfl rfl) nofun (by decide +kernel)
          · intro a w' hF hB hd
            exact DoesG.toS (doesG_alloc rfl 28 D1 rfl hz1 hB.size rfl) nofun (by decide +kernel)
          · intro a w' hF hB hd
            have e7 := hd 15 (by decide +kernel) (.inl (by decide))
            have e39 : a.eval (.tmp 39) = .agg C1.toArray := hd 14 (by decide +kernel) (.inr (by decide))
            exact doesS_store rfl 28 28 7 (.tmp 39) rfl rfl 15 (by decide +kernel) (by decide) D1 (C1) rfl rfl rfl e7 e39 (by rw [C82.out, hd1]) (by rw [C82.out]; exact infoSl) CONE.out rfl
        · intro vs wq hb hss hv hap
          obtain ⟨sb, eb, hbb, hbk⟩ : ∃ c, vs 16 = .pointer (some ⟨c, 0, none⟩) ∧ wr.heap.size ≤ c ∧ Blk wq c 28 C1 := hv 16 (by decide) (by decide)
          have e7 : vs 15 = .pointer (some ⟨sb, 0, none⟩) := by rw [← eb]; exact hss 15 16 (by decide)
          simp only [List.take_succ_cons, List.take_zero, List.drop_succ_cons, List.drop_zero, putOps, Act.put, List.setIfInBounds_toArray, List.set_cons_zero, List.set_cons_succ, e7]
          have NS := Lib.hid (show w.heap.size + 1 < sb by have := TR.out.lt; omega)
          have NV := Lib.hid (show vb < sb by
            have := World.block_lt_of_cell? wr _ (HCELL.out wr VR.out 0 (by decide))
            exact Nat.lt_of_lt_of_le this hbb)
          rw [HC1.out] at hbk
          have S3 := Lib.hid hbk
          have R3 := Lib.hid (RR.out.below hb RR.out.lt)
          have T3 := Lib.hid (TR.out.below hb TR.out.lt)
          have V3 := Lib.hid (VR.out.below hb)
          have W3 := Lib.hid (WR.out.on hb)
          clear hv hap hss eb e7 hb hbb hbk RR TR VR WR HB0 HB1 HB2 hU aw1 aw2 aw3 aw4 HBD C82 CONE HC1 hx0b hx1b hx2b
          generalize vs 0 = z0 at *; generalize vs 1 = z1 at *; generalize vs 2 = z2 at *; generalize vs 3 = z3 at *; generalize vs 4 = z4 at *; generalize vs 5 = z5 at *; generalize vs 6 = z6 at *; generalize vs 7 = z7 at *; generalize vs 8 = z8 at *; generalize vs 9 = z9 at *; generalize vs 10 = z10 at *; generalize vs 11 = z11 at *; generalize vs 12 = z12 at *; generalize vs 13 = z13 at *; generalize vs 14 = z14 at *
          clear x0 x1 x2 u tn C1 wr
          go_wp2_with fail
          go_loopw [8] (fun x wr => ∃ a : Nat, a ≤ 16 ∧ x = .int .i64 (a : Int) ∧ Blk wr sb 28 (slc (mids c a 0 0)) ∧ Blk wr w.heap.size 34 Z0 ∧ Blk wr (w.heap.size + 1) 34 (tbc (tab b k)) ∧ Rd wr (.slice (some ⟨vb, vo, none⟩) 1024 vc) b ∧ Below w.heap.size w wr) (fun x _ => 16 - (intOf x).toNat)
          case atStart => exact ⟨0, by decide, rfl, S3.out, R3.out, T3.out, V3.out, W3.out⟩
          case round =>
            clear S3 R3 T3 V3 W3
            obtain ⟨a, ha, rfl, y0, y1, y2, y3, y4⟩ := hrel
            have SR := Lib.hid y0
            have RR := Lib.hid y1
            have TR := Lib.hid y2
            have VR := Lib.hid y3
            have WR := Lib.hid y4
            clear y0 y1 y2 y3 y4
            by_cases hla : a < 16
            · have hal : (a : Int) < 16 := by omega
              obtain ⟨i3, hi3⟩ : ∃ i, i = 3 + a := ⟨_, rfl⟩
              have hw3 : IntKind.i64.wrap (3 + (a : Int)) = (i3 : Int) := by rw [IntKind.wrap_i64]; omega
              have hi3l : (i3 : Int) < 128 := by omega
              have cz := HCELL.out wr VR.out i3 (by omega)
              have S82 := Lib.hid (slc_len (mids_ok HCB.out a 0 0))
              have HSET := Lib.hid (show (slc (mids c a 0 0)).set (2 + a) (.int .u8 ((gb c i3 : Nat) : Int)) = slc (mids c (a + 1) 0 0) by rw [hi3]; exact mids_salt HCB.out a hla 0 0)
              obtain ⟨x, hx⟩ : ∃ x, x = gb c i3 := ⟨_, rfl⟩
              rw [← hx] at cz HSET
              clear hx hi3
              go_wp2_with (refine wpList_put1 rfl 5 (.tmp 51) (.tmp 49) rfl sb (2 + a) (.int .u8 (x : Int)) rfl rfl 28 _ SR.out (by rw [S82.out]; omega) (by kernel_rfl) rfl rfl ?_; intro w5 b5 g5; rw [HSET.out] at b5; have S5 := Lib.hid b5; have R5 := Lib.hid (RR.out.grown g5 (fun e => by have := Option.some.inj e; have := NS.out; omega)); have T5 := Lib.hid (TR.out.grown g5 (fun e => by have := Option.some.inj e; have := NS.out; omega)); have V5 := Lib.hid (VR.out.grown g5 (.inr fun e => by have e2 : vb = sb := Option.some.inj e; have := NV.out; omega)); have W5 := Lib.hid (WR.out.grown g5 WR.out.size (fun g hg => by have := Option.some.inj hg; have := NS.out; omega)); clear b5 g5)
              exact ⟨⟨a + 1, by omega, by go_num, S5.out, R5.out, T5.out, V5.out, W5.out⟩, by simp [intOf]; omega⟩
            · obtain rfl : a = 16 := by omega
              clear hla ha
              go_wp2_with fail
              have S4 := SR
              have R4 := RR
              have T4 := TR
              have V4 := VR
              have W4 := WR
              clear SR RR TR VR WR
              go_loopw [9] (fun x wr => ∃ a : Nat, a ≤ 32 ∧ x = .int .i64 (a : Int) ∧ Blk wr sb 28 (slc (mids c 16 a a)) ∧ Blk wr w.heap.size 34 Z0 ∧ Blk wr (w.heap.size + 1) 34 (tbc (tab b k)) ∧ Rd wr (.slice (some ⟨vb, vo, none⟩) 1024 vc) b ∧ Below w.heap.size w wr) (fun x _ => 32 - (intOf x).toNat)
              case atStart => exact ⟨0, by decide, rfl, S4.out, R4.out, T4.out, V4.out, W4.out⟩
              case round =>
                clear S4 R4 T4 V4 W4
                obtain ⟨a, ha, rfl, y0, y1, y2, y3, y4⟩ := hrel
                have SR := Lib.hid y0
                have RR := Lib.hid y1
                have TR := Lib.hid y2
                have VR := Lib.hid y3
                have WR := Lib.hid y4
                clear y0 y1 y2 y3 y4
                by_cases hla : a < 32
                · have hal : (a : Int) < 32 := by omega
                  obtain ⟨i3, hi3⟩ : ∃ i, i = 19 + a := ⟨_, rfl⟩
                  obtain ⟨i4, hi4⟩ : ∃ i, i = 51 + a := ⟨_, rfl⟩
                  have hw3 : IntKind.i64.wrap (19 + (a : Int)) = (i3 : Int) := by rw [IntKind.wrap_i64]; omega
                  have hw4 : IntKind.i64.wrap (51 + (a : Int)) = (i4 : Int) := by rw [IntKind.wrap_i64]; omega
                  have hi3l : (i3 : Int) < 128 := by omega
                  have hi4l : (i4 : Int) < 128 := by omega
                  have hi4n : i4 < 128 := by omega
                  have cz := HCELL.out wr VR.out i3 (by omega)
                  have S82 := Lib.hid (slc_len (mids_ok HCB.out 16 a a))
                  have Q82 := Lib.hid (slc_len (mids_ok HCB.out 16 (a + 1) a))
                  have HSET := Lib.hid (show (slc (mids c 16 a a)).set (18 + a) (.int .u8 ((gb c i3 : Nat) : Int)) = slc (mids c 16 (a + 1) a) by rw [hi3]; exact mids_sld HCB.out a hla 16 a)
                  have HSET2 := Lib.hid (show (slc (mids c 16 (a + 1) a)).set (50 + a) (.int .u8 ((gb c i4 : Nat) : Int)) = slc (mids c 16 (a + 1) (a + 1)) by rw [hi4]; exact mids_chk HCB.out a hla 16 (a + 1))
                  obtain ⟨x, hx⟩ : ∃ x, x = gb c i3 := ⟨_, rfl⟩
                  obtain ⟨y, hy⟩ : ∃ x, x = gb c i4 := ⟨_, rfl⟩
                  rw [← hx] at cz HSET
                  rw [← hy] at HSET2
                  have HY := Lib.hid hy
                  clear hx hi3 hi4 hy
                  go_wp2_with (first
                    | (refine wpList_put1 rfl 5 (.tmp 63) (.tmp 61) rfl sb (18 + a) (.int .u8 (x : Int)) rfl rfl 28 _ SR.out (by rw [S82.out]; omega) (by kernel_rfl) rfl rfl ?_; intro w5 b5 g5; rw [HSET.out] at b5; have S5 := Lib.hid b5; have R5 := Lib.hid (RR.out.grown g5 (fun e => by have := Option.some.inj e; have := NS.out; omega)); have T5 := Lib.hid (TR.out.grown g5 (fun e => by have := Option.some.inj e; have := NS.out; omega)); have V5 := Lib.hid (VR.out.grown g5 (.inr fun e => by have e2 : vb = sb := Option.some.inj e; have := NV.out; omega)); have W5 := Lib.hid (WR.out.grown g5 WR.out.size (fun g hg => by have := Option.some.inj hg; have := NS.out; omega)); clear b5 g5; have cy := HCELL.out w5 V5.out i4 hi4n; rw [← HY.out] at cy)
                    | (refine wpList_put1 rfl 5 (.tmp 71) (.tmp 69) rfl sb (50 + a) (.int .u8 (y : Int)) rfl rfl 28 _ S5.out (by rw [Q82.out]; omega) (by kernel_rfl) rfl rfl ?_; intro w6 b5 g5; rw [HSET2.out] at b5; have S6 := Lib.hid b5; have R6 := Lib.hid (R5.out.grown g5 (fun e => by have := Option.some.inj e; have := NS.out; omega)); have T6 := Lib.hid (T5.out.grown g5 (fun e => by have := Option.some.inj e; have := NS.out; omega)); have V6 := Lib.hid (V5.out.grown g5 (.inr fun e => by have e2 : vb = sb := Option.some.inj e; have := NV.out; omega)); have W6 := Lib.hid (W5.out.grown g5 W5.out.size (fun g hg => by have := Option.some.inj hg; have := NS.out; omega)); clear b5 g5))
                  exact ⟨⟨_, _, _, _, _, _, _, _, _, _, _, _, _, _, _, _, _, _, _, _, _, ⟨a + 1, by omega, by go_num, S6.out, R6.out, T6.out, V6.out, W6.out⟩, rfl⟩, by simp [intOf]; omega⟩
                · obtain rfl : a = 32 := by omega
                  clear hla ha
                  rw [mids_all HC128.out] at SR
                  obtain ⟨s, hs⟩ : ∃ s, s = read c := ⟨_, rfl⟩
                  have HSOK := Lib.hid (show Sok s by rw [hs]; exact read_ok HC128.out HCB.out)
                  rw [← hs] at SR
                  have HM0 := fun W => rmay_any s HSOK.out W
                  obtain ⟨SC, hSC⟩ : ∃ C, C = slc s := ⟨_, rfl⟩
                  obtain ⟨m, hm⟩ : ∃ m, m = may s := ⟨_, rfl⟩
                  rw [← hSC] at SR HM0
                  rw [← hm] at HM0
                  have HM := Lib.hid HM0
                  have S82 := Lib.hid (show SC.length = 82 by rw [hSC]; exact slc_len HSOK.out)
                  have SONE := Lib.hid (show SC.toArray.all (·.oneCell') = true by rw [hSC]; exact slc_all _)
                  have HMM := Lib.hid (show m = may (read (piece b k)) by rw [hm, hs, HCE.out])
                  have HTK := Lib.hid (tab_ok HBL.out.symm HBY.out k)
                  have HSPL := Lib.hid (show splice (tbc (tab b k)) (k * 82) SC = tbc (tab b (k + 1)) by rw [hSC, tbc_set HTK.out.ok k HSOK.out (by rw [HTK.out.len]; exact hlt), hs, HCE.out, tab_step b k hlt])
                  have T656 := Lib.hid (tbc_len HTK.out)
                  clear hs hSC hm HM0
                  cases m with
                  | false =>
                    have RES := HNO.out (fun h => by have := h.2.1 k hlt; rw [← HMM.out] at this; cases this)
                    go_wp2_with (first
                      | (refine wpList_load_mid rfl 28 (.tmp 7) rfl sb 0 rfl SC _ SR.out.range Tryd.underlying28 rfl (by rw [S82.out]; exact infoSl) ?_)
                      | (go_at_call 35; (with_reducible refine (HM.out _).mono ?_); rintro e w7 ⟨rfl, b7⟩; have R7 := Lib.hid (RR.out.below b7 RR.out.lt); have W7 := Lib.hid (WR.out.on b7); clear b7)
                      | (refine wpList_buildTo rfl 34 _ rfl (some 75) rfl Z0.toArray (Eq.trans (b := Tryd.prog.built 34 []) (by kernel_rfl) hbz) ?_)
                      | (refine wpList_store_blk rfl 34 (.tmp 2) (.tmp 75) rfl w.heap.size 0 Z0 rfl rfl 34 Z0 R7.out (Nat.le_of_eq (Nat.zero_add _)) (by rw [hz656]; exact infoTr) ZONE.out ?_; intro w8 b8 g8; rw [splice_all _ _ rfl] at b8; have U8 := Lib.hid b8; have W8 := Lib.hid (W7.out.grown g8 W7.out.size (fun g hg => by have := Option.some.inj hg; omega)); clear b8 g8))
                    exact bodyPost_ret (results_mid2 rfl _ _ w.heap.size Z0 _ rfl U8.out.range Tryd.underlying34 rfl (by rw [hz656]; exact infoTr)) rfl ⟨Eq.trans (b := Ending.returned (.tuple #[.agg Z0.toArray, .int .i64 4])) rfl RES, W8.out⟩
                  | true =>
                    have MAY2 := Lib.hid (fun j (hj : j < k + 1) => show may (read (piece b j)) = true by
                      rcases Nat.lt_succ_iff_lt_or_eq.1 hj with h | rfl
                      · exact HMAY.out j h
                      · exact HMM.out.symm)
                    go_wp2_with (first
                      | (refine wpList_load_mid rfl 28 (.tmp 7) rfl sb 0 rfl SC _ SR.out.range Tryd.underlying28 rfl (by rw [S82.out]; exact infoSl) ?_)
                      | (go_at_call 35; (with_reducible refine (HM.out _).mono ?_); rintro e w7 ⟨rfl, b7⟩; have S7 := Lib.hid (SR.out.below b7 SR.out.lt); have R7 := Lib.hid (RR.out.below b7 RR.out.lt); have T7 := Lib.hid (TR.out.below b7 TR.out.lt); have V7 := Lib.hid (VR.out.below b7); have W7 := Lib.hid (WR.out.on b7); clear b7)
                      | (refine wpList_load_mid rfl 28 (.tmp 7) rfl sb 0 rfl SC _ S7.out.range Tryd.underlying28 rfl (by rw [S82.out]; exact infoSl) ?_)
                      | (refine wpList_store_blk rfl 28 (.tmp 78) (.tmp 77) rfl (w.heap.size + 1) (k * 82) SC rfl rfl 34 (tbc (tab b k)) T7.out (by rw [S82.out, T656.out]; omega) (by rw [S82.out]; exact infoSl) SONE.out ?_; intro w8 b8 g8; rw [HSPL.out] at b8; have T8 := Lib.hid b8; have R8 := Lib.hid (R7.out.grown g8 (fun e => by have := Option.some.inj e; omega)); have V8 := Lib.hid (V7.out.grown g8 (.inr fun e => by have e2 : vb = w.heap.size + 1 := Option.some.inj e; exact absurd e2 (Nat.ne_of_lt NVT.out))); have W8 := Lib.hid (W7.out.grown g8 W7.out.size (fun g hg => by have := Option.some.inj hg; omega)); clear b8 g8))
                    exact ⟨⟨k + 1, by omega, by go_num, MAY2.out, R8.out, T8.out, V8.out, W8.out⟩, by simp [intOf]; omega⟩
      · obtain rfl : k = 8 := by omega
        rw [tab_all] at TR
        have HTOK := Lib.hid (reads_ok HBL.out.symm HBY.out)
        have HPT0 := fun W => rtput_any (reads b) HTOK.out W
        have T6560 := tbc_len HTOK.out
        have TALL0 := tbc_all (reads b)
        obtain ⟨PB, hPB⟩ : ∃ l, l = put (reads b) := ⟨_, rfl⟩
        have bPB : ∀ j, gb PB j < 256 := by rw [hPB]; exact put_byte HTOK.out.ok
        obtain ⟨TC, hTC⟩ : ∃ C, C = tbc (reads b) := ⟨_, rfl⟩
        rw [← hTC] at TR HPT0 T6560 TALL0
        rw [← hPB] at HPT0
        have HPT := Lib.hid HPT0
        have T656 := Lib.hid T6560
        have TALL := Lib.hid TALL0
        obtain ⟨NQ, hNQ⟩ : ∃ q, q = !decide (bstr PB = bstr b) := ⟨_, rfl⟩
        have hnq : ∀ w, (binOp .neq 9 (.string (bstr PB)) (.string (bstr b))).run Tryd.prog w = .ok (.bool NQ) w := fun w => by rw [hNQ]; exact run_neq_str _ _ w
        have HNQ := Lib.hid (show NQ = !decide (PB = b) by rw [hNQ]; congr 1; exact decide_eq_decide.2 (bstr_iff bPB HBY.out))
        have HIS := Lib.hid (show isPut b ↔ PB = b by
          unfold isPut
          rw [← hPB]
          exact ⟨fun h => h.2.2, fun h => ⟨HBL.out.symm, HMAY.out, h⟩⟩)
        have HTE := Lib.hid hTC
        clear HPT0 T6560 TALL0 bPB hPB hTC hNQ
        go_upto_region 21 with fail
        refine wp_region_g (by kernel_rfl) 6 (by decide) (by kernel_rfl) (by kernel_rfl) (by kernel_rfl) (wr.heap.size) (Nat.le_refl _) [.val (.agg TC.toArray), .own (PB), .val (.string (bstr PB)), .val (.slice (some ⟨vb, vo, none⟩) 1024 vc), .val (.string (bstr b)), .val (.bool NQ)] (fun _ => 6) ?_ ?_
        · refine ⟨?_, ?_, ?_, ?_, ?_, ?_, trivial⟩
          · intro a w' hF hB hd
            have e4 : a.eval (.tmp 4) = .pointer (some ⟨(w.heap.size + 1), 0, none⟩) := hF 4 (by decide +kernel)
            exact doesG_wp rfl rfl fun K' hK' => wp_load_mid 34 (.tmp 4) rfl (w.heap.size + 1) 0 e4 TC _ (TR.out.below hB TR.out.lt).range Tryd.underlying34 rfl (by rw [T656.out]; exact infoTr) (hK' _ _ rfl (Below.refl _ _))
          · intro a w' hF hB hd
            have e79 : a.eval (.tmp 79) = .agg TC.toArray := hd 0 (by decide +kernel) (.inr (by decide))
            exact doesG_made rfl (ex_call (vs := #[.agg TC.toArray]) rfl (by simp only [List.map_toArray, List.map_cons, List.map_nil, e79]) (by go_simp)) ((HPT.out w').mono fun e w2 hh => by obtain ⟨v, he, ho, hb⟩ := hh; exact ⟨v, he, ho.lower hB.size, hb, fun g hg => ho.from g (own_held' ho.rd hg)⟩)
          · intro a w' hF hB hd
            have e80 : Own w' wr.heap.size (a.eval (.tmp 80)) (PB) := hd 1 (by decide +kernel) (.inr (by decide))
            exact doesG_val rfl (ex_convert rfl rfl e80.rd.str) rfl rfl
          · intro a w' hF hB hd
            have e0 : a.eval (.tmp 0) = .slice (some ⟨vb, vo, none⟩) 1024 vc := hF 0 (by decide +kernel)
            exact doesG_val rfl (ex_move rfl e0) rfl rfl
          · intro a w' hF hB hd
            have e82 : a.eval (.tmp 82) = .slice (some ⟨vb, vo, none⟩) 1024 vc := hd 3 (by decide +kernel) (.inr (by decide))
            exact doesG_val rfl (ex_convert rfl e82 ((VR.out.below hB).str)) rfl rfl
          · intro a w' hF hB hd
            have e81 : a.eval (.tmp 81) = .string (bstr PB) := hd 2 (by decide +kernel) (.inr (by decide))
            have e83 : a.eval (.tmp 83) = .string (bstr b) := hd 4 (by decide +kernel) (.inr (by decide))
            exact doesG_val rfl (ex_binOp rfl e81 e83 (by go_simp) (hnq w')) rfl rfl
        · intro vs wz hb hv hap
          have ee : vs 5 = .bool NQ := hv 5 (by decide) (by decide)
          simp only [List.take_succ_cons, List.take_zero, List.drop_succ_cons, List.drop_zero, putOps, Act.put, List.setIfInBounds_toArray, List.set_cons_zero, List.set_cons_succ, ee]
          have RZ := Lib.hid (RR.out.below hb RR.out.lt)
          have TZ := Lib.hid (TR.out.below hb TR.out.lt)
          have WZ := Lib.hid (WR.out.on hb)
          clear hv hap ee hb hnq
          generalize vs 0 = z0 at *; generalize vs 1 = z1 at *; generalize vs 2 = z2 at *; generalize vs 3 = z3 at *; generalize vs 4 = z4 at *
          by_cases hpb : PB = b
          · obtain rfl : NQ = false := by rw [HNQ.out, decide_eq_true hpb]; rfl
            have hg := got_is (HIS.out.2 hpb)
            have RES : (Ending.returned (.tuple #[.agg TC.toArray, .int .i64 0]) : Ending) = .returned (.tuple #[.agg RT.toArray, .int .i64 RE]) := by rw [HRT.out, HRE.out, hg.1, hg.2, ← HTE.out]
            clear hg
            go_wp2_with (first
              | (refine wpList_load_mid rfl 34 (.tmp 4) rfl (w.heap.size + 1) 0 rfl TC _ TZ.out.range Tryd.underlying34 rfl (by rw [T656.out]; exact infoTr) ?_)
              | (refine wpList_store_blk rfl 34 (.tmp 2) (.tmp 86) rfl w.heap.size 0 TC rfl rfl 34 Z0 RZ.out (by rw [T656.out, hz656]; exact Nat.le_refl _) (by rw [T656.out]; exact infoTr) TALL.out ?_; intro w8 b8 g8; rw [splice_all _ _ (by rw [T656.out, hz656])] at b8; have U8 := Lib.hid b8; have W8 := Lib.hid (WZ.out.grown g8 WZ.out.size (fun g hg => by have := Option.some.inj hg; omega)); clear b8 g8))
            exact bodyPost_ret (results_mid2 rfl _ _ w.heap.size TC _ rfl U8.out.range Tryd.underlying34 rfl (by rw [T656.out]; exact infoTr)) rfl ⟨Eq.trans (b := Ending.returned (.tuple #[.agg TC.toArray, .int .i64 0])) rfl RES, W8.out⟩
          · obtain rfl : NQ = true := by rw [HNQ.out, decide_eq_false hpb]; rfl
            have RES := HNO.out (fun h => hpb (HIS.out.1 h))
            go_wp2_with (first
              | (refine wpList_buildTo rfl 34 _ rfl (some 85) rfl Z0.toArray (Eq.trans (b := Tryd.prog.built 34 []) (by kernel_rfl) hbz) ?_)
              | (refine wpList_store_blk rfl 34 (.tmp 2) (.tmp 85) rfl w.heap.size 0 Z0 rfl rfl 34 Z0 RZ.out (Nat.le_of_eq (Nat.zero_add _)) (by rw [hz656]; exact infoTr) ZONE.out ?_; intro w8 b8 g8; rw [splice_all _ _ rfl] at b8; have U8 := Lib.hid b8; have W8 := Lib.hid (WZ.out.grown g8 WZ.out.size (fun g hg => by have := Option.some.inj hg; omega)); clear b8 g8))
            exact bodyPost_ret (results_mid2 rfl _ _ w.heap.size Z0 _ rfl U8.out.range Tryd.underlying34 rfl (by rw [hz656]; exact infoTr)) rfl ⟨Eq.trans (b := Ending.returned (.tuple #[.agg Z0.toArray, .int .i64 4])) rfl RES, W8.out⟩
  · have hlz : ¬ (bl : Int) = 1024 := by omega
    have RES := HNO.out (fun h => hlen (HBL.out.trans h.1))
    go_enter Tryd.func17, Tryd.ntmps17
    go_wp2_with (first
      | (refine wpList_load_mid rfl 34 (.tmp 4) rfl (w.heap.size + 1) 0 rfl Z0 _ T2.out.range Tryd.underlying34 rfl (by rw [hz656]; exact infoTr) ?_)
      | (refine wpList_store_blk rfl 34 (.tmp 2) (.tmp 13) rfl w.heap.size 0 Z0 rfl rfl 34 Z0 R2.out (Nat.le_of_eq (Nat.zero_add _)) (by rw [hz656]; exact infoTr) ZONE.out ?_; intro w6 b6 g6; rw [splice_all _ _ rfl] at b6; have U6 := Lib.hid b6; have W6 := Lib.hid (W2.out.grown g6 W2.out.size (fun g hg => by have := Option.some.inj hg; omega)); clear b6 g6))
    exact bodyPost_ret (results_mid2 rfl _ _ w.heap.size Z0 _ rfl U6.out.range Tryd.underlying34 rfl (by rw [hz656]; exact infoTr)) rfl ⟨Eq.trans (b := Ending.returned (.tuple #[.agg Z0.toArray, .int .i64 4])) rfl RES, W6.out⟩
end Go.Proofs.YtbepchikngoknaaDoor

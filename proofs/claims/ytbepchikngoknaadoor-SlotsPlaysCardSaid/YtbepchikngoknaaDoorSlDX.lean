/- Texts of one subject in one file: SlKey, SlMay, SlOpenR. Own work. -/
import Derived.Test.YtbepchikngoknaaDoorSlN
import Derived.Test.YtbepchikngoknaaDoorKdfR
import Derived.Test.YtbepchikngoknaaDoorShaD
import Derived.BigQuiet
import Derived.Test.YtbepchikngoknaaDoorReg
import Derived.Great.BuildSlice
import Derived.Test.YtbepchikngoknaaDoorWrapR
import Derived.Test.YtbepchikngoknaaDoorLoadWanted
import Derived.Test.YtbepchikngoknaaDoorFactX
import Derived.Test.YtbepchikngoknaaDoorFillTo
/- The key that a passphrase makes of a slot: contracts. Own work. -/
namespace Go.Proofs.YtbepchikngoknaaDoor
open Go.ChangeShapes Go.WideShapes Go.ChangeAt Go.RowKit
open SM SL
/-- Of 32 bytes the first k, noughts behind. -/
def begun (K : List Nat) (k : Nat) : List Nat := (List.range 32).map fun j => if j < k then gb K j else 0
theorem begun_len (K : List Nat) (k : Nat) : (begun K k).length = 32 := by simp [begun]
theorem begun_get (K : List Nat) (k j : Nat) (hj : j < 32) : gb (begun K k) j = if j < k then gb K j else 0 := by
  unfold begun; rw [gb_map, if_pos hj]
theorem begun_zero (K : List Nat) : begun K 0 = List.replicate 32 0 := bytes_ext (n := 32) (begun_len _ _) rfl fun j hj => by
  rw [begun_get _ _ _ hj, if_neg (by omega)]; unfold gb; rw [List.getD_eq_getElem?_getD, List.getElem?_replicate, if_pos hj]; rfl
theorem begun_all {K : List Nat} (h : K.length = 32) : begun K 32 = K := bytes_ext (n := 32) (begun_len _ _) h fun j hj => by rw [begun_get _ _ _ hj, if_pos hj]
theorem begun_step (K : List Nat) (k : Nat) (hk : k < 32) : (begun K k).set k (gb K k) = begun K (k + 1) := bytes_ext (n := 32) (by rw [List.length_set, begun_len]) (begun_len _ _) fun j hj => by
  rw [gb_set _ _ _ _ (by rw [begun_len]; exact hk), begun_get _ _ _ hj, begun_get _ _ _ hj]
  by_cases e : k = j
  · subst e; rw [if_pos rfl, if_pos (by omega)]
  · rw [if_neg e]
    by_cases h : j < k
    · rw [if_pos h, if_pos (by omega)]
    · rw [if_neg h, if_neg (by omega)]
set_option maxRecDepth 100000 in
set_option maxHeartbeats 1000000 in
theorem rkey_any (p salt : List Nat) (t : Nat) (v : Value) (w : World) (hp : p.length ≤ 512) (hs : Bytes 16 salt) (h1 : 1 ≤ t) (h2 : t ≤ 4096) (hv : Rd w v p) (hT : Tab w) :
    Calls Tryd.prog 38 #[v, .agg (row8 salt).toArray, .int .i64 (t : Int)] w fun e w' => e = .returned (.agg (row8 (key p salt t)).toArray) ∧ Below w.heap.size w w' := by
  obtain ⟨va, vc, rfl, hvc⟩ := hv.shape
  obtain ⟨he, hk⟩ := kerr_none hp hs h1 h2
  have hb := key_bytes p salt t
  obtain ⟨S, hS⟩ : ∃ S, S = row8 salt := ⟨_, rfl⟩
  obtain ⟨K, hK⟩ : ∃ K, K = key p salt t := ⟨_, rfl⟩
  obtain ⟨D0, hD0⟩ : ∃ D, D = row8 (List.replicate 32 0) := ⟨_, rfl⟩
  have hz : ∀ w, (zeroValue 25).run Tryd.prog w = .ok (.agg D0.toArray) w := by rw [hD0]; exact zeroK2
  have hd0 : D0.length = 32 := by rw [hD0, row8_len, List.length_replicate]
  have w1 := (Below.refl w.heap.size w).alloc (Nat.le_refl _) (.cells S.toArray 23)
  have w2 := w1.alloc w1.size (.cells D0.toArray 25)
  have hb1 := (Blk.new w 23 S _ rfl).alloc (.cells D0.toArray 25)
  have hb2 := Blk.new (w.alloc (.cells S.toArray 23)) 25 D0 (w.heap.size + 1) (by simp)
  have hr : Rd ((w.alloc (.cells S.toArray 23)).alloc (.cells D0.toArray 25)) (.slice (some ⟨w.heap.size, 0, none⟩) 16 16) salt := rd_range (by rw [← hS]; exact hb1.range) hs (by decide)
  have F := Lib.hid (rderive_any p salt (t : Int) 32 _ _ _ ((hv.alloc _).alloc _) hr (hT.below w2))
  rw [he, hk, ← hK] at F
  rw [← hK, ← hS]
  rw [← hK] at hb
  have W2 := Lib.hid w2
  have B2 := Lib.hid hb2
  have HK := Lib.hid hb
  have HD0 := Lib.hid hD0
  clear hv hT he hk hK hS hs hp h1 h2 w1 w2 hb1 hb2 hr hvc hD0
  go_enter Tryd.func38, Tryd.ntmps38
  go_wp2_with (first
    | (go_at_call 60; (with_reducible refine F.out.mono ?_); rintro e w4 ⟨y, rfl, r4, b4⟩; obtain ⟨ya, yc, rfl, _⟩ := r4.shape; have R4 := Lib.hid r4; have W4 := Lib.hid (W2.out.on b4); have B4 := Lib.hid (B2.out.below b4 B2.out.lt); clear r4 b4)
    | fail)
  obtain ⟨kl, hkl⟩ : ∃ n, n = K.length := ⟨_, rfl⟩
  have HKL := Lib.hid (hkl.trans HK.out.1)
  have R5 := Lib.hid (R4.out.alloc (.cells D0.toArray 25))
  have B5 := Lib.hid (B4.out.alloc (.cells D0.toArray 25))
  have C5 := Lib.hid (Blk.new w4 25 D0 _ rfl)
  have W5 := Lib.hid (W4.out.alloc W4.out.size (.cells D0.toArray 25))
  obtain ⟨kb, hkb⟩ : ∃ b, b = w4.heap.size := ⟨_, rfl⟩
  rw [← hkb] at C5 ⊢
  have hkl32 := HKL.out
  obtain ⟨yb, yo, rfl, _⟩ := rd_spot R4.out 0 (by rw [← hkl]; omega)
  have NY := Lib.hid (show yb ≠ kb from fun e => R4.out.old (by rw [← hkl]; omega) kb (by rw [hkb]; exact Nat.le_refl _) (by rw [← e]; rfl))
  obtain ⟨w6, hw6⟩ : ∃ w6, w6 = w4.alloc (.cells D0.toArray 25) := ⟨_, rfl⟩
  rw [← hw6] at R5 B5 C5 W5 ⊢
  rw [HD0.out, ← begun_zero K] at C5
  rw [← hkl] at R5 ⊢
  have NE := Lib.hid (show w.heap.size + 1 ≠ kb by rw [hkb]; exact Nat.ne_of_lt B4.out.lt)
  have hb256 := HK.out.2
  have HKB := Lib.hid (show w.heap.size ≤ kb by rw [hkb]; exact W4.out.size)
  clear hw6 hkb hb R4 B4 W4 F W2 B2
  go_loopw [10] (fun x wr => ∃ k : Nat, k ≤ 32 ∧ x = .int .i64 (k : Int) ∧ Blk wr kb 25 (row8 (begun K k)) ∧ Rd wr (.slice (some ⟨yb, yo, none⟩) kl yc) K ∧ Blk wr (w.heap.size + 1) 25 D0 ∧ Below w.heap.size w wr) (fun x _ => 32 - (intOf x).toNat)
  case atStart => exact ⟨0, by decide, rfl, C5.out, R5.out, B5.out, W5.out⟩
  case round =>
    clear C5 R5 B5 W5
    obtain ⟨k, hk, rfl, hb, hr, hd, hw⟩ := hrel
    have HB := Lib.hid hb
    have HR := Lib.hid hr
    have HD := Lib.hid hd
    have HW := Lib.hid hw
    by_cases hlt : k < 32
    · obtain ⟨b2, o2, e2, cy⟩ := rd_spot hr k (by rw [← hkl]; omega)
      cases e2
      have hx := hb256 k
      obtain ⟨x, hxe⟩ : ∃ x, x = gb K k := ⟨_, rfl⟩
      rw [← hxe] at cy hx
      have HX := Lib.hid hxe
      have ck := hb.cell k _ (row8_val _ k (by rw [begun_len]; exact hlt))
      have fk := hb.free k
      have hklt : (k : Int) < (kl : Int) := by omega
      have hnn : (0 : Int) ≤ (k : Int) := by omega
      clear hb hr hd hw hxe hb256
      go_wp2_with fail
      refine ⟨⟨k + 1, by omega, by go_num, ?_, ?_, ?_, ?_⟩, by simp [intOf]; omega⟩
      · have h := HB.out.set k (.int .u8 (x : Int))
        rw [row8_set, HX.out, begun_step K k hlt, ← HX.out] at h
        exact h
      · exact HR.out.setCell _ _ (fun e => NY.out (Option.some.inj e))
      · exact HD.out.other _ _ NE.out
      · exact HW.out.setCell HKB.out _
    · obtain rfl : k = 32 := by omega
      have hlt2 : ¬ ((32 : Nat) : Int) < (kl : Int) := by omega
      rw [begun_all HK.out.1] at HB
      have K32 := Lib.hid (show (row8 K).length = 32 by rw [row8_len]; exact HK.out.1)
      clear hb hr hd hw hb256
      go_wp2_with (first
        | (refine wpList_load_mid rfl 25 (.tmp 9) rfl kb 0 rfl (row8 K) _ HB.out.range Tryd.underlying25 rfl (by rw [K32.out]; exact infoK2) ?_)
        | (refine wpList_store_blk rfl 25 (.tmp 6) (.tmp 30) rfl (w.heap.size + 1) 0 (row8 K) rfl rfl 25 D0 HD.out (by rw [K32.out, hd0]; exact Nat.le_refl _) (by rw [K32.out]; exact infoK2) (row8_one _) ?_; intro w5 b5 g5; rw [splice_all _ _ (by rw [K32.out, hd0])] at b5; have U5 := Lib.hid b5; have W5 := Lib.hid (HW.out.grown g5 HW.out.size (fun g hg => by have := Option.some.inj hg; omega)); clear b5 g5))
      exact bodyPost_ret (results_mid rfl _ _ (w.heap.size + 1) (row8 K) _ rfl U5.out.range Tryd.underlying25 rfl (by rw [K32.out]; exact infoK2)) rfl ⟨rfl, W5.out⟩
end Go.Proofs.YtbepchikngoknaaDoor
/- May a slot be; how many are used: contracts, the document's and the program's. Own work. -/
namespace Go.Proofs.YtbepchikngoknaaDoor
open Go.ChangeShapes Go.WideShapes Go.ChangeAt Go.RowKit
open SL
set_option maxRecDepth 100000 in
theorem rmay_any (s : Slot) (hs : Sok s) (w : World) : Calls Tryd.prog 35 #[.agg (slc s).toArray] w fun e w' => e = .returned (.bool (may s)) ∧ Below w.heap.size w w' := by
  obtain ⟨L, hL⟩ : ∃ L, L = slc s := ⟨_, rfl⟩
  obtain ⟨Z, hZ⟩ : ∃ Z, Z = slc none_ := ⟨_, rfl⟩
  obtain ⟨n, hn⟩ : ∃ n, n = s.turns := ⟨_, rfl⟩
  obtain ⟨R, hR⟩ : ∃ R, R = may s := ⟨_, rfl⟩
  have hl : L.length = 82 := by rw [hL]; exact slc_len hs
  have HIL := Lib.hid (show (Tryd.prog.info? 28).map (·.size) = some L.length by rw [hl]; exact infoSl)
  have c0 : (w.alloc (.cells L.toArray 28)).cell? ⟨w.heap.size, 0, none⟩ = some (.bool s.used) := (Blk.new w 28 L _ rfl).cell 0 _ (by rw [hL]; rfl)
  have c1 : (w.alloc (.cells L.toArray 28)).cell? ⟨w.heap.size, 1, none⟩ = some (.int .u16 (n : Int)) := (Blk.new w 28 L _ rfl).cell 1 _ (by rw [hL, hn]; rfl)
  have HB := Lib.hid (Blk.new w 28 L _ rfl)
  have hn2 : n < 65536 := by rw [hn]; exact hs.turns
  rw [← hL, ← hR]
  cases hu : s.used with
  | true =>
    rw [hu] at c0
    have hR2 := hR.trans (may_used hu)
    rw [← hn] at hR2
    clear hL hn hR hs hl HB HIL
    by_cases h1 : 1 ≤ n
    · by_cases h2 : n ≤ 4096
      · rw [decide_eq_true ⟨h1, h2⟩] at hR2
        have a1 : (1 : Int) ≤ (n : Int) := by omega
        have a2 : (n : Int) ≤ 4096 := by omega
        have aw : IntKind.i64.wrap (n : Int) = (n : Int) := by rw [IntKind.wrap_i64]; omega
        rw [hR2]
        go_enter Tryd.func35, Tryd.ntmps35
        go_wp2_with fail
        go_ret
        exact ⟨rfl, (Below.refl _ _).alloc (Nat.le_refl _) _⟩
      · rw [decide_eq_false (fun h => h2 h.2)] at hR2
        have a1 : (1 : Int) ≤ (n : Int) := by omega
        have a2 : ¬ (n : Int) ≤ 4096 := by omega
        have aw : IntKind.i64.wrap (n : Int) = (n : Int) := by rw [IntKind.wrap_i64]; omega
        rw [hR2]
        go_enter Tryd.func35, Tryd.ntmps35
        go_wp2_with fail
        go_ret
        exact ⟨rfl, (Below.refl _ _).alloc (Nat.le_refl _) _⟩
    · rw [decide_eq_false (fun h => h1 h.1)] at hR2
      have a1 : ¬ (1 : Int) ≤ (n : Int) := by omega
      rw [hR2]
      go_enter Tryd.func35, Tryd.ntmps35
      go_wp2_with fail
      go_ret
      exact ⟨rfl, (Below.refl _ _).alloc (Nat.le_refl _) _⟩
  | false =>
    rw [hu] at c0
    have hR2 := hR.trans (may_not hu)
    have he : ∀ w, (binOp .eql 28 (.agg L.toArray) (.agg Z.toArray)).run Tryd.prog w = .ok (.bool R) w := by rw [hL, hZ, hR2]; exact run_eql_slot hs none_ok
    have hq := eqTypeSl
    have hbu : Tryd.prog.built 28 [] = some Z.toArray := by rw [hZ]; exact builtSl
    clear hL hn hR hs hl hR2 hZ
    go_enter Tryd.func35, Tryd.ntmps35
    go_wp2_with (first
      | (refine wpList_load_mid rfl 28 (.tmp 1) rfl w.heap.size 0 rfl L _ HB.out.range Tryd.underlying28 rfl HIL.out ?_)
      | (refine wpList_buildTo rfl 28 _ rfl (some 7) rfl Z.toArray (Eq.trans (b := Tryd.prog.built 28 []) (by kernel_rfl) hbu) ?_)
      | (refine wpList_bin rfl (b := .eql) (t := 28) (x := .tmp 6) (y := .tmp 7) rfl (.bool R) rfl rfl (run_eqGuard_agg _ _ _ _ _ _ _ hq) (he _) ?_))
    go_ret
    exact ⟨rfl, (Below.refl _ _).alloc (Nat.le_refl _) _⟩
end Go.Proofs.YtbepchikngoknaaDoor
/- The document's passphrases: which key is opened, and by which slot: contract. Written by gen_slopen.py. Own work. -/
namespace Go.Proofs.YtbepchikngoknaaDoor
open Go.ChangeShapes Go.WideShapes Go.ChangeAt Go.RowKit
open SM AM WM SL
set_option maxRecDepth 100000 in
set_option maxHeartbeats 4000000 in
theorem ropen_any (T : List Slot) (hT : Tok T) (p : List Nat) (v : Value) (w : World) (hv : Rd w v p) (ha : TabA w) (hk : Tab w) :
    Calls Tryd.prog 20 #[.agg (tbc T).toArray, v] w fun e w' => e = .returned (.tuple #[.agg (row8 (okey T p)).toArray, .int .i64 (oidx T p : Int), .int .i64 (oerr T p)]) ∧ Below w.heap.size w w' := by
  obtain ⟨va, vc, rfl, _⟩ := hv.shape
  obtain ⟨L, hL⟩ : ∃ L, L = tbc T := ⟨_, rfl⟩
  obtain ⟨pl, hpl⟩ : ∃ n, n = p.length := ⟨_, rfl⟩
  obtain ⟨D0, hD0⟩ : ∃ D, D = row8 (List.replicate 32 0) := ⟨_, rfl⟩
  obtain ⟨D1, hD1⟩ : ∃ D, D = slc none_ := ⟨_, rfl⟩
  obtain ⟨RK, hRK⟩ : ∃ x, x = okey T p := ⟨_, rfl⟩
  obtain ⟨RI, hRI⟩ : ∃ x, x = oidx T p := ⟨_, rfl⟩
  obtain ⟨RE, hRE⟩ : ∃ x, x = oerr T p := ⟨_, rfl⟩
  have hz : ∀ w, (zeroValue 25).run Tryd.prog w = .ok (.agg D0.toArray) w := by rw [hD0]; exact zeroK2
  have hz1 : ∀ w, (zeroValue 28).run Tryd.prog w = .ok (.agg D1.toArray) w := by rw [hD1]; exact zeroSl
  have hd0 : D0.length = 32 := by rw [hD0, row8_len, List.length_replicate]
  have hd1 : D1.length = 82 := by rw [hD1]; exact slc_len none_ok
  have hbk : Tryd.prog.built 25 [] = some D0.toArray := by rw [hD0]; kernel_rfl
  have w1 := (Below.refl w.heap.size w).alloc (Nat.le_refl _) (.cells L.toArray 34)
  have W2 := Lib.hid (w1.alloc w1.size (.cells D0.toArray 25))
  have T2 := Lib.hid ((Blk.new w 34 L _ rfl).alloc (.cells D0.toArray 25))
  have R2 := Lib.hid (Blk.new (w.alloc (.cells L.toArray 34)) 25 D0 (w.heap.size + 1) (by simp))
  have HONE0 := Lib.hid (show D0.toArray.all (·.oneCell') = true by rw [hD0]; exact row8_one _)
  have HL := Lib.hid hL
  have HD0 := Lib.hid hD0
  have HT := Lib.hid hT
  have HPL := Lib.hid hpl
  have HRES := Lib.hid (show RE = oerr T p ∧ RI = oidx T p ∧ RK = okey T p from ⟨hRE, hRI, hRK⟩)
  have HV := Lib.hid hv
  have HA := Lib.hid ha
  have HK := Lib.hid hk
  rw [← hpl] at HV ⊢
  rw [← hL, ← hRK, ← hRI, ← hRE]
  clear w1 hv ha hk hL hRK hRI hRE hT hpl hD1 hD0
  by_cases hlong : 512 < pl
  · obtain ⟨rfl, rfl, hrk⟩ : RE = 5 ∧ RI = 0 ∧ row8 RK = D0 := by
      have h := o_long (T := T) (p := p) (by rw [← HPL.out]; exact hlong)
      have g := HRES.out
      exact ⟨g.1.trans h.1, g.2.1.trans h.2.1, by rw [g.2.2, h.2.2, ← HD0.out]⟩
    rw [hrk]
    have hlz : (512 : Int) < (pl : Int) := by omega
    clear HRES hrk
    go_enter Tryd.func20, Tryd.ntmps20
    go_wp2_with (first
      | (refine wpList_buildTo rfl 25 _ rfl (some 14) rfl D0.toArray (Eq.trans (b := Tryd.prog.built 25 []) (by kernel_rfl) hbk) ?_)
      | (refine wpList_store_blk rfl 25 (.tmp 4) (.tmp 14) rfl (w.heap.size + 1) 0 D0 rfl rfl 25 D0 R2.out (Nat.le_of_eq (Nat.zero_add _)) (by rw [hd0]; exact infoK2) HONE0.out ?_; intro w5 b5 g5; rw [splice_all _ _ rfl] at b5; have U5 := Lib.hid b5; have W5 := Lib.hid (W2.out.grown g5 W2.out.size (fun g hg => by have := Option.some.inj hg; omega)); clear b5 g5))
    exact bodyPost_ret (results_mid3 rfl _ _ (w.heap.size + 1) D0 _ rfl U5.out.range Tryd.underlying25 rfl (by rw [hd0]; exact infoK2)) rfl ⟨rfl, W5.out⟩
  · have hlz : ¬ (512 : Int) < (pl : Int) := by omega
    have HSH := Lib.hid (show p.length ≤ 512 by have := HPL.out; omega)
    go_enter Tryd.func20, Tryd.ntmps20
    go_wp2_with fail
    obtain ⟨w2, hw2⟩ : ∃ x, x = (w.alloc (.cells L.toArray 34)).alloc (.cells D0.toArray 25) := ⟨_, rfl⟩
    rw [← hw2] at W2 T2 R2 ⊢
    clear hw2
    go_loopw [7] (fun x wr => ∃ k : Nat, k ≤ 8 ∧ x = .int .i64 (k : Int) ∧ (∀ j, j < k → opensAt p (at_ T j) = false) ∧ Blk wr w.heap.size 34 L ∧ Blk wr (w.heap.size + 1) 25 D0 ∧ Below w.heap.size w wr) (fun x _ => 8 - (intOf x).toNat)
    case atStart => exact ⟨0, by decide, rfl, fun j hj => absurd hj (Nat.not_lt_zero j), T2.out, R2.out, W2.out⟩
    case round =>
      clear W2 T2 R2
      obtain ⟨k, hk8, rfl, hno, ht, hr, hw⟩ := hrel
      have HNO := Lib.hid hno
      have T3 := Lib.hid ht
      have R3 := Lib.hid hr
      have W3 := Lib.hid hw
      clear hno ht hr hw
      by_cases hlt : k < 8
      · have HS := Lib.hid (HT.out.at_ hlt)
        have HRG0 := Lib.hid (show wr.rangeAt w.heap.size (k * 82) (slc (at_ T k)) by
          have h := T3.out; rw [HL.out] at h; exact h.slot HT.out hlt)
        have S820 := slc_len HS.out
        have SONE0 := slc_all (at_ T k)
        have HM0 := fun W => rmay_any (at_ T k) HS.out W
        obtain ⟨s, hs⟩ : ∃ s, s = at_ T k := ⟨_, rfl⟩
        rw [← hs] at HS HRG0 S820 SONE0 HM0
        have HSE := Lib.hid hs
        obtain ⟨SC, hSC⟩ : ∃ C, C = slc s := ⟨_, rfl⟩
        obtain ⟨m, hm⟩ : ∃ m, m = may s := ⟨_, rfl⟩
        rw [← hSC] at HRG0 S820 SONE0
        rw [← hSC, ← hm] at HM0
        have HRG := HRG0
        have S82 := Lib.hid S820
        have SONE := Lib.hid SONE0
        have HM := Lib.hid HM0
        have HMM := Lib.hid hm
        have HSCE := Lib.hid hSC
        have hc0 : ∀ W b, Blk W b 28 SC → W.cell? ⟨b, 0, none⟩ = some (.bool s.used) := fun W b h => h.cell 0 _ (by rw [HSCE.out]; rfl)
        have HC0 := Lib.hid hc0
        obtain ⟨u, hu⟩ : ∃ u, u = s.used := ⟨_, rfl⟩
        rw [← hu] at HC0
        have HU := Lib.hid hu
        have hklt : (k : Int) < 8 := by omega
        clear hc0 HRG0 S820 SONE0 HM0 hs hSC hm hu
        cases u with
        | false =>
          clear hd0 hbk
          have HC1 := fun W b h => HC0 W b h
          go_upto_region 7 with (first
          | (refine wpList_load_mid rfl 28 (.tmp 20) rfl w.heap.size (k * 82) rfl SC _ HRG.out Tryd.underlying28 rfl (by rw [S82.out]; exact infoSl) ?_)
          | (refine wpList_store_blk rfl 28 (.tmp 8) (.tmp 21) rfl wr.heap.size 0 SC rfl rfl 28 D1 (Blk.new wr 28 D1 _ rfl) (by rw [S82.out, hd1]; exact Nat.le_refl _) (by rw [S82.out]; exact infoSl) SONE.out ?_; intro w3 b3 g3; rw [splice_all _ _ (by rw [S82.out, hd1])] at b3; have S3 := Lib.hid b3; have B3 := Lib.hid (alloc_turn (Below.refl _ _) g3); clear b3 g3)
          | (refine wpList_load_wanted rfl 28 (.tmp 8) rfl wr.heap.size 0 rfl SC _ S3.out.range Tryd.underlying28 rfl (by rw [S82.out]; exact infoSl) ?_)
          | (go_at_call 35; (with_reducible refine (HM.out w3).mono ?_); rintro e w4 ⟨rfl, b4⟩; have S4 := Lib.hid (S3.out.below b4 S3.out.lt); have B4 := Lib.hid (B3.out.on b4); clear b4))
          have c0 := HC0 _ _ S3.out
          have NO2 := Lib.hid (fun j (hj : j < k + 1) => show opensAt p (at_ T j) = false by
            rcases Nat.lt_succ_iff_lt_or_eq.1 hj with h | rfl
            · exact HNO.out j h
            · rw [← HSE.out]; exact opensAt_no (.inl HU.out.symm))
          have WW := Lib.hid (W3.out.on B3.out)
          have TT := Lib.hid (T3.out.below B3.out T3.out.lt)
          have RR := Lib.hid (R3.out.below B3.out R3.out.lt)
          clear HC0 HC1 S3 B3
          go_wp2_with fail
          exact ⟨⟨k + 1, by omega, by go_num, NO2.out, TT.out, RR.out, WW.out⟩, by simp [intOf]; omega⟩
        | true =>
          go_upto_region 7 with (first
          | (refine wpList_load_mid rfl 28 (.tmp 20) rfl w.heap.size (k * 82) rfl SC _ HRG.out Tryd.underlying28 rfl (by rw [S82.out]; exact infoSl) ?_)
          | (refine wpList_store_blk rfl 28 (.tmp 8) (.tmp 21) rfl wr.heap.size 0 SC rfl rfl 28 D1 (Blk.new wr 28 D1 _ rfl) (by rw [S82.out, hd1]; exact Nat.le_refl _) (by rw [S82.out]; exact infoSl) SONE.out ?_; intro w3 b3 g3; rw [splice_all _ _ (by rw [S82.out, hd1])] at b3; have S3 := Lib.hid b3; have B3 := Lib.hid (alloc_turn (Below.refl _ _) g3); clear b3 g3)
          | (refine wpList_load_wanted rfl 28 (.tmp 8) rfl wr.heap.size 0 rfl SC _ S3.out.range Tryd.underlying28 rfl (by rw [S82.out]; exact infoSl) ?_)
          | (go_at_call 35; (with_reducible refine (HM.out w3).mono ?_); rintro e w4 ⟨rfl, b4⟩; have S4 := Lib.hid (S3.out.below b4 S3.out.lt); have B4 := Lib.hid (B3.out.on b4); clear b4))
          have c0 := HC0 _ _ S3.out
          cases m with
          | false =>
            go_wp2_with (first
          | (refine wpList_load_mid rfl 28 (.tmp 20) rfl w.heap.size (k * 82) rfl SC _ HRG.out Tryd.underlying28 rfl (by rw [S82.out]; exact infoSl) ?_)
          | (refine wpList_store_blk rfl 28 (.tmp 8) (.tmp 21) rfl wr.heap.size 0 SC rfl rfl 28 D1 (Blk.new wr 28 D1 _ rfl) (by rw [S82.out, hd1]; exact Nat.le_refl _) (by rw [S82.out]; exact infoSl) SONE.out ?_; intro w3 b3 g3; rw [splice_all _ _ (by rw [S82.out, hd1])] at b3; have S3 := Lib.hid b3; have B3 := Lib.hid (alloc_turn (Below.refl _ _) g3); clear b3 g3)
          | (refine wpList_load_wanted rfl 28 (.tmp 8) rfl wr.heap.size 0 rfl SC _ S3.out.range Tryd.underlying28 rfl (by rw [S82.out]; exact infoSl) ?_)
          | (go_at_call 35; (with_reducible refine (HM.out w3).mono ?_); rintro e w4 ⟨rfl, b4⟩; have S4 := Lib.hid (S3.out.below b4 S3.out.lt); have B4 := Lib.hid (B3.out.on b4); clear b4))
            have NO2 := Lib.hid (fun j (hj : j < k + 1) => show opensAt p (at_ T j) = false by
              rcases Nat.lt_succ_iff_lt_or_eq.1 hj with h | rfl
              · exact HNO.out j h
              · rw [← HSE.out]; exact opensAt_no (.inr HMM.out.symm))
            have WW := Lib.hid (W3.out.on B4.out)
            have TT := Lib.hid (T3.out.below B4.out T3.out.lt)
            have RR := Lib.hid (R3.out.below B4.out R3.out.lt)
            exact ⟨⟨k + 1, by omega, by go_num, NO2.out, TT.out, RR.out, WW.out⟩, by simp [intOf]; omega⟩
          | true =>
            go_upto_region 8 with (first
          | (refine wpList_load_mid rfl 28 (.tmp 20) rfl w.heap.size (k * 82) rfl SC _ HRG.out Tryd.underlying28 rfl (by rw [S82.out]; exact infoSl) ?_)
          | (refine wpList_store_blk rfl 28 (.tmp 8) (.tmp 21) rfl wr.heap.size 0 SC rfl rfl 28 D1 (Blk.new wr 28 D1 _ rfl) (by rw [S82.out, hd1]; exact Nat.le_refl _) (by rw [S82.out]; exact infoSl) SONE.out ?_; intro w3 b3 g3; rw [splice_all _ _ (by rw [S82.out, hd1])] at b3; have S3 := Lib.hid b3; have B3 := Lib.hid (alloc_turn (Below.refl _ _) g3); clear b3 g3)
          | (refine wpList_load_wanted rfl 28 (.tmp 8) rfl wr.heap.size 0 rfl SC _ S3.out.range Tryd.underlying28 rfl (by rw [S82.out]; exact infoSl) ?_)
          | (go_at_call 35; (with_reducible refine (HM.out w3).mono ?_); rintro e w4 ⟨rfl, b4⟩; have S4 := Lib.hid (S3.out.below b4 S3.out.lt); have B4 := Lib.hid (B3.out.on b4); clear b4))
            have hmt := may_turns HU.out.symm HMM.out.symm
            obtain ⟨tn, htn⟩ : ∃ n, n = s.turns := ⟨_, rfl⟩
            obtain ⟨salt, hsalt⟩ : ∃ n, n = s.salt := ⟨_, rfl⟩
            obtain ⟨sld, hsld⟩ : ∃ n, n = s.sld := ⟨_, rfl⟩
            obtain ⟨chk, hchk⟩ : ∃ n, n = s.chk := ⟨_, rfl⟩
            have bsalt := HS.out.salt
            have bsld := HS.out.sld
            have bchk := HS.out.chk
            rw [← hsalt] at bsalt
            rw [← hsld] at bsld
            rw [← hchk] at bchk
            rw [← htn] at hmt
            have HTN := Lib.hid (fun W (h : Blk W wr.heap.size 28 SC) => (show W.cell? ⟨wr.heap.size, 1, none⟩ = some (.int .u16 (tn : Int)) from h.cell 1 _ (by rw [HSCE.out, htn]; rfl)))
            have HSA := Lib.hid (fun W (h : Blk W wr.heap.size 28 SC) => (show W.rangeAt wr.heap.size 2 (row8 salt) by rw [HSCE.out] at h; rw [hsalt]; exact h.salt))
            have HSD := Lib.hid (fun W (h : Blk W wr.heap.size 28 SC) => (show W.rangeAt wr.heap.size 18 (row8 sld) by rw [HSCE.out] at h; rw [hsld]; exact h.sld HS.out))
            have HSC := Lib.hid (fun W (h : Blk W wr.heap.size 28 SC) => (show W.rangeAt wr.heap.size 50 (row8 chk) by rw [HSCE.out] at h; rw [hchk]; exact h.chk HS.out))
            obtain ⟨K, hK⟩ : ∃ K, K = key p salt tn := ⟨_, rfl⟩
            have bK : Bytes 32 K := by rw [hK]; exact key_bytes _ _ _
            obtain ⟨M, hM⟩ : ∃ M, M = wopen K sld chk := ⟨_, rfl⟩
            obtain ⟨E, hE⟩ : ∃ E, E = werr K sld chk := ⟨_, rfl⟩
            have bM : Bytes 32 M := by rw [hM]; exact wopen_bytes K bsld chk
            have M32 := Lib.hid (show (row8 M).length = 32 by rw [row8_len]; exact bM.1)
            have A16 := Lib.hid (show (row8 salt).length = 16 by rw [row8_len]; exact bsalt.1)
            have Q32 := Lib.hid (show (row8 sld).length = 32 by rw [row8_len]; exact bsld.1)
            have C32 := Lib.hid (show (row8 chk).length = 32 by rw [row8_len]; exact bchk.1)
            have HKEY := Lib.hid (fun W (hW : Below w.heap.size w W) => rkey_any p salt tn _ W HSH.out bsalt hmt.1 hmt.2 (HV.out.below hW) (HK.out.below hW))
            rw [← hK] at HKEY
            have HOPN := Lib.hid (fun W (hW : Below w.heap.size w W) => rwopen_any K sld chk bK bsld bchk W (HA.out.below hW) (HK.out.below hW))
            rw [← hM, ← hE] at HOPN
            have HOE := Lib.hid (show opensAt p s = decide (E = 0) by rw [opensAt_eq HU.out.symm HMM.out.symm, hE, hK, htn, hsalt, hsld, hchk])
            have HMK := Lib.hid (show M = wopen (key p s.salt s.turns) s.sld s.chk by rw [hM, hK, htn, hsalt, hsld, hchk])
            have HEE := Lib.hid (show E = 0 ∨ E = 30 by rw [hE]; exact werr_or _ _ _)
            have aw : IntKind.i64.wrap (tn : Int) = (tn : Int) := by have := hmt.2; rw [IntKind.wrap_i64]; omega
            have W4 := Lib.hid (W3.out.on B4.out)
            have T4 := Lib.hid (T3.out.below B4.out T3.out.lt)
            have R4 := Lib.hid (R3.out.below B4.out R3.out.lt)
            obtain ⟨sb, hsb⟩ : ∃ b, b = wr.heap.size := ⟨_, rfl⟩
            rw [← hsb] at S4 HTN HSA HSD HSC ⊢
            clear hsb htn hsalt hsld hchk bsalt bsld bchk hK bK hM hE bM hmt S3 B3 HM HRG HC0 c0
            refine wp_region_s (by kernel_rfl) 17 (by decide) (fun i => [31, 32, 33, 34, 35, 36, 37, 38, 39, 40, 41, 42, 30, 43, 44, 9, 9].getD i 0) (by kernel_rfl) (by kernel_rfl) (by kernel_rfl) (w4.heap.size) (Nat.le_refl _) [.val (.slice va pl vc), .val (.pointer (some ⟨sb, 2, none⟩)), .val (.agg (row8 salt).toArray), .val (.pointer (some ⟨sb, 1, none⟩)), .val (.int .u16 (tn : Int)), .val (.int .i64 (tn : Int)), .val (.agg (row8 K).toArray), .val (.pointer (some ⟨sb, 18, none⟩)), .val (.agg (row8 sld).toArray), .val (.pointer (some ⟨sb, 50, none⟩)), .val (.agg (row8 chk).toArray), .val (.tuple #[.agg (row8 M).toArray, .int .i64 E]), .val (.tuple #[.agg (row8 M).toArray, .int .i64 E]), .val (.agg (row8 M).toArray), .val (.int .i64 E), .blk 25 D0, .blk 25 (row8 M)] (fun j => if j = 15 then 16 else 18) ?_ ?_
            · refine ⟨?_, ?_, ?_, ?_, ?_, ?_, ?_, ?_, ?_, ?_, ?_, ?_, ?_, ?_, ?_, ?_, ?_, trivial⟩
              · intro a w' hF hB hd
                have e1 : a.eval (.tmp 1) = .slice va pl vc := hF 1 (by decide +kernel)
                exact DoesG.toS (doesG_val rfl (ex_move rfl e1) rfl rfl) nofun (by decide +kernel)
              · intro a w' hF hB hd
                have e8 : a.eval (.tmp 8) = .pointer (some ⟨sb, 0, none⟩) := hF 8 (by decide +kernel)
                exact DoesG.toS (doesG_val rfl (ex_fieldAddr rfl e8 (by go_simp)) rfl rfl) nofun (by decide +kernel)
              · intro a w' hF hB hd
                have e32 : a.eval (.tmp 32) = .pointer (some ⟨sb, 2, none⟩) := hd 1 (by decide +kernel) (.inr (by decide))
                exact DoesG.toS (doesG_wp rfl rfl fun K' hK' => wp_load_mid 23 (.tmp 32) rfl sb 2 e32 (row8 salt) _ (HSA.out w' (S4.out.below hB S4.out.lt)) Tryd.underlying23 rfl (by rw [A16.out]; exact info162) (hK' _ _ rfl (Below.refl _ _))) nofun (by decide +kernel)
              · intro a w' hF hB hd
                have e8 : a.eval (.tmp 8) = .pointer (some ⟨sb, 0, none⟩) := hF 8 (by decide +kernel)
                exact DoesG.toS (doesG_val rfl (ex_fieldAddr rfl e8 (by go_simp)) rfl rfl) nofun (by decide +kernel)
              · intro a w' hF hB hd
                have e34 : a.eval (.tmp 34) = .pointer (some ⟨sb, 1, none⟩) := hd 3 (by decide +kernel) (.inr (by decide))
                have ct := HTN.out w' (S4.out.below hB S4.out.lt)
                exact DoesG.toS (doesG_val rfl (v := .int .u16 (tn : Int)) (by unfold execOp; simp only [e34]; go_simp) rfl rfl) nofun (by decide +kernel)
              · intro a w' hF hB hd
                have e35 : a.eval (.tmp 35) = .int .u16 (tn : Int) := hd 4 (by decide +kernel) (.inr (by decide))
                exact DoesG.toS (doesG_val rfl (ex_convert rfl e35 (by go_simp)) rfl rfl) nofun (by decide +kernel)
              · intro a w' hF hB hd
                have e31 : a.eval (.tmp 31) = .slice va pl vc := hd 0 (by decide +kernel) (.inr (by decide))
                have e33 : a.eval (.tmp 33) = .agg (row8 salt).toArray := hd 2 (by decide +kernel) (.inr (by decide))
                have e36 : a.eval (.tmp 36) = .int .i64 (tn : Int) := hd 5 (by decide +kernel) (.inr (by decide))
                exact DoesG.toS (doesG_call rfl (ex_call (vs := #[.slice va pl vc, .agg (row8 salt).toArray, .int .i64 (tn : Int)]) rfl (by simp only [List.map_toArray, List.map_cons, List.map_nil, e31, e33, e36]) (by go_simp)) rfl ((HKEY.out w' (W4.out.on hB)).mono fun e w2 hh => ⟨_, hh.1, rfl, hh.2⟩)) nofun (by decide +kernel)
              · intro a w' hF hB hd
                have e8 : a.eval (.tmp 8) = .pointer (some ⟨sb, 0, none⟩) := hF 8 (by decide +kernel)
                exact DoesG.toS (doesG_val rfl (ex_fieldAddr rfl e8 (by go_simp)) rfl rfl) nofun (by decide +kernel)
              · intro a w' hF hB hd
                have e38 : a.eval (.tmp 38) = .pointer (some ⟨sb, 18, none⟩) := hd 7 (by decide +kernel) (.inr (by decide))
                exact DoesG.toS (doesG_wp rfl rfl fun K' hK' => wp_load_mid 25 (.tmp 38) rfl sb 18 e38 (row8 sld) _ (HSD.out w' (S4.out.below hB S4.out.lt)) Tryd.underlying25 rfl (by rw [Q32.out]; exact infoK2) (hK' _ _ rfl (Below.refl _ _))) nofun (by decide +kernel)
              · intro a w' hF hB hd
                have e8 : a.eval (.tmp 8) = .pointer (some ⟨sb, 0, none⟩) := hF 8 (by decide +kernel)
                exact DoesG.toS (doesG_val rfl (ex_fieldAddr rfl e8 (by go_simp)) rfl rfl) nofun (by decide +kernel)
              · intro a w' hF hB hd
                have e40 : a.eval (.tmp 40) = .pointer (some ⟨sb, 50, none⟩) := hd 9 (by decide +kernel) (.inr (by decide))
                exact DoesG.toS (doesG_wp rfl rfl fun K' hK' => wp_load_mid 26 (.tmp 40) rfl sb 50 e40 (row8 chk) _ (HSC.out w' (S4.out.below hB S4.out.lt)) Tryd.underlying26 rfl (by rw [C32.out]; exact infoS) (hK' _ _ rfl (Below.refl _ _))) nofun (by decide +kernel)
              · intro a w' hF hB hd
                have e37 : a.eval (.tmp 37) = .agg (row8 K).toArray := hd 6 (by decide +kernel) (.inr (by decide))
                have e39 : a.eval (.tmp 39) = .agg (row8 sld).toArray := hd 8 (by decide +kernel) (.inr (by decide))
                have e41 : a.eval (.tmp 41) = .agg (row8 chk).toArray := hd 10 (by decide +kernel) (.inr (by decide))
                exact DoesG.toS (doesG_call rfl (ex_call (vs := #[.agg (row8 K).toArray, .agg (row8 sld).toArray, .agg (row8 chk).toArray]) rfl (by simp only [List.map_toArray, List.map_cons, List.map_nil, e37, e39, e41]) (by go_simp)) rfl ((HOPN.out w' (W4.out.on hB)).mono fun e w2 hh => ⟨_, hh.1, rfl, hh.2⟩)) nofun (by decide +kernel)
              · intro a w' hF hB hd
                have e42 : a.eval (.tmp 42) = .tuple #[.agg (row8 M).toArray, .int .i64 E] := hd 11 (by decide +kernel) (.inr (by decide))
                exact DoesG.toS (doesG_val rfl (ex_move rfl e42) rfl rfl) nofun (by decide +kernel)
              · intro a w' hF hB hd
                have e30 : a.eval (.tmp 30) = .tuple #[.agg (row8 M).toArray, .int .i64 E] := hd 12 (by decide +kernel) (.inr (by decide))
                exact DoesG.toS (doesG_val rfl (v := .agg (row8 M).toArray) (by unfold execOp; simp only [e30]; go_simp) rfl rfl) nofun (by decide +kernel)
              · intro a w' hF hB hd
                have e30 : a.eval (.tmp 30) = .tuple #[.agg (row8 M).toArray, .int .i64 E] := hd 12 (by decide +kernel) (.inr (by decide))
                exact DoesG.toS (doesG_val rfl (v := .int .i64 E) (by unfold execOp; simp only [e30]; go_simp) rfl rfl) nofun (by decide +kernel)
              · intro a w' hF hB hd
                exact DoesG.toS (doesG_alloc rfl 25 D0 rfl hz hB.size rfl) nofun (by decide +kernel)
              · intro a w' hF hB hd
                have e9 := hd 15 (by decide +kernel) (.inl (by decide))
                have e43 : a.eval (.tmp 43) = .agg (row8 M).toArray := hd 13 (by decide +kernel) (.inr (by decide))
                exact doesS_store rfl 25 25 9 (.tmp 43) rfl rfl 15 (by decide +kernel) (by decide) D0 (row8 M) rfl rfl rfl e9 e43 (by rw [M32.out, hd0]) (by rw [M32.out]; exact infoK2) (row8_one _) rfl
            · intro vs w5 hb hss hv hap
              have ee : vs 14 = .int .i64 E := hv 14 (by decide) (by decide)
              obtain ⟨nb, eb, hbb, hbk2⟩ : ∃ c, vs 16 = .pointer (some ⟨c, 0, none⟩) ∧ w4.heap.size ≤ c ∧ Blk w5 c 25 (row8 M) := hv 16 (by decide) (by decide)
              have e9 : vs 15 = .pointer (some ⟨nb, 0, none⟩) := by rw [← eb]; exact hss 15 16 (by decide)
              simp only [List.take_succ_cons, List.take_zero, List.drop_succ_cons, List.drop_zero, putOps, Act.put, List.setIfInBounds_toArray, List.set_cons_zero, List.set_cons_succ, ee, e9]
              have B5 := Lib.hid (B4.out.on hb)
              have W5 := Lib.hid (W4.out.on hb)
              have R5 := Lib.hid (R4.out.below hb R4.out.lt)
              have N5 := Lib.hid hbk2
              clear hv hap hss ee eb e9 hb hbb hbk2 W4 T4 R4 B4 S4 HTN HSA HSD HSC HKEY HOPN
              generalize vs 0 = y0 at *; generalize vs 1 = y1 at *; generalize vs 2 = y2 at *; generalize vs 3 = y3 at *; generalize vs 4 = y4 at *; generalize vs 5 = y5 at *; generalize vs 6 = y6 at *; generalize vs 7 = y7 at *; generalize vs 8 = y8 at *; generalize vs 9 = y9 at *; generalize vs 10 = y10 at *; generalize vs 11 = y11 at *; generalize vs 12 = y12 at *; generalize vs 13 = y13 at *
              rcases HEE.out with rfl | rfl
              · obtain ⟨rfl, rfl, rfl⟩ : RE = 0 ∧ RI = k ∧ RK = M := by
                  have h := o_some HT.out HSH.out hlt (by rw [← HSE.out, HOE.out]; rfl) HNO.out
                  rw [← HSE.out] at h
                  have g := HRES.out
                  exact ⟨g.1.trans h.1, g.2.1.trans h.2.1, by rw [g.2.2, h.2.2, HMK.out]⟩
                clear HRES HOE HMK HEE
                go_wp2_with (first
            | (refine wpList_load_mid rfl 25 (.tmp 9) rfl nb 0 rfl (row8 RK) _ N5.out.range Tryd.underlying25 rfl (by rw [M32.out]; exact infoK2) ?_)
            | (refine wpList_store_blk rfl 25 (.tmp 4) (.tmp 47) rfl (w.heap.size + 1) 0 (row8 RK) rfl rfl 25 D0 R5.out (by rw [M32.out, hd0]; exact Nat.le_refl _) (by rw [M32.out]; exact infoK2) (row8_one _) ?_; intro w6 b6 g6; rw [splice_all _ _ (by rw [M32.out, hd0])] at b6; have U6 := Lib.hid b6; have W6 := Lib.hid (W5.out.grown g6 W5.out.size (fun g hg => by have := Option.some.inj hg; omega)); clear b6 g6))
                exact bodyPost_ret (results_mid3 rfl _ _ (w.heap.size + 1) (row8 RK) _ rfl U6.out.range Tryd.underlying25 rfl (by rw [M32.out]; exact infoK2)) rfl ⟨rfl, W6.out⟩
              · have NO2 := Lib.hid (fun j (hj : j < k + 1) => show opensAt p (at_ T j) = false by
                  rcases Nat.lt_succ_iff_lt_or_eq.1 hj with h | rfl
                  · exact HNO.out j h
                  · rw [← HSE.out]; exact HOE.out)
                have WW := Lib.hid (W3.out.on B5.out)
                have TT := Lib.hid (T3.out.below B5.out T3.out.lt)
                have RR := Lib.hid (R3.out.below B5.out R3.out.lt)
                clear HRES HOE HMK HEE N5
                go_wp2_with fail
                exact ⟨⟨k + 1, by omega, by go_num, NO2.out, TT.out, RR.out, WW.out⟩, by simp [intOf]; omega⟩
      · obtain rfl : k = 8 := by omega
        obtain ⟨rfl, rfl, hrk⟩ : RE = 30 ∧ RI = 0 ∧ row8 RK = D0 := by
          have h := o_none HT.out HSH.out HNO.out
          have g := HRES.out
          exact ⟨g.1.trans h.1, g.2.1.trans h.2.1, by rw [g.2.2, h.2.2, ← HD0.out]⟩
        clear HRES
        go_wp2_with (first
          | (refine wpList_buildTo rfl 25 _ rfl (some 49) rfl D0.toArray (Eq.trans (b := Tryd.prog.built 25 []) (by kernel_rfl) hbk) ?_)
          | (refine wpList_store_blk rfl 25 (.tmp 4) (.tmp 49) rfl (w.heap.size + 1) 0 D0 rfl rfl 25 D0 R3.out (Nat.le_of_eq (Nat.zero_add _)) (by rw [hd0]; exact infoK2) HONE0.out ?_; intro w5 b5 g5; rw [splice_all _ _ rfl] at b5; have U5 := Lib.hid b5; have W5 := Lib.hid (W3.out.grown g5 W3.out.size (fun g hg => by have := Option.some.inj hg; omega)); clear b5 g5))
        exact bodyPost_ret (results_mid3 rfl _ _ (w.heap.size + 1) D0 _ rfl U5.out.range Tryd.underlying25 rfl (by rw [hd0]; exact infoK2)) rfl ⟨by rw [hrk]; rfl, W5.out⟩
end Go.Proofs.YtbepchikngoknaaDoor

/- The program's wrap: the mask, the check, keys sealed and opened: contracts. Own work. -/
import Derived.Test.YtbepchikngoknaaDoorWrapMath
import Derived.Test.YtbepchikngoknaaDoorKdfP
import Derived.Test.YtbepchikngoknaaDoorHmacEqual
import Derived.Test.YtbepchikngoknaaDoorAesP
import Derived.Test.YtbepchikngoknaaDoorFillTo
import Derived.Test.YtbepchikngoknaaDoorShaD
import Derived.Deep.DeepCutAuto
namespace Go.Proofs.YtbepchikngoknaaDoor
open Go.ChangeShapes Go.WideShapes Go.ChangeAt Go.RowKit
open SM AM WM
/-- Results that are two rows of cells, out of the variables in which they stand; a row and a slot. -/
theorem results_cc {P : Program} {fn : Func} {p q : Tmp} {ty tz : TypeId} (h : fn.results = #[.cell p ty, .cell q tz]) (tmps : Array Value) (w : World) (b c : Nat) (cs ds : List Value) (d e : TypeDesc)
    (hp : tmps.getD p undef = .pointer (some ⟨b, 0, none⟩)) (hq : tmps.getD q undef = .pointer (some ⟨c, 0, none⟩)) (hr : w.rangeAt b 0 cs) (hs : w.rangeAt c 0 ds) (hu : P.underlying ty = some d) (hv : P.underlying tz = some e) (hd : d.isRow = true) (he : e.isRow = true)
    (hi : (P.info? ty).map (·.size) = some cs.length) (hj : (P.info? tz).map (·.size) = some ds.length) :
    (results fn tmps).run P w = .ok (.tuple #[.agg cs.toArray, .agg ds.toArray]) w := by
  have hp' : tmps[p]?.getD undef = .pointer (some ⟨b, 0, none⟩) := by simpa using hp
  have hq' : tmps[q]?.getD undef = .pointer (some ⟨c, 0, none⟩) := by simpa using hq
  simp [results, h, hp', hq', asAddr, run_loadVar_mid w b 0 ty cs d hr hu hd hi, run_loadVar_mid w c 0 tz ds e hs hv he hj]
theorem results_cs {P : Program} {fn : Func} {p t : Tmp} {ty : TypeId} (h : fn.results = #[.cell p ty, .tmp t]) (tmps : Array Value) (w : World) (b : Nat) (cs : List Value) (d : TypeDesc)
    (hp : tmps.getD p undef = .pointer (some ⟨b, 0, none⟩)) (hr : w.rangeAt b 0 cs) (hu : P.underlying ty = some d) (hd : d.isRow = true) (hi : (P.info? ty).map (·.size) = some cs.length) :
    (results fn tmps).run P w = .ok (.tuple #[.agg cs.toArray, tmps.getD t undef]) w := by
  have hp' : tmps[p]?.getD undef = .pointer (some ⟨b, 0, none⟩) := by simpa using hp
  simp [results, h, hp', asAddr, run_loadVar_mid w b 0 ty cs d hr hu hd hi]
theorem zeroKeyW (w : World) : (zeroValue 25).run Tryd.prog w = .ok (.agg (row8 (List.replicate 32 0)).toArray) w := by kernel_rfl
theorem zeroSumW (w : World) : (zeroValue 26).run Tryd.prog w = .ok (.agg (row8 (List.replicate 32 0)).toArray) w := by kernel_rfl
set_option maxRecDepth 100000 in
set_option maxHeartbeats 2000000 in
theorem half0_any (M : List Nat) (hM : Bytes 32 M) (K : List Nat) (cb kb c : Nat) (w : World) (hc : Blk w cb 136 [.pointer (some ⟨c, 0, none⟩)]) (hk : Blk w kb 25 (row8 M)) (hcp : Cph w c K) (ht : TabX w) :
    Calls Tryd.prog 91 #[.int .i64 0, .pointer (some ⟨cb, 0, none⟩), .pointer (some ⟨kb, 0, none⟩)] w fun e w' => e = .returned (.tuple #[]) ∧ Blk w' kb 25 (row8 (hx M (enc (rk (sched K)) (halfRow 0)) 0 16)) ∧ w.grownBy w' (some kb) := by
  obtain ⟨R, hR⟩ : ∃ R, R = halfRow 0 := ⟨_, rfl⟩
  have hbd : Tryd.prog.built 23 [(15, .int .u8 0)] = some (row8 R).toArray := by rw [hR]; kernel_rfl
  have HBD := Lib.hid hbd
  have HE := Lib.hid (cph_enc K c R (by rw [hR]; exact halfRow_bytes _ (by omega)) w hcp ht)
  rw [← hR]
  obtain ⟨A, hA⟩ : ∃ A, A = enc (rk (sched K)) R := ⟨_, rfl⟩
  have bA : Bytes 16 A := by rw [hA]; exact enc_bytes (fun n => rk_bytes (sched_bytes hcp.1.2).2 n) _
  rw [← hA] at HE ⊢
  have A16 := Lib.hid (show (row8 A).length = 16 by rw [row8_len]; exact bA.1)
  obtain ⟨D0, hD0⟩ : ∃ D0, D0 = row8 (List.replicate 16 0) := ⟨_, rfl⟩
  have hz : ∀ w, (zeroValue 23).run Tryd.prog w = .ok (.agg D0.toArray) w := by rw [hD0]; exact zero16
  have hd0 : D0.length = 16 := by rw [hD0, row8_len, List.length_replicate]
  have c0 := hc.cell 0 _ rfl
  have HK := Lib.hid hk
  have HM := Lib.hid hM
  have HA := Lib.hid bA
  have G0 := Lib.hid (World.grownBy.refl w (some kb))
  clear hc hk hcp ht hR hA bA hD0 hM hbd
  go_enter Tryd.func91, Tryd.ntmps91
  go_wp2_with (first
    | (refine wpList_buildTo rfl 23 _ rfl (some 10) rfl (row8 R).toArray (Eq.trans (b := Tryd.prog.built 23 [(15, .int .u8 0)]) (by kernel_rfl) HBD.out) ?_)
    | (go_at_call 92; (with_reducible refine HE.out.mono ?_); rintro e w1 ⟨rfl, b1⟩; have K1 := Lib.hid (HK.out.below b1 HK.out.lt); have G1 := Lib.hid (grown_of_below b1 (some kb)); clear b1)
    | (refine wpList_store_blk rfl 23 (.tmp 4) (.tmp 11) rfl w1.heap.size 0 (row8 A) rfl rfl 23 D0 (Blk.new w1 23 D0 _ rfl) (by rw [A16.out, hd0]; exact Nat.le_refl _) (by rw [A16.out]; exact info16) (row8_one _) ?_; intro w2 b2 g2; rw [splice_all _ _ (by rw [A16.out, hd0])] at b2; have hbw : Below w1.heap.size w1 w2 := alloc_turn (Below.refl _ _) g2; have A2 := Lib.hid b2; have K2 := Lib.hid (K1.out.below hbw K1.out.lt); have G2 := Lib.hid (only_trans G1.out (grown_of_below hbw (some kb))); clear b2 g2 hbw)
    | (refine wpList_load_mid rfl 23 (.tmp 4) rfl w1.heap.size 0 rfl (row8 A) _ A2.out.range Tryd.underlying23 rfl (by rw [A16.out]; exact info16) ?_))
  go_loopw [13] (fun i wr => ∃ k : Nat, k ≤ 16 ∧ i = .int .i64 (k : Int) ∧ Blk wr kb 25 (row8 (hx M A 0 k)) ∧ w.grownBy wr (some kb)) (fun i _ => 16 - (intOf i).toNat)
  case atStart => exact ⟨0, Nat.zero_le _, rfl, by rw [hx_zero HM.out.1]; exact K2.out, G2.out⟩
  case round =>
    clear A2 K1 K2 G1 G2 G0
    obtain ⟨k, hk, rfl, b0, g0⟩ := hrel
    by_cases hlt : k < 16
    · have c0 := b0.cell k _ (row8_val _ k (by rw [hx_len]; omega))
      rw [hx_get _ _ _ _ _ (by omega), if_neg (by omega)] at c0
      have hix := run_index_row 23 5 16 (row8 A).toArray k (.int .u8 (gb A k)) Tryd.underlying23 hlt info8a agg8a (row8_get A k (by rw [HA.out.1]; exact hlt))
      have f0 := b0.free k
      have hxr := u8_xor_nat (gb M k) (gb A k) (HM.out.2 _) (HA.out.2 k)
      have q0 : (0 : Int) ≤ (k : Int) := by omega
      have q1 : (k : Int) < 32 := by omega
      have q2 : ((k : Int)).toNat = k := by omega
      have B0 := Lib.hid b0
      have GG := Lib.hid g0
      clear b0 g0
      go_wp2_with fail
      have nb0 := B0.out.set k (.int .u8 ((gb M k ^^^ gb A k : Nat) : Int))
      have hst := hx_step M A 0 k (by omega) hlt
      simp only [Nat.mul_zero, Nat.zero_add] at hst
      rw [row8_set, hst] at nb0
      exact ⟨⟨k + 1, by omega, by go_num, nb0, only_setCells kb [_] k _ GG.out⟩, by simp [intOf]; omega⟩
    · obtain rfl : k = 16 := by omega
      have B0 := Lib.hid b0
      have GG := Lib.hid g0
      clear b0 g0
      go_wp2_with fail
      go_end0
      exact ⟨rfl, B0.out, GG.out⟩
set_option maxRecDepth 100000 in
set_option maxHeartbeats 2000000 in
theorem half1_any (M : List Nat) (hM : Bytes 32 M) (K : List Nat) (cb kb c : Nat) (w : World) (hc : Blk w cb 136 [.pointer (some ⟨c, 0, none⟩)]) (hk : Blk w kb 25 (row8 M)) (hcp : Cph w c K) (ht : TabX w) :
    Calls Tryd.prog 91 #[.int .i64 1, .pointer (some ⟨cb, 0, none⟩), .pointer (some ⟨kb, 0, none⟩)] w fun e w' => e = .returned (.tuple #[]) ∧ Blk w' kb 25 (row8 (hx M (enc (rk (sched K)) (halfRow 1)) 1 16)) ∧ w.grownBy w' (some kb) := by
  obtain ⟨R, hR⟩ : ∃ R, R = halfRow 1 := ⟨_, rfl⟩
  have hbd : Tryd.prog.built 23 [(15, .int .u8 1)] = some (row8 R).toArray := by rw [hR]; kernel_rfl
  have HBD := Lib.hid hbd
  have HE := Lib.hid (cph_enc K c R (by rw [hR]; exact halfRow_bytes _ (by omega)) w hcp ht)
  rw [← hR]
  obtain ⟨A, hA⟩ : ∃ A, A = enc (rk (sched K)) R := ⟨_, rfl⟩
  have bA : Bytes 16 A := by rw [hA]; exact enc_bytes (fun n => rk_bytes (sched_bytes hcp.1.2).2 n) _
  rw [← hA] at HE ⊢
  have A16 := Lib.hid (show (row8 A).length = 16 by rw [row8_len]; exact bA.1)
  obtain ⟨D0, hD0⟩ : ∃ D0, D0 = row8 (List.replicate 16 0) := ⟨_, rfl⟩
  have hz : ∀ w, (zeroValue 23).run Tryd.prog w = .ok (.agg D0.toArray) w := by rw [hD0]; exact zero16
  have hd0 : D0.length = 16 := by rw [hD0, row8_len, List.length_replicate]
  have c0 := hc.cell 0 _ rfl
  have HK := Lib.hid hk
  have HM := Lib.hid hM
  have HA := Lib.hid bA
  have G0 := Lib.hid (World.grownBy.refl w (some kb))
  clear hc hk hcp ht hR hA bA hD0 hM hbd
  go_enter Tryd.func91, Tryd.ntmps91
  go_wp2_with (first
    | (refine wpList_buildTo rfl 23 _ rfl (some 10) rfl (row8 R).toArray (Eq.trans (b := Tryd.prog.built 23 [(15, .int .u8 1)]) (by kernel_rfl) HBD.out) ?_)
    | (go_at_call 92; (with_reducible refine HE.out.mono ?_); rintro e w1 ⟨rfl, b1⟩; have K1 := Lib.hid (HK.out.below b1 HK.out.lt); have G1 := Lib.hid (grown_of_below b1 (some kb)); clear b1)
    | (refine wpList_store_blk rfl 23 (.tmp 4) (.tmp 11) rfl w1.heap.size 0 (row8 A) rfl rfl 23 D0 (Blk.new w1 23 D0 _ rfl) (by rw [A16.out, hd0]; exact Nat.le_refl _) (by rw [A16.out]; exact info16) (row8_one _) ?_; intro w2 b2 g2; rw [splice_all _ _ (by rw [A16.out, hd0])] at b2; have hbw : Below w1.heap.size w1 w2 := alloc_turn (Below.refl _ _) g2; have A2 := Lib.hid b2; have K2 := Lib.hid (K1.out.below hbw K1.out.lt); have G2 := Lib.hid (only_trans G1.out (grown_of_below hbw (some kb))); clear b2 g2 hbw)
    | (refine wpList_load_mid rfl 23 (.tmp 4) rfl w1.heap.size 0 rfl (row8 A) _ A2.out.range Tryd.underlying23 rfl (by rw [A16.out]; exact info16) ?_))
  go_loopw [13] (fun i wr => ∃ k : Nat, k ≤ 16 ∧ i = .int .i64 (k : Int) ∧ Blk wr kb 25 (row8 (hx M A 1 k)) ∧ w.grownBy wr (some kb)) (fun i _ => 16 - (intOf i).toNat)
  case atStart => exact ⟨0, Nat.zero_le _, rfl, by rw [hx_zero HM.out.1]; exact K2.out, G2.out⟩
  case round =>
    clear A2 K1 K2 G1 G2 G0
    obtain ⟨k, hk, rfl, b0, g0⟩ := hrel
    by_cases hlt : k < 16
    · have c0 := b0.cell (16 + k) _ (row8_val _ (16 + k) (by rw [hx_len]; omega))
      rw [hx_get _ _ _ _ _ (by omega), if_neg (by omega)] at c0
      have hix := run_index_row 23 5 16 (row8 A).toArray k (.int .u8 (gb A k)) Tryd.underlying23 hlt info8a agg8a (row8_get A k (by rw [HA.out.1]; exact hlt))
      have f0 := b0.free (16 + k)
      have hxr := u8_xor_nat (gb M (16 + k)) (gb A k) (HM.out.2 _) (HA.out.2 k)
      have q0 : (0 : Int) ≤ 16 + (k : Int) := by omega
      have q1 : 16 + (k : Int) < 32 := by omega
      have q2 : (16 + (k : Int)).toNat = (16 + k) := by omega
      have B0 := Lib.hid b0
      have GG := Lib.hid g0
      clear b0 g0
      go_wp2_with fail
      have nb0 := B0.out.set (16 + k) (.int .u8 ((gb M (16 + k) ^^^ gb A k : Nat) : Int))
      have hst := hx_step M A 1 k (by omega) hlt
      simp only [Nat.mul_one] at hst
      rw [row8_set, hst] at nb0
      exact ⟨⟨k + 1, by omega, by go_num, nb0, only_setCells kb [_] (16 + k) _ GG.out⟩, by simp [intOf]; omega⟩
    · obtain rfl : k = 16 := by omega
      have B0 := Lib.hid b0
      have GG := Lib.hid g0
      clear b0 g0
      go_wp2_with fail
      go_end0
      exact ⟨rfl, B0.out, GG.out⟩
set_option maxRecDepth 100000 in
set_option maxHeartbeats 4000000 in
theorem pmasked_any (K M : List Nat) (hK : Bytes 32 K) (hM : Bytes 32 M) (w : World) (ht : TabX w) (hp : TabP w) :
    Calls Tryd.prog 74 #[.agg (row8 K).toArray, .agg (row8 M).toArray] w fun e w' => e = .returned (.agg (row8 (wseal K M)).toArray) ∧ Below w.heap.size w w' := by
  obtain ⟨L, hL⟩ : ∃ L, L = klabel K wrapW := ⟨_, rfl⟩
  have bL : Bytes 32 L := by rw [hL]; exact klabel_bytes _ _
  obtain ⟨Z, hZ⟩ : ∃ Z, Z = wseal K M := ⟨_, rfl⟩
  have bZ : Bytes 32 Z := by rw [hZ]; exact wseal_bytes K hM
  obtain ⟨Y, hY⟩ : ∃ Y, Y = WM.hx M (enc (rk (sched L)) (halfRow 0)) 0 16 := ⟨_, rfl⟩
  have bY : Bytes 32 Y := by rw [hY]; exact hx_bytes hM.2 (enc_bytes (fun n => rk_bytes (sched_bytes bL.2).2 n) _).2 _ _
  have hYZ : WM.hx Y (enc (rk (sched L)) (halfRow 1)) 1 16 = Z := by rw [hZ, hY, hL]; exact hx_both K M
  obtain ⟨s, hs⟩ : ∃ s : ByteArray, s = ⟨#[119, 114, 97, 112]⟩ := ⟨_, rfl⟩
  have hsb : sb s = wrapW := by rw [hs]; rfl
  have hss : s.size ≤ 140737488355328 := by rw [hs]; decide
  obtain ⟨D0, hD0⟩ : ∃ D0, D0 = row8 (List.replicate 32 0) := ⟨_, rfl⟩
  have hz : ∀ w, (zeroValue 25).run Tryd.prog w = .ok (.agg D0.toArray) w := by rw [hD0]; exact zeroKeyW
  have hd0 : D0.length = 32 := by rw [hD0, row8_len, List.length_replicate]
  have w1 := (Below.refl w.heap.size w).alloc (Nat.le_refl _) (.cells (row8 K).toArray 25)
  have w2 := w1.alloc w1.size (.cells (row8 M).toArray 25)
  have w3 := w2.alloc w2.size (.cells D0.toArray 25)
  have N3 := Lib.hid (((Blk.new w 25 (row8 K) _ rfl).alloc (.cells (row8 M).toArray 25)).alloc (.cells D0.toArray 25))
  have M3 := Lib.hid ((Blk.new (w.alloc (.cells (row8 K).toArray 25)) 25 (row8 M) (w.heap.size + 1) (by simp)).alloc (.cells D0.toArray 25))
  have R3 := Lib.hid (Blk.new ((w.alloc (.cells (row8 K).toArray 25)).alloc (.cells (row8 M).toArray 25)) 25 D0 (w.heap.size + 1 + 1) (by simp))
  have W3 := Lib.hid w3
  have F3 := Lib.hid (klabel_any K hK s hss _ (hp.below w3))
  rw [hsb, ← hL, hs] at F3
  have K32 := Lib.hid (show (row8 K).length = 32 by rw [row8_len]; exact hK.1)
  have Z32 := Lib.hid (show (row8 Z).length = 32 by rw [row8_len]; exact bZ.1)
  have HT := Lib.hid ht
  have HBL := Lib.hid bL
  have HMM := Lib.hid hM
  have HYB := Lib.hid bY
  have HYY := Lib.hid hY
  have HYZ := Lib.hid hYZ
  have hmf : ∀ (fn : Fn) (first cap : Array Value) (w : World), (Instr.makeFunc fn first cap).run Tryd.prog w = .ok (.func fn first cap) w := fun _ _ _ _ => rfl
  rw [← hZ]
  clear hL bL hZ bZ hY bY hYZ hs hsb hss hD0 w1 w2 w3 hK hM ht hp
  go_enter Tryd.func74, Tryd.ntmps74
  go_wp2_with (first
    | (refine wpList_load_mid rfl 25 (.tmp 2) rfl w.heap.size 0 rfl (row8 K) _ N3.out.range Tryd.underlying25 rfl (by rw [K32.out]; exact infoKeyL) ?_)
    | (go_at_call 89; (with_reducible refine F3.out.mono ?_); rintro e w4 ⟨rfl, b4⟩; have W4 := Lib.hid (W3.out.on b4); have M4 := Lib.hid (M3.out.below b4 M3.out.lt); have R4 := Lib.hid (R3.out.below b4 R3.out.lt); have F4 := Lib.hid (cph_new L HBL.out w4 (HT.out.below W4.out)); clear b4)
    | (go_at_call 90; (with_reducible refine F4.out.mono ?_); rintro e w5 ⟨c, hc, rfl, c5, b5⟩; have W5 := Lib.hid (W4.out.on b5); have M5 := Lib.hid (M4.out.below b5 M4.out.lt); have R5 := Lib.hid (R4.out.below b5 R4.out.lt); have C5 := Lib.hid c5; have HCM := Lib.hid (show w.heap.size + 1 ≠ c by have := M4.out.lt; omega); clear b5 c5 hc))
  have hcb : w.heap.size + 1 < w5.heap.size := M5.out.lt
  have P6 := Lib.hid (Blk.new w5 136 [.pointer (some ⟨c, 0, none⟩)] _ rfl)
  have M6 := Lib.hid (M5.out.alloc (.cells #[.pointer (some ⟨c, 0, none⟩)] 136))
  have R6 := Lib.hid (R5.out.alloc (.cells #[.pointer (some ⟨c, 0, none⟩)] 136))
  have W6 := Lib.hid (W5.out.alloc W5.out.size (.cells #[.pointer (some ⟨c, 0, none⟩)] 136))
  have C6 := Lib.hid (C5.out.below ((Below.refl w5.heap.size w5).alloc (Nat.le_refl _) (.cells #[.pointer (some ⟨c, 0, none⟩)] 136)))
  go_loopw [12] (fun i wr => ∃ n : Nat, n ≤ 2 ∧ i = .int .i64 (n : Int) ∧ Blk wr (w.heap.size + 1) 25 (row8 (if n = 0 then M else if n = 1 then Y else Z)) ∧ Blk wr w5.heap.size 136 [.pointer (some ⟨c, 0, none⟩)] ∧ Cph wr c L ∧ Blk wr (w.heap.size + 1 + 1) 25 D0 ∧ Below w.heap.size w wr) (fun i _ => 2 - (intOf i).toNat)
  case atStart => exact ⟨0, by omega, rfl, M6.out, P6.out, C6.out, R6.out, W6.out⟩
  case round =>
    clear M6 P6 C6 R6 W6 M5 R5 C5 W5 M4 R4 W4 N3 M3 R3 W3 F3 F4
    obtain ⟨n, hn, rfl, m0, p0, k0, r0, g0⟩ := hrel
    have M0 := Lib.hid m0
    have P0 := Lib.hid p0
    have C0 := Lib.hid k0
    have R0 := Lib.hid r0
    have G0 := Lib.hid g0
    clear m0 p0 k0 r0 g0
    by_cases n0 : n = 0
    · subst n0
      have HH := Lib.hid (half0_any M HMM.out L w5.heap.size (w.heap.size + 1) c wr P0.out M0.out C0.out (HT.out.below G0.out))
      rw [← HYY.out] at HH
      go_wp2_with (go_at_call 91; (with_reducible refine HH.out.mono ?_); rintro e w6 ⟨rfl, k6, g6⟩; have K6 := Lib.hid k6; have P6 := Lib.hid (P0.out.grown g6 (fun q => by have e : w5.heap.size = w.heap.size + 1 := Option.some.inj q; omega)); have C6 := Lib.hid (C0.out.grown g6 (fun q => HCM.out (Option.some.inj q).symm)); have R6 := Lib.hid (R0.out.grown g6 (fun q => by have e : w.heap.size + 1 + 1 = w.heap.size + 1 := Option.some.inj q; omega)); have G6 := Lib.hid (G0.out.grown g6 G0.out.size (fun i hi => by have e : w.heap.size + 1 = i := Option.some.inj hi; omega)); clear k6 g6)
      exact ⟨⟨1, by omega, by go_num, K6.out, P6.out, C6.out, R6.out, G6.out⟩, by simp [intOf]⟩
    · by_cases n1 : n = 1
      · subst n1
        have HH := Lib.hid (half1_any Y HYB.out L w5.heap.size (w.heap.size + 1) c wr P0.out M0.out C0.out (HT.out.below G0.out))
        rw [HYZ.out] at HH
        go_wp2_with (go_at_call 91; (with_reducible refine HH.out.mono ?_); rintro e w6 ⟨rfl, k6, g6⟩; have K6 := Lib.hid k6; have P6 := Lib.hid (P0.out.grown g6 (fun q => by have e : w5.heap.size = w.heap.size + 1 := Option.some.inj q; omega)); have C6 := Lib.hid (C0.out.grown g6 (fun q => HCM.out (Option.some.inj q).symm)); have R6 := Lib.hid (R0.out.grown g6 (fun q => by have e : w.heap.size + 1 + 1 = w.heap.size + 1 := Option.some.inj q; omega)); have G6 := Lib.hid (G0.out.grown g6 G0.out.size (fun i hi => by have e : w.heap.size + 1 = i := Option.some.inj hi; omega)); clear k6 g6)
        exact ⟨⟨2, by omega, by go_num, K6.out, P6.out, C6.out, R6.out, G6.out⟩, by simp [intOf]⟩
      · obtain rfl : n = 2 := by omega
        have MZ := Lib.hid (show Blk wr (w.heap.size + 1) 25 (row8 Z) from M0.out)
        clear M0
        go_wp2_with (first
          | (refine wpList_load_mid rfl 25 (.tmp 3) rfl (w.heap.size + 1) 0 rfl (row8 Z) _ MZ.out.range Tryd.underlying25 rfl (by rw [Z32.out]; exact infoKeyL) ?_)
          | (refine wpList_store_mid rfl 25 (.tmp 4) (.tmp 19) rfl (w.heap.size + 1 + 1) 0 (row8 Z).toArray rfl rfl (R0.out.there _ (by rw [List.size_toArray, Z32.out, hd0])) (by rw [List.size_toArray, Z32.out]; exact infoKeyL) (row8_one _) ?_))
        have fin := R0.out.whole (row8 Z) (by rw [Z32.out, hd0])
        exact bodyPost_ret (v := .agg (row8 Z).toArray) (results_mid rfl _ _ (w.heap.size + 1 + 1) (row8 Z) _ rfl fin.range Tryd.underlying25 rfl (by rw [Z32.out]; exact infoKeyL)) rfl ⟨rfl, below_setCells (w.heap.size + 1 + 1) (by omega) _ 0 _ G0.out⟩
set_option maxRecDepth 100000 in
set_option maxHeartbeats 2000000 in
theorem pcheck_any (K Q : List Nat) (hK : Bytes 32 K) (hQ : Bytes 32 Q) (w : World) (hp : TabP w) :
    Calls Tryd.prog 72 #[.agg (row8 K).toArray, .agg (row8 Q).toArray] w fun e w' => e = .returned (.agg (row8 (wcheck K Q)).toArray) ∧ Below w.heap.size w w' := by
  obtain ⟨L, hL⟩ : ∃ L, L = klabel K checkW := ⟨_, rfl⟩
  have bL : Bytes 32 L := by rw [hL]; exact klabel_bytes _ _
  obtain ⟨V, hV⟩ : ∃ V, V = wcheck K Q := ⟨_, rfl⟩
  have bV : Bytes 32 V := by rw [hV]; exact wcheck_bytes K Q
  have hVV : mac L Q = V := by rw [hV, hL]; rfl
  obtain ⟨s, hs⟩ : ∃ s : ByteArray, s = ⟨#[99, 104, 101, 99, 107]⟩ := ⟨_, rfl⟩
  have hsb : sb s = checkW := by rw [hs]; rfl
  have hss : s.size ≤ 140737488355328 := by rw [hs]; decide
  obtain ⟨D0, hD0⟩ : ∃ D0, D0 = row8 (List.replicate 32 0) := ⟨_, rfl⟩
  have hz : ∀ w, (zeroValue 25).run Tryd.prog w = .ok (.agg D0.toArray) w := by rw [hD0]; exact zeroKeyW
  have hz2 : ∀ w, (zeroValue 26).run Tryd.prog w = .ok (.agg D0.toArray) w := by rw [hD0]; exact zeroSumW
  have hd0 : D0.length = 32 := by rw [hD0, row8_len, List.length_replicate]
  have w1 := (Below.refl w.heap.size w).alloc (Nat.le_refl _) (.cells (row8 K).toArray 25)
  have w2 := w1.alloc w1.size (.cells (row8 Q).toArray 25)
  have w3 := w2.alloc w2.size (.cells D0.toArray 26)
  have N3 := Lib.hid (((Blk.new w 25 (row8 K) _ rfl).alloc (.cells (row8 Q).toArray 25)).alloc (.cells D0.toArray 26))
  have Q3 := Lib.hid ((Blk.new (w.alloc (.cells (row8 K).toArray 25)) 25 (row8 Q) (w.heap.size + 1) (by simp)).alloc (.cells D0.toArray 26))
  have R3 := Lib.hid (Blk.new ((w.alloc (.cells (row8 K).toArray 25)).alloc (.cells (row8 Q).toArray 25)) 26 D0 (w.heap.size + 1 + 1) (by simp))
  have W3 := Lib.hid w3
  have F3 := Lib.hid (klabel_any K hK s hss _ (hp.below w3))
  rw [hsb, ← hL, hs] at F3
  have K32 := Lib.hid (show (row8 K).length = 32 by rw [row8_len]; exact hK.1)
  have L32 := Lib.hid (show (row8 L).length = 32 by rw [row8_len]; exact bL.1)
  have V32 := Lib.hid (show (row8 V).length = 32 by rw [row8_len]; exact bV.1)
  have HT := Lib.hid hp
  have HBL := Lib.hid bL
  have HQ := Lib.hid hQ
  have HV := Lib.hid hVV
  rw [← hV]
  clear hL bL hV bV hVV hs hsb hss hD0 w1 w2 w3 hK hQ hp
  go_enter Tryd.func72, Tryd.ntmps72
  go_upto_region 2 with (first
    | (refine wpList_load_mid rfl 25 (.tmp 2) rfl w.heap.size 0 rfl (row8 K) _ N3.out.range Tryd.underlying25 rfl (by rw [K32.out]; exact infoKeyL) ?_)
    | (go_at_call 89; (with_reducible refine F3.out.mono ?_); rintro e w4 ⟨rfl, b4⟩; have W4 := Lib.hid (W3.out.on b4); have Q4 := Lib.hid (Q3.out.below b4 Q3.out.lt); have R4 := Lib.hid (R3.out.below b4 R3.out.lt); clear b4)
    | (refine wpList_store_blk rfl 25 (.tmp 5) (.tmp 7) rfl w4.heap.size 0 (row8 L) rfl rfl 25 D0 (Blk.new w4 25 D0 _ rfl) (by rw [L32.out, hd0]; exact Nat.le_refl _) (by rw [L32.out]; exact infoKeyL) (row8_one _) ?_; intro w5 b5 g5; rw [splice_all _ _ (by rw [L32.out, hd0])] at b5; have hbw : Below w4.heap.size w4 w5 := alloc_turn (Below.refl _ _) g5; have U5 := Lib.hid b5; have W5 := Lib.hid (W4.out.on hbw); have Q5 := Lib.hid (Q4.out.below hbw Q4.out.lt); have R5 := Lib.hid (R4.out.below hbw R4.out.lt); clear b5 g5 hbw))
  obtain ⟨ub, hub⟩ : ∃ b, b = w4.heap.size := ⟨_, rfl⟩
  rw [← hub] at U5 ⊢
  have HQL := Lib.hid Q5.out.lt
  have HT5 := Lib.hid (HT.out.below W5.out)
  have HQR := Lib.hid (fun W (hW : Below w5.heap.size w5 W) => (show Rd W (.slice (some ⟨w.heap.size + 1, 0, none⟩) 32 32) Q by
    have k := blk_rd (Q5.out.below hW Q5.out.lt) HQ.out.2 (n := 32) (cap := 32) (by rw [HQ.out.1]; omega) (by omega) (by rw [HQ.out.1]; omega)
    rw [List.take_of_length_le (by rw [HQ.out.1]; omega)] at k
    exact k))
  have HLR := Lib.hid (fun W (hW : Below w5.heap.size w5 W) => (show Rd W (.slice (some ⟨ub, 0, none⟩) 32 32) L by
    have k := blk_rd (U5.out.below hW U5.out.lt) HBL.out.2 (n := 32) (cap := 32) (by rw [HBL.out.1]; omega) (by omega) (by rw [HBL.out.1]; omega)
    rw [List.take_of_length_le (by rw [HBL.out.1]; omega)] at k
    exact k))
  clear hub N3 Q3 R3 W3 Q4 R4 W4 F3
  refine wp_region_g (by kernel_rfl) 4 (by decide) (by kernel_rfl) (by kernel_rfl) (by kernel_rfl) (w5.heap.size) (Nat.le_refl _) [.val (.slice (some ⟨ub, 0, none⟩) 32 32), .val (.slice (some ⟨w.heap.size + 1, 0, none⟩) 32 32), .rds ([Q]), .val (.agg (row8 V).toArray)] (fun _ => 5) ?_ ?_
  · refine ⟨?_, ?_, ?_, ?_, trivial⟩
    · intro a w' hF hB hd
      have e5 : a.eval (.tmp 5) = .pointer (some ⟨ub, 0, none⟩) := hF 5 (by decide +kernel)
      exact doesG_val rfl (v := .slice (some ⟨ub, 0, none⟩) 32 32) (by unfold execOp; simp only [e5]; go_simp) rfl rfl
    · intro a w' hF hB hd
      have e3 : a.eval (.tmp 3) = .pointer (some ⟨w.heap.size + 1, 0, none⟩) := hF 3 (by decide +kernel)
      exact doesG_val rfl (v := .slice (some ⟨w.heap.size + 1, 0, none⟩) 32 32) (by unfold execOp; simp only [e3]; go_simp) rfl rfl
    · intro a w' hF hB hd
      have e9 : a.eval (.tmp 9) = .slice (some ⟨w.heap.size + 1, 0, none⟩) 32 32 := hd 1 (by decide +kernel) (.inr (by decide))
      exact doesG_one rfl 9 rfl e9 _ (HQR.out w' hB) (fun _ g hg e => by have := HQL.out; have q : w.heap.size + 1 = g := Option.some.inj e; omega) (fun _ _ h => h)
    · intro a w' hF hB hd
      have e8 : a.eval (.tmp 8) = .slice (some ⟨ub, 0, none⟩) 32 32 := hd 0 (by decide +kernel) (.inr (by decide))
      have e10 : Olds w5.heap.size (a.eval (.tmp 10)) ([Q]) w' := hd 2 (by decide +kernel) (.inr (by decide))
      exact doesG_call rfl (ex_call (vs := #[.slice (some ⟨ub, 0, none⟩) 32 32, a.eval (.tmp 10)]) rfl (by simp only [List.map_toArray, List.map_cons, List.map_nil, e8]) (by go_simp)) rfl ((hof_any L [Q] (by rw [List.flatten_cons, List.flatten_nil, List.append_nil, HQ.out.1]; omega) _ _ w' (HLR.out w' hB) e10.rds (HT5.out.below hB)).mono fun e w2 hh => ⟨_, by rw [hh.1, List.flatten_cons, List.flatten_nil, List.append_nil, HV.out], rfl, hh.2⟩)
  · intro vs w6 hb hv hap
    have e11 : vs 3 = .agg (row8 V).toArray := hv 3 (by decide) (by decide)
    simp only [List.take_succ_cons, List.take_zero, List.drop_succ_cons, List.drop_zero, putOps, Act.put, List.setIfInBounds_toArray, List.set_cons_zero, List.set_cons_succ, e11]
    have R6 := Lib.hid (R5.out.below hb R5.out.lt)
    have B6 := Lib.hid (W5.out.on hb)
    clear hv hap e11 hb
    generalize vs 0 = v0 at *
    generalize vs 1 = v1 at *
    generalize vs 2 = v2 at *
    go_wp2_with (refine wpList_store_mid rfl 26 (.tmp 4) (.tmp 11) rfl (w.heap.size + 1 + 1) 0 (row8 V).toArray rfl rfl (R6.out.there _ (by rw [List.size_toArray, V32.out, hd0])) (by rw [List.size_toArray, V32.out]; exact infoS) (row8_one _) ?_)
    have fin := R6.out.whole (row8 V) (by rw [V32.out, hd0])
    exact bodyPost_ret (v := .agg (row8 V).toArray) (results_mid rfl _ _ (w.heap.size + 1 + 1) (row8 V) _ rfl fin.range Tryd.underlying26 rfl (by rw [V32.out]; exact infoS)) rfl ⟨rfl, below_setCells (w.heap.size + 1 + 1) (by omega) _ 0 _ B6.out⟩
set_option maxRecDepth 100000 in
set_option maxHeartbeats 2000000 in
theorem pseal_any (K M : List Nat) (hK : Bytes 32 K) (hM : Bytes 32 M) (w : World) (ht : TabX w) (hp : TabP w) :
    Calls Tryd.prog 63 #[.agg (row8 K).toArray, .agg (row8 M).toArray] w fun e w' => e = .returned (.tuple #[.agg (row8 (wseal K M)).toArray, .agg (row8 (wcheck K (wseal K M))).toArray]) ∧ Below w.heap.size w w' := by
  obtain ⟨Z, hZ⟩ : ∃ Z, Z = wseal K M := ⟨_, rfl⟩
  have bZ : Bytes 32 Z := by rw [hZ]; exact wseal_bytes K hM
  rw [← hZ]
  obtain ⟨V, hV⟩ : ∃ V, V = wcheck K Z := ⟨_, rfl⟩
  have bV : Bytes 32 V := by rw [hV]; exact wcheck_bytes K Z
  rw [← hV]
  obtain ⟨D0, hD0⟩ : ∃ D0, D0 = row8 (List.replicate 32 0) := ⟨_, rfl⟩
  have hz : ∀ w, (zeroValue 25).run Tryd.prog w = .ok (.agg D0.toArray) w := by rw [hD0]; exact zeroKeyW
  have hz2 : ∀ w, (zeroValue 26).run Tryd.prog w = .ok (.agg D0.toArray) w := by rw [hD0]; exact zeroSumW
  have hd0 : D0.length = 32 := by rw [hD0, row8_len, List.length_replicate]
  have w1 := (Below.refl w.heap.size w).alloc (Nat.le_refl _) (.cells (row8 K).toArray 25)
  have w2 := w1.alloc w1.size (.cells (row8 M).toArray 25)
  have w3 := w2.alloc w2.size (.cells D0.toArray 25)
  have w4 := w3.alloc w3.size (.cells D0.toArray 26)
  have N3 := Lib.hid ((((Blk.new w 25 (row8 K) _ rfl).alloc (.cells (row8 M).toArray 25)).alloc (.cells D0.toArray 25)).alloc (.cells D0.toArray 26))
  have M3 := Lib.hid (((Blk.new (w.alloc (.cells (row8 K).toArray 25)) 25 (row8 M) (w.heap.size + 1) (by simp)).alloc (.cells D0.toArray 25)).alloc (.cells D0.toArray 26))
  have R3 := Lib.hid ((Blk.new ((w.alloc (.cells (row8 K).toArray 25)).alloc (.cells (row8 M).toArray 25)) 25 D0 (w.heap.size + 1 + 1) (by simp)).alloc (.cells D0.toArray 26))
  have S3 := Lib.hid (Blk.new (((w.alloc (.cells (row8 K).toArray 25)).alloc (.cells (row8 M).toArray 25)).alloc (.cells D0.toArray 25)) 26 D0 (w.heap.size + 1 + 1 + 1) (by simp))
  have W3 := Lib.hid w4
  have F3 := Lib.hid (pmasked_any K M hK hM _ (ht.below w4) (hp.below w4))
  rw [← hZ] at F3
  have K32 := Lib.hid (show (row8 K).length = 32 by rw [row8_len]; exact hK.1)
  have M32 := Lib.hid (show (row8 M).length = 32 by rw [row8_len]; exact hM.1)
  have Z32 := Lib.hid (show (row8 Z).length = 32 by rw [row8_len]; exact bZ.1)
  have V32 := Lib.hid (show (row8 V).length = 32 by rw [row8_len]; exact bV.1)
  have HC0 := Lib.hid (fun W (hW : Below w.heap.size w W) => pcheck_any K Z hK bZ W (hp.below hW))
  rw [← hV] at HC0
  clear hZ bZ hV bV hD0 w1 w2 w3 w4 hK hM ht hp
  go_enter Tryd.func63, Tryd.ntmps63
  go_upto_region 2 with (first
    | (refine wpList_load_mid rfl 25 (.tmp 2) rfl w.heap.size 0 rfl (row8 K) _ N3.out.range Tryd.underlying25 rfl (by rw [K32.out]; exact infoKeyL) ?_)
    | (refine wpList_load_mid rfl 25 (.tmp 3) rfl (w.heap.size + 1) 0 rfl (row8 M) _ M3.out.range Tryd.underlying25 rfl (by rw [M32.out]; exact infoKeyL) ?_)
    | (go_at_call 74; (with_reducible refine F3.out.mono ?_); rintro e w4 ⟨rfl, b4⟩; have W4 := Lib.hid (W3.out.on b4); have N4 := Lib.hid (N3.out.below b4 N3.out.lt); have R4 := Lib.hid (R3.out.below b4 R3.out.lt); have S4 := Lib.hid (S3.out.below b4 S3.out.lt); clear b4)
    | (refine wpList_store_blk rfl 25 (.tmp 6) (.tmp 9) rfl w4.heap.size 0 (row8 Z) rfl rfl 25 D0 (Blk.new w4 25 D0 _ rfl) (by rw [Z32.out, hd0]; exact Nat.le_refl _) (by rw [Z32.out]; exact infoKeyL) (row8_one _) ?_; intro w5 b5 g5; rw [splice_all _ _ (by rw [Z32.out, hd0])] at b5; have hbw : Below w4.heap.size w4 w5 := alloc_turn (Below.refl _ _) g5; have Z5 := Lib.hid b5; have W5 := Lib.hid (W4.out.on hbw); have N5 := Lib.hid (N4.out.below hbw N4.out.lt); have R5 := Lib.hid (R4.out.below hbw R4.out.lt); have S5 := Lib.hid (S4.out.below hbw S4.out.lt); clear b5 g5 hbw))
  obtain ⟨zb, hzb⟩ : ∃ b, b = w4.heap.size := ⟨_, rfl⟩
  rw [← hzb] at Z5 ⊢
  have HC := Lib.hid (fun W (hW : Below w5.heap.size w5 W) => HC0.out W (W5.out.on hW))
  clear hzb N3 M3 R3 S3 W3 N4 R4 S4 W4 F3 HC0
  refine wp_region_g (by kernel_rfl) 4 (by decide) (by kernel_rfl) (by kernel_rfl) (by kernel_rfl) (w5.heap.size) (Nat.le_refl _) [.val (.agg (row8 Z).toArray), .val (.agg (row8 K).toArray), .val (.agg (row8 Z).toArray), .val (.agg (row8 V).toArray)] (fun _ => 6) ?_ ?_
  · refine ⟨?_, ?_, ?_, ?_, trivial⟩
    · intro a w' hF hB hd
      have e6 : a.eval (.tmp 6) = .pointer (some ⟨zb, 0, none⟩) := hF 6 (by decide +kernel)
      exact doesG_wp rfl rfl fun K' hK' => wp_load_mid 25 (.tmp 6) rfl zb 0 e6 (row8 Z) _ (Z5.out.below hB Z5.out.lt).range Tryd.underlying25 rfl (by rw [Z32.out]; exact infoKeyL) (hK' _ _ rfl (Below.refl _ _))
    · intro a w' hF hB hd
      have e2 : a.eval (.tmp 2) = .pointer (some ⟨w.heap.size, 0, none⟩) := hF 2 (by decide +kernel)
      exact doesG_wp rfl rfl fun K' hK' => wp_load_mid 25 (.tmp 2) rfl w.heap.size 0 e2 (row8 K) _ (N5.out.below hB N5.out.lt).range Tryd.underlying25 rfl (by rw [K32.out]; exact infoKeyL) (hK' _ _ rfl (Below.refl _ _))
    · intro a w' hF hB hd
      have e6 : a.eval (.tmp 6) = .pointer (some ⟨zb, 0, none⟩) := hF 6 (by decide +kernel)
      exact doesG_wp rfl rfl fun K' hK' => wp_load_mid 25 (.tmp 6) rfl zb 0 e6 (row8 Z) _ (Z5.out.below hB Z5.out.lt).range Tryd.underlying25 rfl (by rw [Z32.out]; exact infoKeyL) (hK' _ _ rfl (Below.refl _ _))
    · intro a w' hF hB hd
      have e11 : a.eval (.tmp 11) = .agg (row8 K).toArray := hd 1 (by decide +kernel) (.inr (by decide))
      have e12 : a.eval (.tmp 12) = .agg (row8 Z).toArray := hd 2 (by decide +kernel) (.inr (by decide))
      exact doesG_call rfl (ex_call (vs := #[.agg (row8 K).toArray, .agg (row8 Z).toArray]) rfl (by simp only [List.map_toArray, List.map_cons, List.map_nil, e11, e12]) (by go_simp)) rfl ((HC.out w' hB).mono fun e w2 hh => ⟨_, hh.1, rfl, hh.2⟩)
  · intro vs w6 hb hv hap
    have e10 : vs 0 = .agg (row8 Z).toArray := hv 0 (by decide) (by decide)
    have e13 : vs 3 = .agg (row8 V).toArray := hv 3 (by decide) (by decide)
    simp only [List.take_succ_cons, List.take_zero, List.drop_succ_cons, List.drop_zero, putOps, Act.put, List.setIfInBounds_toArray, List.set_cons_zero, List.set_cons_succ, e10, e13]
    have R6 := Lib.hid (R5.out.below hb R5.out.lt)
    have S6 := Lib.hid (S5.out.below hb S5.out.lt)
    have B6 := Lib.hid (W5.out.on hb)
    clear hv hap e10 e13 hb
    generalize vs 1 = v1 at *
    generalize vs 2 = v2 at *
    go_wp2_with (first
      | (refine wpList_store_blk rfl 25 (.tmp 4) (.tmp 10) rfl (w.heap.size + 1 + 1) 0 (row8 Z) rfl rfl 25 D0 R6.out (by rw [Z32.out, hd0]; exact Nat.le_refl _) (by rw [Z32.out]; exact infoKeyL) (row8_one _) ?_; intro w7 b7 g7; rw [splice_all _ _ (by rw [Z32.out, hd0])] at b7; have R7 := Lib.hid b7; have S7 := Lib.hid (S6.out.grown g7 (fun q => by have e : w.heap.size + 1 + 1 + 1 = w.heap.size + 1 + 1 := Option.some.inj q; omega)); have B7 := Lib.hid (B6.out.grown g7 B6.out.size (fun k hk => by have e : w.heap.size + 1 + 1 = k := Option.some.inj hk; omega)); clear b7 g7)
      | (refine wpList_store_blk rfl 26 (.tmp 5) (.tmp 13) rfl (w.heap.size + 1 + 1 + 1) 0 (row8 V) rfl rfl 26 D0 S7.out (by rw [V32.out, hd0]; exact Nat.le_refl _) (by rw [V32.out]; exact infoS) (row8_one _) ?_; intro w8 b8 g8; rw [splice_all _ _ (by rw [V32.out, hd0])] at b8; have S8 := Lib.hid b8; have R8 := Lib.hid (R7.out.grown g8 (fun q => by have e : w.heap.size + 1 + 1 = w.heap.size + 1 + 1 + 1 := Option.some.inj q; omega)); have B8 := Lib.hid (B7.out.grown g8 B7.out.size (fun k hk => by have e : w.heap.size + 1 + 1 + 1 = k := Option.some.inj hk; omega)); clear b8 g8))
    exact bodyPost_ret (v := .tuple #[.agg (row8 Z).toArray, .agg (row8 V).toArray]) (results_cc rfl _ _ (w.heap.size + 1 + 1) (w.heap.size + 1 + 1 + 1) (row8 Z) (row8 V) _ _ rfl rfl R8.out.range S8.out.range Tryd.underlying25 Tryd.underlying26 rfl rfl (by rw [Z32.out]; exact infoKeyL) (by rw [V32.out]; exact infoS)) rfl ⟨rfl, B8.out⟩
set_option maxRecDepth 100000 in
set_option maxHeartbeats 4000000 in
theorem popen_any (K Q C : List Nat) (hK : Bytes 32 K) (hQ : Bytes 32 Q) (hC : Bytes 32 C) (w : World) (ht : TabX w) (hp : TabP w) :
    Calls Tryd.prog 56 #[.agg (row8 K).toArray, .agg (row8 Q).toArray, .agg (row8 C).toArray] w fun e w' => e = .returned (.tuple #[.agg (row8 (wopen K Q C)).toArray, .int .i64 (werr K Q C)]) ∧ Below w.heap.size w w' := by
  obtain ⟨Z, hZ⟩ : ∃ Z, Z = wseal K Q := ⟨_, rfl⟩
  have bZ : Bytes 32 Z := by rw [hZ]; exact wseal_bytes K hQ
  obtain ⟨V, hV⟩ : ∃ V, V = wcheck K Q := ⟨_, rfl⟩
  have bV : Bytes 32 V := by rw [hV]; exact wcheck_bytes K Q
  unfold wopen werr
  rw [← hZ, ← hV]
  obtain ⟨O, hO⟩ : ∃ O, O = (if V = C then Z else List.replicate 32 0) := ⟨_, rfl⟩
  obtain ⟨r, hr⟩ : ∃ r : Int, r = (if V = C then 0 else 30) := ⟨_, rfl⟩
  rw [← hO, ← hr]
  have HO := Lib.hid hO
  have HR := Lib.hid hr
  obtain ⟨D0, hD0⟩ : ∃ D0, D0 = row8 (List.replicate 32 0) := ⟨_, rfl⟩
  have hz : ∀ w, (zeroValue 25).run Tryd.prog w = .ok (.agg D0.toArray) w := by rw [hD0]; exact zeroKeyW
  have hz2 : ∀ w, (zeroValue 26).run Tryd.prog w = .ok (.agg D0.toArray) w := by rw [hD0]; exact zeroSumW
  have hd0 : D0.length = 32 := by rw [hD0, row8_len, List.length_replicate]
  have hbd : Tryd.prog.built 25 [] = some D0.toArray := by rw [hD0]; kernel_rfl
  have HBD := Lib.hid hbd
  have HDD := Lib.hid hD0
  have w1 := (Below.refl w.heap.size w).alloc (Nat.le_refl _) (.cells (row8 K).toArray 25)
  have w2 := w1.alloc w1.size (.cells (row8 Q).toArray 25)
  have w3 := w2.alloc w2.size (.cells (row8 C).toArray 26)
  have w4 := w3.alloc w3.size (.cells D0.toArray 25)
  have N3 := Lib.hid ((((Blk.new w 25 (row8 K) _ rfl).alloc (.cells (row8 Q).toArray 25)).alloc (.cells (row8 C).toArray 26)).alloc (.cells D0.toArray 25))
  have Q3 := Lib.hid (((Blk.new (w.alloc (.cells (row8 K).toArray 25)) 25 (row8 Q) (w.heap.size + 1) (by simp)).alloc (.cells (row8 C).toArray 26)).alloc (.cells D0.toArray 25))
  have C3 := Lib.hid ((Blk.new ((w.alloc (.cells (row8 K).toArray 25)).alloc (.cells (row8 Q).toArray 25)) 26 (row8 C) (w.heap.size + 1 + 1) (by simp)).alloc (.cells D0.toArray 25))
  have R3 := Lib.hid (Blk.new (((w.alloc (.cells (row8 K).toArray 25)).alloc (.cells (row8 Q).toArray 25)).alloc (.cells (row8 C).toArray 26)) 25 D0 (w.heap.size + 1 + 1 + 1) (by simp))
  have W3 := Lib.hid w4
  have F3 := Lib.hid (pcheck_any K Q hK hQ _ (hp.below w4))
  rw [← hV] at F3
  have K32 := Lib.hid (show (row8 K).length = 32 by rw [row8_len]; exact hK.1)
  have Q32 := Lib.hid (show (row8 Q).length = 32 by rw [row8_len]; exact hQ.1)
  have Z32 := Lib.hid (show (row8 Z).length = 32 by rw [row8_len]; exact bZ.1)
  have V32 := Lib.hid (show (row8 V).length = 32 by rw [row8_len]; exact bV.1)
  have HMK := Lib.hid (fun W (hW : Below w.heap.size w W) => pmasked_any K Q hK hQ W (ht.below hW) (hp.below hW))
  rw [← hZ] at HMK
  have HV := Lib.hid bV
  have HC := Lib.hid hC
  clear hZ bZ hV bV hD0 w1 w2 w3 w4 hK hQ hC ht hp hbd hO hr
  go_enter Tryd.func56, Tryd.ntmps56
  go_upto_region 2 with (first
    | (refine wpList_load_mid rfl 25 (.tmp 3) rfl w.heap.size 0 rfl (row8 K) _ N3.out.range Tryd.underlying25 rfl (by rw [K32.out]; exact infoKeyL) ?_)
    | (refine wpList_load_mid rfl 25 (.tmp 4) rfl (w.heap.size + 1) 0 rfl (row8 Q) _ Q3.out.range Tryd.underlying25 rfl (by rw [Q32.out]; exact infoKeyL) ?_)
    | (go_at_call 72; (with_reducible refine F3.out.mono ?_); rintro e w5 ⟨rfl, b5⟩; have W5 := Lib.hid (W3.out.on b5); have N5 := Lib.hid (N3.out.below b5 N3.out.lt); have Q5 := Lib.hid (Q3.out.below b5 Q3.out.lt); have C5 := Lib.hid (C3.out.below b5 C3.out.lt); have R5 := Lib.hid (R3.out.below b5 R3.out.lt); clear b5)
    | (refine wpList_store_blk rfl 26 (.tmp 8) (.tmp 11) rfl w5.heap.size 0 (row8 V) rfl rfl 26 D0 (Blk.new w5 26 D0 _ rfl) (by rw [V32.out, hd0]; exact Nat.le_refl _) (by rw [V32.out]; exact infoS) (row8_one _) ?_; intro w6 b6 g6; rw [splice_all _ _ (by rw [V32.out, hd0])] at b6; have hbw : Below w5.heap.size w5 w6 := alloc_turn (Below.refl _ _) g6; have V6 := Lib.hid b6; have W6 := Lib.hid (W5.out.on hbw); have N6 := Lib.hid (N5.out.below hbw N5.out.lt); have Q6 := Lib.hid (Q5.out.below hbw Q5.out.lt); have C6 := Lib.hid (C5.out.below hbw C5.out.lt); have R6 := Lib.hid (R5.out.below hbw R5.out.lt); clear b6 g6 hbw))
  obtain ⟨vb, hvb⟩ : ∃ b, b = w5.heap.size := ⟨_, rfl⟩
  rw [← hvb] at V6 ⊢
  have HEQ := Lib.hid (fun W (hW : Below w6.heap.size w6 W) => equal_any C V (.slice (some ⟨w.heap.size + 1 + 1, 0, none⟩) 32 32) (.slice (some ⟨vb, 0, none⟩) 32 32) W
    (by
      have k := blk_rd (C6.out.below hW C6.out.lt) HC.out.2 (n := 32) (cap := 32) (by rw [HC.out.1]; omega) (by omega) (by rw [HC.out.1]; omega)
      rw [List.take_of_length_le (by rw [HC.out.1]; omega)] at k
      exact k)
    (by
      have k := blk_rd (V6.out.below hW V6.out.lt) HV.out.2 (n := 32) (cap := 32) (by rw [HV.out.1]; omega) (by omega) (by rw [HV.out.1]; omega)
      rw [List.take_of_length_le (by rw [HV.out.1]; omega)] at k
      exact k))
  clear hvb N3 Q3 C3 R3 W3 N5 Q5 C5 R5 W5 F3
  by_cases hVC : V = C
  · have hO := HO.out
    have hr := HR.out
    rw [if_pos hVC] at hO hr
    subst hO
    subst hr
    rw [decide_eq_true hVC.symm] at HEQ
    clear hVC HO HR
    refine wp_region_g (by kernel_rfl) 4 (by decide) (by kernel_rfl) (by kernel_rfl) (by kernel_rfl) (w6.heap.size) (Nat.le_refl _) [.val (.slice (some ⟨w.heap.size + 1 + 1, 0, none⟩) 32 32), .val (.slice (some ⟨vb, 0, none⟩) 32 32), .val (.bool true), .val (.bool false)] (fun _ => 4) ?_ ?_
    · refine ⟨?_, ?_, ?_, ?_, trivial⟩
      · intro a w' hF hB hd
        have e5 : a.eval (.tmp 5) = .pointer (some ⟨w.heap.size + 1 + 1, 0, none⟩) := hF 5 (by decide +kernel)
        exact doesG_val rfl (v := .slice (some ⟨w.heap.size + 1 + 1, 0, none⟩) 32 32) (by unfold execOp; simp only [e5]; go_simp) rfl rfl
      · intro a w' hF hB hd
        have e8 : a.eval (.tmp 8) = .pointer (some ⟨vb, 0, none⟩) := hF 8 (by decide +kernel)
        exact doesG_val rfl (v := .slice (some ⟨vb, 0, none⟩) 32 32) (by unfold execOp; simp only [e8]; go_simp) rfl rfl
      · intro a w' hF hB hd
        have e12 : a.eval (.tmp 12) = .slice (some ⟨w.heap.size + 1 + 1, 0, none⟩) 32 32 := hd 0 (by decide +kernel) (.inr (by decide))
        have e13 : a.eval (.tmp 13) = .slice (some ⟨vb, 0, none⟩) 32 32 := hd 1 (by decide +kernel) (.inr (by decide))
        exact doesG_call rfl (ex_call (vs := #[.slice (some ⟨w.heap.size + 1 + 1, 0, none⟩) 32 32, .slice (some ⟨vb, 0, none⟩) 32 32]) rfl (by simp only [List.map_toArray, List.map_cons, List.map_nil, e12, e13]) (by go_simp)) rfl ((HEQ.out w' hB).mono fun e w2 hh => ⟨_, hh.1, rfl, hh.2⟩)
      · intro a w' hF hB hd
        have e14 : a.eval (.tmp 14) = .bool true := hd 2 (by decide +kernel) (.inr (by decide))
        exact doesG_val rfl (v := .bool false) (by unfold execOp; simp only [e14]; go_simp) rfl rfl
    · intro vs w7 hb hv hap
      have e15 : vs 3 = .bool false := hv 3 (by decide) (by decide)
      simp only [List.take_succ_cons, List.take_zero, List.drop_succ_cons, List.drop_zero, putOps, Act.put, List.setIfInBounds_toArray, List.set_cons_zero, List.set_cons_succ, e15]
      have R7 := Lib.hid (R6.out.below hb R6.out.lt)
      have N7 := Lib.hid (N6.out.below hb N6.out.lt)
      have Q7 := Lib.hid (Q6.out.below hb Q6.out.lt)
      have B7 := Lib.hid (W6.out.on hb)
      clear hv hap e15 hb
      generalize vs 0 = v0 at *
      generalize vs 1 = v1 at *
      generalize vs 2 = v2 at *
      have HMM := Lib.hid (HMK.out w7 B7.out)
      go_wp2_with (first
        | (refine wpList_load_mid rfl 25 (.tmp 3) rfl w.heap.size 0 rfl (row8 K) _ N7.out.range Tryd.underlying25 rfl (by rw [K32.out]; exact infoKeyL) ?_)
        | (refine wpList_load_mid rfl 25 (.tmp 4) rfl (w.heap.size + 1) 0 rfl (row8 Q) _ Q7.out.range Tryd.underlying25 rfl (by rw [Q32.out]; exact infoKeyL) ?_)
        | (go_at_call 74; (with_reducible refine HMM.out.mono ?_); rintro e w8 ⟨rfl, b8⟩; have R8 := Lib.hid (R7.out.below b8 R7.out.lt); have B8 := Lib.hid (B7.out.on b8); clear b8)
        | (refine wpList_store_mid rfl 25 (.tmp 6) (.tmp 19) rfl (w.heap.size + 1 + 1 + 1) 0 (row8 O).toArray rfl rfl (R8.out.there _ (by rw [List.size_toArray, Z32.out, hd0])) (by rw [List.size_toArray, Z32.out]; exact infoKeyL) (row8_one _) ?_))
      have fin := R8.out.whole (row8 O) (by rw [Z32.out, hd0])
      exact bodyPost_ret (results_cs rfl _ _ (w.heap.size + 1 + 1 + 1) (row8 O) _ rfl fin.range Tryd.underlying25 rfl (by rw [Z32.out]; exact infoKeyL)) rfl ⟨rfl, below_setCells (w.heap.size + 1 + 1 + 1) (by omega) _ 0 _ B8.out⟩
  · have hO := HO.out
    have hr := HR.out
    rw [if_neg hVC] at hO hr
    subst hr
    clear HR
    rw [decide_eq_false (fun e => hVC e.symm)] at HEQ
    have HOD := Lib.hid (show row8 O = D0 by rw [hO]; exact HDD.out.symm)
    clear hVC HO hO
    refine wp_region_g (by kernel_rfl) 4 (by decide) (by kernel_rfl) (by kernel_rfl) (by kernel_rfl) (w6.heap.size) (Nat.le_refl _) [.val (.slice (some ⟨w.heap.size + 1 + 1, 0, none⟩) 32 32), .val (.slice (some ⟨vb, 0, none⟩) 32 32), .val (.bool false), .val (.bool true)] (fun _ => 4) ?_ ?_
    · refine ⟨?_, ?_, ?_, ?_, trivial⟩
      · intro a w' hF hB hd
        have e5 : a.eval (.tmp 5) = .pointer (some ⟨w.heap.size + 1 + 1, 0, none⟩) := hF 5 (by decide +kernel)
        exact doesG_val rfl (v := .slice (some ⟨w.heap.size + 1 + 1, 0, none⟩) 32 32) (by unfold execOp; simp only [e5]; go_simp) rfl rfl
      · intro a w' hF hB hd
        have e8 : a.eval (.tmp 8) = .pointer (some ⟨vb, 0, none⟩) := hF 8 (by decide +kernel)
        exact doesG_val rfl (v := .slice (some ⟨vb, 0, none⟩) 32 32) (by unfold execOp; simp only [e8]; go_simp) rfl rfl
      · intro a w' hF hB hd
        have e12 : a.eval (.tmp 12) = .slice (some ⟨w.heap.size + 1 + 1, 0, none⟩) 32 32 := hd 0 (by decide +kernel) (.inr (by decide))
        have e13 : a.eval (.tmp 13) = .slice (some ⟨vb, 0, none⟩) 32 32 := hd 1 (by decide +kernel) (.inr (by decide))
        exact doesG_call rfl (ex_call (vs := #[.slice (some ⟨w.heap.size + 1 + 1, 0, none⟩) 32 32, .slice (some ⟨vb, 0, none⟩) 32 32]) rfl (by simp only [List.map_toArray, List.map_cons, List.map_nil, e12, e13]) (by go_simp)) rfl ((HEQ.out w' hB).mono fun e w2 hh => ⟨_, hh.1, rfl, hh.2⟩)
      · intro a w' hF hB hd
        have e14 : a.eval (.tmp 14) = .bool false := hd 2 (by decide +kernel) (.inr (by decide))
        exact doesG_val rfl (v := .bool true) (by unfold execOp; simp only [e14]; go_simp) rfl rfl
    · intro vs w7 hb hv hap
      have e15 : vs 3 = .bool true := hv 3 (by decide) (by decide)
      simp only [List.take_succ_cons, List.take_zero, List.drop_succ_cons, List.drop_zero, putOps, Act.put, List.setIfInBounds_toArray, List.set_cons_zero, List.set_cons_succ, e15]
      have R7 := Lib.hid (R6.out.below hb R6.out.lt)
      have N7 := Lib.hid (N6.out.below hb N6.out.lt)
      have Q7 := Lib.hid (Q6.out.below hb Q6.out.lt)
      have B7 := Lib.hid (W6.out.on hb)
      clear hv hap e15 hb
      generalize vs 0 = v0 at *
      generalize vs 1 = v1 at *
      generalize vs 2 = v2 at *
      go_wp2_with (first
        | (refine wpList_buildTo rfl 25 _ rfl (some 16) rfl D0.toArray (Eq.trans (b := Tryd.prog.built 25 []) (by kernel_rfl) HBD.out) ?_)
        | (refine wpList_store_mid rfl 25 (.tmp 6) (.tmp 16) rfl (w.heap.size + 1 + 1 + 1) 0 D0.toArray rfl rfl (R7.out.there _ (by rw [List.size_toArray, hd0])) (by rw [List.size_toArray, hd0]; exact infoKeyL) (by rw [HDD.out]; exact row8_one _) ?_))
      have fin := R7.out.whole D0 rfl
      rw [HOD.out]
      exact bodyPost_ret (results_cs rfl _ _ (w.heap.size + 1 + 1 + 1) D0 _ rfl fin.range Tryd.underlying25 rfl (by rw [hd0]; exact infoKeyL)) rfl ⟨rfl, below_setCells (w.heap.size + 1 + 1 + 1) (by omega) _ 0 _ B7.out⟩
end Go.Proofs.YtbepchikngoknaaDoor

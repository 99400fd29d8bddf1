/- The program takes a snapshot away: contract. Written by gen_ctact2.py. Own work. -/
import Derived.Test.YtkagapgganoomaaCtRev
namespace Go.Proofs.Ytkagapgganoomaa
open Go.ChangeShapes Go.WideShapes Go.ChangeAt Go.RowKit
open RT CT
theorem rdsT_two {w : World} {a b : Option Addr} {n m c d : Nat} {l1 l2 : List Sn} (h1 : RdT 34 w (.slice a n c) l1.length (sncs l1)) (h2 : RdT 34 w (.slice b m d) l2.length (sncs l2)) : RdsT (w.alloc (.cells #[.slice a n c, .slice b m d] 27)) (.slice (some ⟨w.heap.size, 0, none⟩) 2 2) [l1, l2] := by
  have hb := Blk.new w 27 [.slice a n c, .slice b m d] _ rfl
  have B := (Below.refl w.heap.size w).alloc (Nat.le_refl _) (.cells #[.slice a n c, .slice b m d] 27)
  refine ⟨by simp, _, 2, rfl, Nat.le_refl _, fun j l hj => ?_⟩
  match j with
  | 0 =>
    obtain rfl : l1 = l := Option.some.inj hj
    exact ⟨_, hb.cell 0 _ rfl, h1.below B⟩
  | 1 =>
    obtain rfl : l2 = l := Option.some.inj hj
    exact ⟨_, hb.cell 1 _ rfl, h2.below B⟩
  | j + 2 => simp at hj
theorem rdsT_three {w : World} {a b e : Option Addr} {n m c d f g : Nat} {l1 l2 l3 : List Sn} (h1 : RdT 34 w (.slice a n c) l1.length (sncs l1)) (h2 : RdT 34 w (.slice b m d) l2.length (sncs l2)) (h3 : RdT 34 w (.slice e f g) l3.length (sncs l3)) : RdsT (w.alloc (.cells #[.slice a n c, .slice b m d, .slice e f g] 27)) (.slice (some ⟨w.heap.size, 0, none⟩) 3 3) [l1, l2, l3] := by
  have hb := Blk.new w 27 [.slice a n c, .slice b m d, .slice e f g] _ rfl
  have B := (Below.refl w.heap.size w).alloc (Nat.le_refl _) (.cells #[.slice a n c, .slice b m d, .slice e f g] 27)
  refine ⟨by simp, _, 3, rfl, Nat.le_refl _, fun j l hj => ?_⟩
  match j with
  | 0 =>
    obtain rfl : l1 = l := Option.some.inj hj
    exact ⟨_, hb.cell 0 _ rfl, h1.below B⟩
  | 1 =>
    obtain rfl : l2 = l := Option.some.inj hj
    exact ⟨_, hb.cell 1 _ rfl, h2.below B⟩
  | 2 =>
    obtain rfl : l3 = l := Option.some.inj hj
    exact ⟨_, hb.cell 2 _ rfl, h3.below B⟩
  | j + 3 => simp at hj
/-- How far a region has come that makes a slice of pieces and stores it with a ref. -/
def DropB (w1 : World) (res m : Nat) (CS PT : List Value) (LS : List (List Sn)) : Nat → Told → World → Prop
  | 0, _, w => Below w1.heap.size w1 w
  | 1, r, w => ∃ b, r 11 = some (.slice (some ⟨b, 0, none⟩) 2 2) ∧ RdsT w (.slice (some ⟨b, 0, none⟩) 2 2) LS ∧ Below w1.heap.size w1 w
  | 2, r, w => ∃ a c, r 12 = some (.slice a m c) ∧ w.ownsRow w1.heap.size 60 34 (.slice a m c) m CS ∧ Below w1.heap.size w1 w
  | _, r, w => ∃ a c, r 12 = some (.slice a m c) ∧ w.ownsRow w1.heap.size 60 34 (.slice a m c) m CS ∧ Blk w res 29 (PT ++ [.slice a m c]) ∧ w1.grownBy w (some res)
set_option maxRecDepth 100000 in
set_option maxHeartbeats 4000000 in
theorem cpdrop_any (c : Ct) (hc : CT.Ok c) (nm : ByteArray) (v : Value) (w : World) (hv : RdT 34 w v c.snaps.length (sncs c.snaps)) (hn1 : c.snaps.length ≤ 140737488355328) :
    Calls Try.prog 25 #[.agg (ctc c v).toArray, .string nm] w fun e w' => ∃ u, e = .returned (.tuple #[.agg (ctc (CT.drop c nm).1 u).toArray, .int .i64 (CT.drop c nm).2]) ∧ w'.ownsRow w.heap.size 60 34 u (CT.drop c nm).1.snaps.length (sncs (CT.drop c nm).1.snaps) ∧ Below w.heap.size w w' := by
  obtain ⟨ra, rq, rfl, hcap⟩ := hv.shape
  obtain ⟨L, hL⟩ : ∃ L, L = ctc c (.slice ra c.snaps.length rq) := ⟨_, rfl⟩
  obtain ⟨Z, hZ⟩ : ∃ Z, Z = ctc CT.zero (.slice none 0 0) := ⟨_, rfl⟩
  have hz : ∀ w, (zeroValue 29).run Try.prog w = .ok (.agg Z.toArray) w := by rw [hZ]; exact zeroCt
  have hbr : Try.prog.built 29 [] = some Z.toArray := by rw [hZ]; exact builtCt0
  have Z34 := Lib.hid (show Z.length = 34 by rw [hZ]; exact ctc_len CT.zp_ok _)
  have ZO := Lib.hid (show Z.toArray.all (·.oneCell') = true by rw [hZ]; exact ctc_all rfl)
  have L34 := Lib.hid (show L.length = 34 by rw [hL]; exact ctc_len hc.top _)
  have W1 := Lib.hid (((Below.refl w.heap.size w).alloc (Nat.le_refl _) (.cells L.toArray 29)).alloc (by simp) (.cells Z.toArray 29))
  have X1 := Lib.hid ((Blk.new w 29 L _ rfl).alloc (.cells Z.toArray 29))
  have Y1 := Lib.hid (Blk.new (w.alloc (.cells L.toArray 29)) 29 Z (w.heap.size + 1) (by simp))
  have C1 := Lib.hid (show L[33]? = some (.slice ra c.snaps.length rq) by rw [hL]; exact ctc_snaps hc.top _)
  have HV := Lib.hid hv
  have HL := Lib.hid hc.snaps
  have HCH := Lib.hid (fun W (h : RdT 34 W (.slice ra c.snaps.length rq) c.snaps.length (sncs c.snaps)) => pchecked_any c hc nm _ W h hn1)
  rw [← hL] at HCH ⊢
  have HZ := Lib.hid hZ
  clear hZ
  have HX := Lib.hid (show CT.drop c nm = if CT.check c ≠ 0 then (CT.zero, CT.check c) else if plc c.snaps nm < 0 then (CT.zero, 22) else (⟨c.top, without c.snaps (plc c.snaps nm).toNat⟩, 0) from rfl)
  have HCD := Lib.hid (show chkd c nm = if CT.check c ≠ 0 then (0, CT.check c) else if plc c.snaps nm < 0 then (0, 22) else (plc c.snaps nm, 0) from rfl)
  by_cases hok : CT.check c = 0 ∧ 0 ≤ plc c.snaps nm
  · obtain ⟨k, hk, hp, -⟩ : ∃ (k : Nat) (hk : k < c.snaps.length), plc c.snaps nm = (k : Int) ∧ c.snaps[k].name = nm := by
      rcases plc_cases c.snaps nm with ⟨h, -⟩ | h
      · omega
      · exact h
    have h64 : c.snaps.length ≤ 64 := (check_zero.1 hok.1).1
    have hX : CT.drop c nm = (⟨c.top, without c.snaps (plc c.snaps nm).toNat⟩, 0) := by rw [HX.out, if_neg (by rw [hok.1]; decide), if_neg (by omega)]
    have hcd : chkd c nm = ((k : Int), 0) := by rw [HCD.out, if_neg (by rw [hok.1]; decide), if_neg (by omega), hp]
    rw [hp, Int.toNat_natCast] at hX
    rw [hcd] at HCH
    rw [hX]
    clear HX HCD hX hcd hok hp
    have HKC := Lib.hid (show k ≤ rq by omega)
    have HK1 := Lib.hid (show k + 1 ≤ c.snaps.length by omega)
    have HNC := Lib.hid hcap
    have HAW := Lib.hid (show IntKind.i64.wrap ((k : Int) + 1) = ((k + 1 : Nat) : Int) by rw [IntKind.wrap_i64]; omega)
    have HRX := Lib.hid (fun W (h : Blk W w.heap.size 29 L) => ct_topE h hL)
    have P33 := Lib.hid (pc_len hc.top)
    have HPT := Lib.hid (fun u => show ctc ⟨c.top, without c.snaps k⟩ u = pc c.top ++ [u] from rfl)
    have PTO := Lib.hid (fun (a : Option Addr) (n q : Nat) => show (pc c.top ++ [Value.slice a n q]).toArray.all (·.oneCell') = true from ctc_all (c := ⟨c.top, []⟩) rfl)
    have H1 := Lib.hid (fun W (h : Below w.heap.size w W) => (HV.out.below h).take34 HL.out rfl (k := k) (by omega))
    have H2 := Lib.hid (fun W (h : Below w.heap.size w W) => (HV.out.below h).drop34 HL.out rfl hcap (k := k + 1) (by omega))
    obtain ⟨A2, hA2⟩ : ∃ x, x = (if rq = k + 1 then ra else ra.map (·.add ((k + 1) * 34))) := ⟨_, rfl⟩
    obtain ⟨N2, hN2⟩ : ∃ x, x = c.snaps.length - (k + 1) := ⟨_, rfl⟩
    obtain ⟨C2, hC2⟩ : ∃ x, x = rq - (k + 1) := ⟨_, rfl⟩
    have HSL := Lib.hid (show (Value.slice (if rq = k + 1 then ra else ra.map (·.add ((k + 1) * 34))) (c.snaps.length - (k + 1)) (rq - (k + 1))) = .slice A2 N2 C2 by rw [hA2, hN2, hC2])
    rw [HSL.out] at H2
    have hfl : [c.snaps.take k, c.snaps.drop (k + 1)].flatten = without c.snaps k := by unfold without; simp
    have HCC := Lib.hid (fun v W (h : RdsT W v [c.snaps.take k, c.snaps.drop (k + 1)]) => concatT_any _ (by rw [hfl]; unfold without; rw [List.length_append, List.length_take, List.length_drop]; omega) v W h)
    rw [hfl] at HCC
    obtain ⟨LS, hLS⟩ : ∃ x, x = [c.snaps.take k, c.snaps.drop (k + 1)] := ⟨_, rfl⟩
    rw [← hLS] at HCC
    have HLS := Lib.hid hLS
    obtain ⟨PT, hPT⟩ : ∃ x, x = pc c.top := ⟨_, rfl⟩
    rw [← hPT] at HPT P33 HRX PTO
    have PTL := Lib.hid (fun_len P33.out)
    have HBC := Lib.hid (fun a n q => built_ct PT P33.out a n q)
    rw [show (⟨c.top, without c.snaps k⟩ : Ct).snaps = without c.snaps k from rfl]
    obtain ⟨CT0, hCT0⟩ : ∃ x, x = (⟨c.top, without c.snaps k⟩ : Ct) := ⟨_, rfl⟩
    rw [← hCT0] at HPT ⊢
    obtain ⟨CS, hCS⟩ : ∃ x, x = sncs (without c.snaps k) := ⟨_, rfl⟩
    obtain ⟨m, hm⟩ : ∃ x, x = (without c.snaps k).length := ⟨_, rfl⟩
    rw [← hCS, ← hm] at HCC ⊢
    obtain ⟨n, hn⟩ : ∃ n, n = c.snaps.length := ⟨_, rfl⟩
    rw [← hn] at HCH HV HSL HK1 HNC C1
    have hkn : k ≤ rq := HKC.out
    clear hL hA2 hN2 hC2 hfl hLS hPT hCT0 hCS hm hn hv hc hn1 HL hcap hk h64 hkn
    go_enter Try.func25, Try.ntmps25
    go_upto_region 4 with (first
      | (refine wpList_load_mid rfl 29 (.tmp 2) rfl w.heap.size 0 rfl L _ X1.out.range Try.underlying29 rfl (by rw [L34.out]; exact infoCtC) ?_)
      | (go_at_call 54; (with_reducible refine (HCH.out _ (HV.out.below W1.out)).mono ?_); rintro e w2 ⟨rfl, b2⟩; have W2 := Lib.hid (W1.out.on b2); have X2 := Lib.hid (X1.out.below b2 X1.out.lt); have Y2 := Lib.hid (Y1.out.below b2 Y1.out.lt); clear b2))
    clear HCH
    obtain ⟨w1, hw1⟩ : ∃ x, x = w2 := ⟨_, rfl⟩
    rw [← hw1] at W2 X2 Y2 ⊢
    clear hw1 Y1 X1
    have Y1 := Y2
    have X1 := X2
    refine wp_region_z (by kernel_rfl) [11, 12, 14] (by kernel_rfl) (by kernel_rfl) (Stg [11, 12, 14] ((DropB w1 (w.heap.size + 1) m CS PT LS))) [.pre (.pointer (some ⟨w.heap.size, 0, none⟩)), .pre (.agg PT.toArray), .pre (.pointer (some ⟨w.heap.size, 33, none⟩)), .pre (.slice ra n rq), .pre (.int .i64 (k : Int)), .pre (.slice ra k rq), .pre (.pointer (some ⟨w.heap.size, 33, none⟩)), .pre (.slice ra n rq), .pre (.int .i64 (k : Int)), .pre (.int .i64 ((k + 1 : Nat) : Int)), .pre (.slice A2 N2 C2), .of 11 (fun u v => v = u), .of 12 (fun u v => v = u), .of 12 (fun u v => ∃ p q, u = .slice p m q ∧ v = .agg (PT ++ [u]).toArray), .any, .pre (.int .i64 0)] (fun i hi hq => by
            simp only [List.mem_cons, List.mem_nil_iff, or_false] at hi
            rcases hi with rfl | rfl | rfl
            · exact absurd hq (by decide +kernel)
            · exact absurd hq (by decide +kernel)
            · rfl) (Stg.zero (show DropB w1 (w.heap.size + 1) m CS PT LS 0 _ w1.drew from (Below.refl _ _).drew)) ?_ ?_
    · refine ⟨?_, ?_, ?_, ?_, ?_, ?_, ?_, ?_, ?_, ?_, ?_, ?_, ?_, ?_, ?_, ?_, trivial⟩
      · intro a w5 r hF hI hns hri h1 h2 hd
        have e2 : a.eval (.tmp 2) = .pointer (some ⟨w.heap.size, 0, none⟩) := hF 2 (by decide +kernel)
        exact doesZ_read (v := .pointer (some ⟨w.heap.size, 0, none⟩)) (by decide) rfl (ex_fieldAddr rfl e2 (by go_simp)) hI rfl
      · intro a w5 r hF hI hns hri h1 h2 hd
        have e18 : a.eval (.tmp 18) = .pointer (some ⟨w.heap.size, 0, none⟩) := hd 0 (by decide +kernel)
        obtain ⟨kst, hk1, hk2, hA⟩ : ∃ kst, 0 ≤ kst ∧ kst ≤ 2 ∧ (DropB w1 (w.heap.size + 1) m CS PT LS) kst r w5 := hI.between 0 2 (.inl rfl) (.inr ⟨by decide, h1 14 (by decide) (by decide +kernel)⟩)
        have hB : Below w1.heap.size w1 w5 := by
          rcases (show kst = 0 ∨ kst = 1 ∨ kst = 2 by omega) with rfl | rfl | rfl
          · exact hA
          · exact (by obtain ⟨_, _, _, hb⟩ := hA; exact hb)
          · exact (by obtain ⟨_, _, _, _, hb⟩ := hA; exact hb)
        exact doesZ_ld (by decide) rfl 26 (.tmp 18) rfl (w.heap.size) (0) e18 PT (HRX.out w5 (X1.out.below hB X1.out.lt)) _ Try.underlying26 rfl (by rw [P33.out]; exact infoRfC) hI rfl
      · intro a w5 r hF hI hns hri h1 h2 hd
        have e2 : a.eval (.tmp 2) = .pointer (some ⟨w.heap.size, 0, none⟩) := hF 2 (by decide +kernel)
        exact doesZ_read (v := .pointer (some ⟨w.heap.size, 33, none⟩)) (by decide) rfl (ex_fieldAddr rfl e2 (by go_simp)) hI rfl
      · intro a w5 r hF hI hns hri h1 h2 hd
        have e20 : a.eval (.tmp 20) = .pointer (some ⟨w.heap.size, 33, none⟩) := hd 2 (by decide +kernel)
        obtain ⟨kst, hk1, hk2, hA⟩ : ∃ kst, 0 ≤ kst ∧ kst ≤ 0 ∧ (DropB w1 (w.heap.size + 1) m CS PT LS) kst r w5 := hI.between 0 0 (.inl rfl) (.inr ⟨by decide, h1 11 (by decide) (by decide +kernel)⟩)
        have hB : Below w1.heap.size w1 w5 := by
          rcases (show kst = 0 by omega) with rfl
          · exact hA
        have cc := (X1.out.below hB X1.out.lt).cell 33 _ C1.out
        exact doesZ_read (v := .slice ra n rq) (by decide) rfl (by unfold execOp; simp only [e20]; go_simp) hI rfl
      · intro a w5 r hF hI hns hri h1 h2 hd
        have e6 : a.eval (.tmp 6) = .int .i64 (k : Int) := hF 6 (by decide +kernel)
        exact doesZ_read (v := .int .i64 (k : Int)) (by decide) rfl (ex_move rfl e6) hI rfl
      · intro a w5 r hF hI hns hri h1 h2 hd
        have e21 : a.eval (.tmp 21) = .slice ra n rq := hd 3 (by decide +kernel)
        have e22 : a.eval (.tmp 22) = .int .i64 (k : Int) := hd 4 (by decide +kernel)
        exact doesZ_read (v := .slice ra k rq) (by decide) rfl (ex_cutT_h rfl e21 e22 HKC.out) hI rfl
      · intro a w5 r hF hI hns hri h1 h2 hd
        have e2 : a.eval (.tmp 2) = .pointer (some ⟨w.heap.size, 0, none⟩) := hF 2 (by decide +kernel)
        exact doesZ_read (v := .pointer (some ⟨w.heap.size, 33, none⟩)) (by decide) rfl (ex_fieldAddr rfl e2 (by go_simp)) hI rfl
      · intro a w5 r hF hI hns hri h1 h2 hd
        have e24 : a.eval (.tmp 24) = .pointer (some ⟨w.heap.size, 33, none⟩) := hd 6 (by decide +kernel)
        obtain ⟨kst, hk1, hk2, hA⟩ : ∃ kst, 0 ≤ kst ∧ kst ≤ 0 ∧ (DropB w1 (w.heap.size + 1) m CS PT LS) kst r w5 := hI.between 0 0 (.inl rfl) (.inr ⟨by decide, h1 11 (by decide) (by decide +kernel)⟩)
        have hB : Below w1.heap.size w1 w5 := by
          rcases (show kst = 0 by omega) with rfl
          · exact hA
        have cc := (X1.out.below hB X1.out.lt).cell 33 _ C1.out
        exact doesZ_read (v := .slice ra n rq) (by decide) rfl (by unfold execOp; simp only [e24]; go_simp) hI rfl
      · intro a w5 r hF hI hns hri h1 h2 hd
        have e6 : a.eval (.tmp 6) = .int .i64 (k : Int) := hF 6 (by decide +kernel)
        exact doesZ_read (v := .int .i64 (k : Int)) (by decide) rfl (ex_move rfl e6) hI rfl
      · intro a w5 r hF hI hns hri h1 h2 hd
        have e26 : a.eval (.tmp 26) = .int .i64 (k : Int) := hd 8 (by decide +kernel)
        have aw := HAW.out
        exact doesZ_read (v := .int .i64 ((k + 1 : Nat) : Int)) (by decide) rfl (ex_binOp rfl e26 rfl (by go_simp) (by go_simp)) hI rfl
      · intro a w5 r hF hI hns hri h1 h2 hd
        have e25 : a.eval (.tmp 25) = .slice ra n rq := hd 7 (by decide +kernel)
        have e27 : a.eval (.tmp 27) = .int .i64 ((k + 1 : Nat) : Int) := hd 9 (by decide +kernel)
        exact doesZ_read (v := .slice A2 N2 C2) (by decide) rfl (by rw [← HSL.out]; exact ex_cutT_l rfl e25 e27 HK1.out HNC.out) hI rfl
      · intro a w5 r hF hI hns hri h1 h2 hd
        have e23 : a.eval (.tmp 23) = .slice ra k rq := hd 5 (by decide +kernel)
        have e28 : a.eval (.tmp 28) = .slice A2 N2 C2 := hd 10 (by decide +kernel)
        have hA0 : (DropB w1 (w.heap.size + 1) m CS PT LS) 0 r w5 := hI.at_ 0 (.inl rfl) (.inr ⟨by decide, hri⟩)
        have HBB := hA0.alloc hA0.size (.cells #[.slice ra k rq, .slice A2 N2 C2] 27)
        have f23 : a.tmps[23]?.getD undef = .slice ra k rq := by rw [← Array.getD_eq_getD_getElem?]; exact e23
        have f28 : a.tmps[28]?.getD undef = .slice A2 N2 C2 := by rw [← Array.getD_eq_getD_getElem?]; exact e28
        have R := Lib.hid (HLS.out ▸ rdsT_two (H1.out _ (W2.out.on hA0)) (H2.out _ (W2.out.on hA0)))
        refine doesZ_turn (by decide) rfl fun K hK => ?_
        unfold Oper.wp execOp
        clear hd hns h1
        go_simp
        exact hK _ _ (hI.next 0 11 _ rfl (by decide) (.inl rfl) hri (by decide) ⟨_, Told.set_same _ _ _, R.out, HBB⟩) ⟨_, Told.set_same _ _ _, rfl⟩
      · intro a w5 r hF hI hns hri h1 h2 hd
        obtain ⟨u29, hu29, e29⟩ : ∃ u, r 11 = some u ∧ a.eval (.tmp 29) = u := hd 11 (by decide +kernel)
        have hA : (DropB w1 (w.heap.size + 1) m CS PT LS) 1 r w5 := hI.at_ 1 (.inr ⟨by decide, h2 11 (by decide) (by decide +kernel)⟩) (.inr ⟨by decide, hri⟩)
        obtain ⟨bb, hrb, hrd, hbe⟩ := hA
        obtain rfl := Option.some.inj (hu29.symm.trans hrb)
        exact doesZ_call (by decide) rfl (ex_call (vs := #[_]) rfl (by simp only [List.map_toArray, List.map_cons, List.map_nil, e29]) (by go_simp)) ((HCC.out _ w5 hrd).mono fun e w6 hh => by obtain ⟨v, he, ho, hb⟩ := hh; obtain ⟨a, c, rfl, _⟩ := (owned_rd ho).shape; exact ⟨_, he, hI.next 1 12 _ rfl (by decide) (.inr ⟨by decide, h2 11 (by decide) (by decide +kernel)⟩) hri (by decide) ⟨a, c, Told.set_same _ _ _, ownT_lower ho hbe.size, hbe.on hb⟩, _, Told.set_same _ _ _, rfl⟩)
      · intro a w5 r hF hI hns hri h1 h2 hd
        have e19 : a.eval (.tmp 19) = .agg PT.toArray := hd 1 (by decide +kernel)
        obtain ⟨u30, hu30, e30⟩ : ∃ u, r 12 = some u ∧ a.eval (.tmp 30) = u := hd 12 (by decide +kernel)
        have hA : (DropB w1 (w.heap.size + 1) m CS PT LS) 2 r w5 := hI.at_ 2 (.inr ⟨by decide, h2 12 (by decide) (by decide +kernel)⟩) (.inr ⟨by decide, h1 14 (by decide) (by decide +kernel)⟩)
        obtain ⟨aa, ac, hra, hao, hbe⟩ := hA
        obtain rfl : u30 = .slice aa m ac := Option.some.inj (hu30.symm.trans hra)
        exact doesZ_read (by decide) rfl (ex_build rfl (by simp only [List.map_toArray, List.map_cons, List.map_nil, e19, e30]; exact HBC.out _ _ _)) hI ⟨_, hra, aa, ac, rfl, rfl⟩
      · intro a w5 r hF hI hns hri h1 h2 hd
        have e4 : a.eval (.tmp 4) = .pointer (some ⟨(w.heap.size + 1), 0, none⟩) := hF 4 (by decide +kernel)
        obtain ⟨u31, hu31, a31, c31, hs31, e31⟩ : ∃ u, r 12 = some u ∧ ∃ p q, u = .slice p m q ∧ a.eval (.tmp 31) = .agg (PT ++ [u]).toArray := hd 13 (by decide +kernel)
        subst hs31
        have hA : (DropB w1 (w.heap.size + 1) m CS PT LS) 2 r w5 := hI.at_ 2 (.inr ⟨by decide, h2 12 (by decide) (by decide +kernel)⟩) (.inr ⟨by decide, hri⟩)
        obtain ⟨aa, ac, hra, hao, hbe⟩ := hA
        obtain ⟨rfl, rfl⟩ : a31 = aa ∧ c31 = ac := by have := Option.some.inj (hu31.symm.trans hra); injection this with e1 e2 e3; exact ⟨e1, e3⟩
        have hbk := Y1.out.below hbe Y1.out.lt
        exact doesZ_put (by decide) rfl 29 (.tmp 4) (.tmp 31) rfl (w.heap.size + 1) 0 (PT ++ [.slice a31 m c31]) e4 e31 29 Z hbk (by rw [PTL.out, Z34.out]; exact Nat.le_refl _) (by rw [PTL.out]; exact infoCtC) (PTO.out _ _ _) rfl (fun w' b' g' => by rw [splice_all _ _ (by rw [PTL.out, Z34.out])] at b'; exact hI.next 2 14 _ rfl (by decide) (.inr ⟨by decide, h2 12 (by decide) (by decide +kernel)⟩) hri (by decide) ⟨a31, c31, by rw [Told.set_ne (by decide)]; exact hra, World.ownsRow.kept hao g' (ne_res hao Y1.out.lt), b', only_after hbe g'⟩)
      · intro a w5 r hF hI hns hri h1 h2 hd
        exact doesZ_read (v := .int .i64 0) (by decide) rfl (ex_assign rfl rfl) hI rfl
    · intro vs rr w4 hI hS hvs
      obtain ⟨aa, ac, hra, hao, hbk, hg⟩ := hI.at_ 3 (.inr ⟨by decide, hS 14 (by decide)⟩) (.inl rfl)
      have e5 : vs 15 = .int .i64 0 := hvs 15 (by decide)
      have Y5 := Lib.hid hbk
      have O5 := Lib.hid hao
      have W5 := Lib.hid (W2.out.grown hg W2.out.size (fun g hg => by have := Option.some.inj hg; omega))
      have HSZ := Lib.hid (show w.heap.size ≤ w1.heap.size from W2.out.size)
      simp only [putOps, Act.put, List.setIfInBounds_toArray, List.set_cons_zero, List.set_cons_succ, e5]
      clear hI hS hvs hra hao hbk hg e5
      go_wp2_with fail
      refine bodyPost_ret (results_mid2 rfl _ _ (w.heap.size + 1) (PT ++ [.slice aa m ac]) _ rfl Y5.out.range Try.underlying29 rfl (by rw [PTL.out]; exact infoCtC)) rfl ⟨.slice aa m ac, by rw [HPT.out]; rfl, ownT_lower O5.out HSZ.out, W5.out⟩
  · have hE : ∃ E : Int, chkd c nm = (0, E) ∧ CT.drop c nm = (CT.zero, E) ∧ E ≠ 0 := by
      by_cases h0 : CT.check c = 0
      · have h1 : plc c.snaps nm < 0 := by
          rcases Int.lt_or_le (plc c.snaps nm) 0 with q | q
          · exact q
          · exact absurd ⟨h0, q⟩ hok
        exact ⟨22, by rw [HCD.out, if_neg (by rw [h0]; decide), if_pos h1], by rw [HX.out, if_neg (by rw [h0]; decide), if_pos h1], by decide⟩
      · exact ⟨CT.check c, by rw [HCD.out, if_pos h0], by rw [HX.out, if_pos h0], h0⟩
    obtain ⟨E, h1, h2, h0⟩ := hE
    rw [h1] at HCH
    rw [h2]
    have hE1 : (E == 0) = false := by simpa using h0
    have hE2 : (E != 0) = true := by rw [bne, hE1]; rfl
    clear h1 h2 hok HX HCD
    obtain ⟨CS, hCS⟩ : ∃ x, x = sncs c.snaps := ⟨_, rfl⟩
    rw [← hCS] at HCH HV
    obtain ⟨n, hn⟩ : ∃ n, n = c.snaps.length := ⟨_, rfl⟩
    rw [← hn] at HCH HV
    clear hL hCS hn hv hc hn1 C1 HL hcap
    go_enter Try.func25, Try.ntmps25
    go_wp2_with ((fail_if_success (with_reducible show bodyPost _ _ _ _ _ _)); first
      | (refine wpList_load_mid rfl 29 (.tmp 2) rfl w.heap.size 0 rfl L _ X1.out.range Try.underlying29 rfl (by rw [L34.out]; exact infoCtC) ?_)
      | (go_at_call 54; (with_reducible refine (HCH.out _ (HV.out.below W1.out)).mono ?_); rintro e w2 ⟨rfl, b2⟩; have W2 := Lib.hid (W1.out.on b2); have X2 := Lib.hid (X1.out.below b2 X1.out.lt); have Y2 := Lib.hid (Y1.out.below b2 Y1.out.lt); clear b2)
      | ((with_reducible show wpList _ _ _ (Oper.mk (some 16) (.build _ _) _ _ _ _ :: _) _ _); refine wpList_wanted rfl (.agg Z.toArray) (ex_buildN rfl hbr) ?_)
      | (refine wpList_store_blk rfl 29 (.tmp 4) (.tmp 16) rfl (w.heap.size + 1) 0 Z rfl rfl 29 Z Y2.out (by rw [Z34.out]; exact Nat.le_refl _) (by rw [Z34.out]; exact infoCtC) ZO.out ?_; intro w5 b5 g5; rw [splice_all _ _ rfl] at b5; have Y5 := Lib.hid b5; have W5 := Lib.hid (W2.out.grown g5 W2.out.size (fun g hg => by have := Option.some.inj hg; omega)); clear b5 g5))
    refine bodyPost_ret (results_mid2 rfl _ _ (w.heap.size + 1) Z _ rfl Y5.out.range Try.underlying29 rfl (by rw [Z34.out]; exact infoCtC)) rfl ⟨.slice none 0 0, by rw [HZ.out]; rfl, owned_none _ _ _ _, W5.out⟩
end Go.Proofs.Ytkagapgganoomaa

/- The program goes back to a snapshot, with the place of one in a catalog that may be: contracts. Written by gen_ctact2.py. Own work. -/
import Derived.Test.YtkagapgganoomaaCtFind
import Derived.Test.YtkagapgganoomaaCtCut
import Derived.Test.YtkagapgganoomaaZed
namespace Go.Proofs.Ytkagapgganoomaa
open Go.ChangeShapes Go.WideShapes Go.ChangeAt Go.RowKit
open RT CT
theorem ne_res {w : World} {B n res : Nat} {e : TypeId} {v : Value} {cs : List Value} (h : w.ownsRow B e 34 v n cs) (hr : res < B) : v.ownBlock = none ∨ v.ownBlock ≠ some res := by
  cases q : v.ownBlock with
  | none => exact .inl rfl
  | some g => exact .inr (fun k => by have := (World.ownsRow.lt h g q).1; have := Option.some.inj k; omega)
theorem fun_len {PT : List Value} (h : PT.length = 33) (u : Value) : (PT ++ [u]).length = 34 := by rw [List.length_append, h]; rfl
def chkd (c : Ct) (nm : ByteArray) : Int × Int := if CT.check c ≠ 0 then (0, CT.check c) else if plc c.snaps nm < 0 then (0, 22) else (plc c.snaps nm, 0)
set_option maxRecDepth 100000 in
set_option maxHeartbeats 2000000 in
theorem pchecked_any (c : Ct) (hc : CT.Ok c) (nm : ByteArray) (v : Value) (w : World) (hv : RdT 34 w v c.snaps.length (sncs c.snaps)) (hn1 : c.snaps.length ≤ 140737488355328) :
    Calls Try.prog 54 #[.agg (ctc c v).toArray, .string nm] w fun e w' => e = .returned (.tuple #[.int .i64 (chkd c nm).1, .int .i64 (chkd c nm).2]) ∧ Below w.heap.size w w' := by
  obtain ⟨ra, rq, rfl, -⟩ := hv.shape
  obtain ⟨L, hL⟩ : ∃ L, L = ctc c (.slice ra c.snaps.length rq) := ⟨_, rfl⟩
  have L34 := Lib.hid (show L.length = 34 by rw [hL]; exact ctc_len hc.top _)
  have W1 := Lib.hid ((Below.refl w.heap.size w).alloc (Nat.le_refl _) (.cells L.toArray 29))
  have X1 := Lib.hid (Blk.new w 29 L _ rfl)
  have HV := Lib.hid hv
  have HCK := Lib.hid (fun W (h : RdT 34 W (.slice ra c.snaps.length rq) c.snaps.length (sncs c.snaps)) => pccheck_any c hc _ W h hn1)
  have HPL := Lib.hid (fun W (h : RdT 34 W (.slice ra c.snaps.length rq) c.snaps.length (sncs c.snaps)) => pplace_any c hc nm _ W h hn1)
  rw [← hL] at HCK HPL ⊢
  have HF := Lib.hid (show chkd c nm = if CT.check c ≠ 0 then (0, CT.check c) else if plc c.snaps nm < 0 then (0, 22) else (plc c.snaps nm, 0) from rfl)
  obtain ⟨FD, hFD⟩ : ∃ x, x = chkd c nm := ⟨_, rfl⟩
  rw [← hFD] at HF ⊢
  obtain ⟨E, hE⟩ : ∃ x, x = CT.check c := ⟨_, rfl⟩
  obtain ⟨PV, hPV⟩ : ∃ x, x = plc c.snaps nm := ⟨_, rfl⟩
  rw [← hE, ← hPV] at HF
  rw [← hE] at HCK
  rw [← hPV] at HPL
  obtain ⟨CS, hCS⟩ : ∃ x, x = sncs c.snaps := ⟨_, rfl⟩
  rw [← hCS] at HCK HPL HV
  obtain ⟨n, hn⟩ : ∃ n, n = c.snaps.length := ⟨_, rfl⟩
  rw [← hn] at HCK HPL HV
  clear hL hFD hE hPV hCS hn hv hc hn1
  by_cases h0 : E = 0
  · subst h0
    by_cases h1 : PV < 0
    · have hF : FD = (0, 22) := by rw [HF.out, if_neg (by decide), if_pos h1]
      clear HF
      rw [hF]
      clear hF
      go_enter Try.func54, Try.ntmps54
      go_wp2_with ((fail_if_success (with_reducible show bodyPost _ _ _ _ _ _)); first
        | (refine wpList_load_mid rfl 29 (.tmp 2) rfl w.heap.size 0 rfl L _ X1.out.range Try.underlying29 rfl (by rw [L34.out]; exact infoCtC) ?_)
        | (go_at_call 15; (with_reducible refine (HCK.out _ (HV.out.below W1.out)).mono ?_); rintro e w2 ⟨rfl, b2⟩; have W2 := Lib.hid (W1.out.on b2); have X2 := Lib.hid (X1.out.below b2 X1.out.lt); clear b2)
        | (refine wpList_load_mid rfl 29 (.tmp 2) rfl w.heap.size 0 rfl L _ X2.out.range Try.underlying29 rfl (by rw [L34.out]; exact infoCtC) ?_)
        | (go_at_call 48; (with_reducible refine (HPL.out _ (HV.out.below W2.out)).mono ?_); rintro e w3 ⟨rfl, b3⟩; have W3 := Lib.hid (W2.out.on b3); clear b3))
      go_ret2
      exact ⟨rfl, W3.out⟩
    · have hF : FD = (PV, 0) := by rw [HF.out, if_neg (by decide), if_neg h1]
      clear HF
      rw [hF]
      clear hF
      go_enter Try.func54, Try.ntmps54
      go_wp2_with ((fail_if_success (with_reducible show bodyPost _ _ _ _ _ _)); first
        | (refine wpList_load_mid rfl 29 (.tmp 2) rfl w.heap.size 0 rfl L _ X1.out.range Try.underlying29 rfl (by rw [L34.out]; exact infoCtC) ?_)
        | (go_at_call 15; (with_reducible refine (HCK.out _ (HV.out.below W1.out)).mono ?_); rintro e w2 ⟨rfl, b2⟩; have W2 := Lib.hid (W1.out.on b2); have X2 := Lib.hid (X1.out.below b2 X1.out.lt); clear b2)
        | (refine wpList_load_mid rfl 29 (.tmp 2) rfl w.heap.size 0 rfl L _ X2.out.range Try.underlying29 rfl (by rw [L34.out]; exact infoCtC) ?_)
        | (go_at_call 48; (with_reducible refine (HPL.out _ (HV.out.below W2.out)).mono ?_); rintro e w3 ⟨rfl, b3⟩; have W3 := Lib.hid (W2.out.on b3); clear b3))
      go_ret2
      exact ⟨rfl, W3.out⟩
  · have hF : FD = (0, E) := by rw [HF.out, if_pos h0]
    have hE1 : (E == 0) = false := by simpa using h0
    have hE2 : (E != 0) = true := by rw [bne, hE1]; rfl
    clear HF HPL
    rw [hF]
    clear hF
    go_enter Try.func54, Try.ntmps54
    go_wp2_with ((fail_if_success (with_reducible show bodyPost _ _ _ _ _ _)); first
      | (refine wpList_load_mid rfl 29 (.tmp 2) rfl w.heap.size 0 rfl L _ X1.out.range Try.underlying29 rfl (by rw [L34.out]; exact infoCtC) ?_)
      | (go_at_call 15; (with_reducible refine (HCK.out _ (HV.out.below W1.out)).mono ?_); rintro e w2 ⟨rfl, b2⟩; have W2 := Lib.hid (W1.out.on b2); have X2 := Lib.hid (X1.out.below b2 X1.out.lt); clear b2))
    go_ret2
    exact ⟨rfl, W2.out⟩
/-- How far a region has come that makes a slice and stores it with a ref. -/
def RevB (w1 : World) (res n : Nat) (CS PT : List Value) : Nat → Told → World → Prop
  | 0, _, w => Below w1.heap.size w1 w
  | 1, r, w => ∃ a c, r 8 = some (.slice a n c) ∧ w.ownsRow w1.heap.size 60 34 (.slice a n c) n CS ∧ Below w1.heap.size w1 w
  | _, r, w => ∃ a c, r 8 = some (.slice a n c) ∧ w.ownsRow w1.heap.size 60 34 (.slice a n c) n CS ∧ Blk w res 29 (PT ++ [.slice a n c]) ∧ w1.grownBy w (some res)
set_option maxRecDepth 100000 in
set_option maxHeartbeats 4000000 in
theorem cprevert_any (c : Ct) (hc : CT.Ok c) (nm : ByteArray) (v : Value) (w : World) (hv : RdT 34 w v c.snaps.length (sncs c.snaps)) (hn1 : c.snaps.length ≤ 140737488355328) :
    Calls Try.prog 27 #[.agg (ctc c v).toArray, .string nm] w fun e w' => ∃ u, e = .returned (.tuple #[.agg (ctc (CT.revert c nm).1 u).toArray, .int .i64 (CT.revert c nm).2]) ∧ w'.ownsRow w.heap.size 60 34 u (CT.revert c nm).1.snaps.length (sncs (CT.revert c nm).1.snaps) ∧ Below w.heap.size w w' := by
  obtain ⟨ra, rq, rfl, hcap⟩ := hv.shape
  obtain ⟨L, hL⟩ : ∃ L, L = ctc c (.slice ra c.snaps.length rq) := ⟨_, rfl⟩
  obtain ⟨Z, hZ⟩ : ∃ Z, Z = ctc CT.zero (.slice none 0 0) := ⟨_, rfl⟩
  have hz : ∀ w, (zeroValue 29).run Try.prog w = .ok (.agg Z.toArray) w := by rw [hZ]; exact zeroCt
  have hbr : Try.prog.built 29 [] = some Z.toArray := by rw [hZ]; exact builtCt0
  have Z34 := Lib.hid (show Z.length = 34 by rw [hZ]; exact ctc_len CT.zp_ok _)
  have ZO := Lib.hid (show Z.toArray.all (·.oneCell') = true by rw [hZ]; exact ctc_all rfl)
  have L34 := Lib.hid (show L.length = 34 by rw [hL]; exact ctc_len hc.top _)
  have W1 := Lib.hid (((Below.refl w.heap.size w).alloc (Nat.le_refl _) (.cells L.toArray 29)).alloc (by simp) (.cells Z.toArray 29))
  have X1 := Lib.hid ((Blk.new w 29 L _ rfl).alloc (.cells Z.toArray 29))
  have Y1 := Lib.hid (Blk.new (w.alloc (.cells L.toArray 29)) 29 Z (w.heap.size + 1) (by simp))
  have C1 := Lib.hid (show L[33]? = some (.slice ra c.snaps.length rq) by rw [hL]; exact ctc_snaps hc.top _)
  have HV := Lib.hid hv
  have HL := Lib.hid hc.snaps
  have HCH := Lib.hid (fun W (h : RdT 34 W (.slice ra c.snaps.length rq) c.snaps.length (sncs c.snaps)) => pchecked_any c hc nm _ W h hn1)
  rw [← hL] at HCH ⊢
  have HZ := Lib.hid hZ
  clear hZ
  have HX := Lib.hid (show CT.revert c nm = if CT.check c ≠ 0 then (CT.zero, CT.check c) else if plc c.snaps nm < 0 then (CT.zero, 22) else (⟨topAt c.snaps (plc c.snaps nm).toNat, c.snaps⟩, 0) from rfl)
  have HCD := Lib.hid (show chkd c nm = if CT.check c ≠ 0 then (0, CT.check c) else if plc c.snaps nm < 0 then (0, 22) else (plc c.snaps nm, 0) from rfl)
  by_cases hok : CT.check c = 0 ∧ 0 ≤ plc c.snaps nm
  · obtain ⟨k, hk, hp, -⟩ : ∃ (k : Nat) (hk : k < c.snaps.length), plc c.snaps nm = (k : Int) ∧ c.snaps[k].name = nm := by
      rcases plc_cases c.snaps nm with ⟨h, -⟩ | h
      · omega
      · exact h
    have h64 : c.snaps.length ≤ 64 := (check_zero.1 hok.1).1
    have hX : CT.revert c nm = (⟨topAt c.snaps (plc c.snaps nm).toNat, c.snaps⟩, 0) := by rw [HX.out, if_neg (by rw [hok.1]; decide), if_neg (by omega)]
    have hcd : chkd c nm = ((k : Int), 0) := by rw [HCD.out, if_neg (by rw [hok.1]; decide), if_neg (by omega), hp]
    rw [hp, Int.toNat_natCast] at hX
    rw [hcd] at HCH
    rw [hX]
    clear HX HCD hX hcd hok hp
    have hkn : (k : Int) < (c.snaps.length : Int) := by omega
    have hk0 : (0 : Int) ≤ (k : Int) := by omega
    have HLT := Lib.hid (show (k : Int) < (c.snaps.length : Int) ∧ (0 : Int) ≤ (k : Int) from ⟨hkn, hk0⟩)
    have HCL := Lib.hid (fun W (h : RdT 34 W (.slice ra c.snaps.length rq) c.snaps.length (sncs c.snaps)) => cloneT_any c.snaps _ W h (by omega))
    have HPT := Lib.hid (fun u => show ctc ⟨topAt c.snaps k, c.snaps⟩ u = pc c.snaps[k].top ++ [u] by unfold ctc; rw [topAt_eq hk])
    have P33 := Lib.hid (pc_len (HL.out _ (List.getElem_mem hk)))
    obtain ⟨pb, po, rfl, -, -, -⟩ := sn_range HV.out HL.out rfl hk
    have RPd := Lib.hid (fun W (h : Below w.heap.size w W) => show W.rangeAt pb (po + k * 34 + 1) (pc c.snaps[k].top) by
      obtain ⟨b', o', e, -, -, hr⟩ := sn_range (HV.out.below h) HL.out rfl hk
      cases e; exact hr)
    have PTO := Lib.hid (fun (a : Option Addr) (n q : Nat) => show (pc c.snaps[k].top ++ [Value.slice a n q]).toArray.all (·.oneCell') = true from ctc_all (c := ⟨c.snaps[k].top, []⟩) rfl)
    obtain ⟨PT, hPT⟩ : ∃ x, x = pc c.snaps[k].top := ⟨_, rfl⟩
    rw [← hPT] at HPT P33 RPd PTO
    have PTL := Lib.hid (fun_len P33.out)
    have HBC := Lib.hid (fun a q => built_ct PT P33.out a c.snaps.length q)
    rw [show (⟨topAt c.snaps k, c.snaps⟩ : Ct).snaps = c.snaps from rfl]
    obtain ⟨CT0, hCT0⟩ : ∃ x, x = (⟨topAt c.snaps k, c.snaps⟩ : Ct) := ⟨_, rfl⟩
    rw [← hCT0] at HPT ⊢
    obtain ⟨CS, hCS⟩ : ∃ x, x = sncs c.snaps := ⟨_, rfl⟩
    rw [← hCS] at HCH HV HCL ⊢
    obtain ⟨n, hn⟩ : ∃ n, n = c.snaps.length := ⟨_, rfl⟩
    rw [← hn] at HCH HV HCL HLT hkn C1 HBC ⊢
    clear hL hPT hCT0 hCS hn hv hc hn1 HL hcap hk
    go_enter Try.func27, Try.ntmps27
    go_upto_region 4 with (first
      | (refine wpList_load_mid rfl 29 (.tmp 2) rfl w.heap.size 0 rfl L _ X1.out.range Try.underlying29 rfl (by rw [L34.out]; exact infoCtC) ?_)
      | (go_at_call 54; (with_reducible refine (HCH.out _ (HV.out.below W1.out)).mono ?_); rintro e w2 ⟨rfl, b2⟩; have W2 := Lib.hid (W1.out.on b2); have X2 := Lib.hid (X1.out.below b2 X1.out.lt); have Y2 := Lib.hid (Y1.out.below b2 Y1.out.lt); clear b2))
    clear HCH
    obtain ⟨w1, hw1⟩ : ∃ x, x = w2 := ⟨_, rfl⟩
    rw [← hw1] at W2 X2 Y2 ⊢
    clear hw1 Y1 X1
    have Y1 := Y2
    have X1 := X2
    refine wp_region_z (by kernel_rfl) [8, 10] (by kernel_rfl) (by kernel_rfl) (Stg [8, 10] ((RevB w1 (w.heap.size + 1) n CS PT))) [.pre (.pointer (some ⟨w.heap.size, 33, none⟩)), .pre (.slice (some ⟨pb, po, none⟩) n rq), .pre (.int .i64 (k : Int)), .pre (.pointer (some ⟨pb, po + k * 34, none⟩)), .pre (.pointer (some ⟨pb, po + k * 34 + 1, none⟩)), .pre (.agg PT.toArray), .pre (.pointer (some ⟨w.heap.size, 33, none⟩)), .pre (.slice (some ⟨pb, po, none⟩) n rq), .of 8 (fun u v => v = u), .of 8 (fun u v => ∃ p q, u = .slice p n q ∧ v = .agg (PT ++ [u]).toArray), .any, .pre (.int .i64 0)] (fun i hi hq => by
            simp only [List.mem_cons, List.mem_nil_iff, or_false] at hi
            rcases hi with rfl | rfl
            · exact absurd hq (by decide +kernel)
            · rfl) (Stg.zero (show RevB w1 (w.heap.size + 1) n CS PT 0 _ w1.drew from (Below.refl _ _).drew)) ?_ ?_
    · refine ⟨?_, ?_, ?_, ?_, ?_, ?_, ?_, ?_, ?_, ?_, ?_, ?_, trivial⟩
      · intro a w5 r hF hI hns hri h1 h2 hd
        have e2 : a.eval (.tmp 2) = .pointer (some ⟨w.heap.size, 0, none⟩) := hF 2 (by decide +kernel)
        exact doesZ_read (v := .pointer (some ⟨w.heap.size, 33, none⟩)) (by decide) rfl (ex_fieldAddr rfl e2 (by go_simp)) hI rfl
      · intro a w5 r hF hI hns hri h1 h2 hd
        have e18 : a.eval (.tmp 18) = .pointer (some ⟨w.heap.size, 33, none⟩) := hd 0 (by decide +kernel)
        obtain ⟨kst, hk1, hk2, hA⟩ : ∃ kst, 0 ≤ kst ∧ kst ≤ 1 ∧ (RevB w1 (w.heap.size + 1) n CS PT) kst r w5 := hI.between 0 1 (.inl rfl) (.inr ⟨by decide, h1 10 (by decide) (by decide +kernel)⟩)
        have hB : Below w1.heap.size w1 w5 := by
          rcases (show kst = 0 ∨ kst = 1 by omega) with rfl | rfl
          · exact hA
          · exact (by obtain ⟨_, _, _, _, hb⟩ := hA; exact hb)
        have cc := (X1.out.below hB X1.out.lt).cell 33 _ C1.out
        exact doesZ_read (v := .slice (some ⟨pb, po, none⟩) n rq) (by decide) rfl (by unfold execOp; simp only [e18]; go_simp) hI rfl
      · intro a w5 r hF hI hns hri h1 h2 hd
        have e6 : a.eval (.tmp 6) = .int .i64 (k : Int) := hF 6 (by decide +kernel)
        exact doesZ_read (v := .int .i64 (k : Int)) (by decide) rfl (ex_move rfl e6) hI rfl
      · intro a w5 r hF hI hns hri h1 h2 hd
        have e19 : a.eval (.tmp 19) = .slice (some ⟨pb, po, none⟩) n rq := hd 1 (by decide +kernel)
        have f19 : a.tmps[19]?.getD undef = .slice (some ⟨pb, po, none⟩) n rq := by rw [← Array.getD_eq_getD_getElem?]; exact e19
        have e20 : a.eval (.tmp 20) = .int .i64 (k : Int) := hd 2 (by decide +kernel)
        have f20 : a.tmps[20]?.getD undef = .int .i64 (k : Int) := by rw [← Array.getD_eq_getD_getElem?]; exact e20
        have hkn : (k : Int) < (n : Int) := HLT.out.1
        have hk0 : (0 : Int) ≤ (k : Int) := HLT.out.2
        exact doesZ_read (v := .pointer (some ⟨pb, po + k * 34, none⟩)) (by decide) rfl (by unfold execOp; simp only [e19, e20]; go_simp) hI rfl
      · intro a w5 r hF hI hns hri h1 h2 hd
        have e21 : a.eval (.tmp 21) = .pointer (some ⟨pb, po + k * 34, none⟩) := hd 3 (by decide +kernel)
        have f21 : a.tmps[21]?.getD undef = .pointer (some ⟨pb, po + k * 34, none⟩) := by rw [← Array.getD_eq_getD_getElem?]; exact e21
        exact doesZ_read (v := .pointer (some ⟨pb, po + k * 34 + 1, none⟩)) (by decide) rfl (by unfold execOp; simp only [e21]; go_simp) hI rfl
      · intro a w5 r hF hI hns hri h1 h2 hd
        have e22 : a.eval (.tmp 22) = .pointer (some ⟨pb, po + k * 34 + 1, none⟩) := hd 4 (by decide +kernel)
        obtain ⟨kst, hk1, hk2, hA⟩ : ∃ kst, 0 ≤ kst ∧ kst ≤ 1 ∧ (RevB w1 (w.heap.size + 1) n CS PT) kst r w5 := hI.between 0 1 (.inl rfl) (.inr ⟨by decide, h1 10 (by decide) (by decide +kernel)⟩)
        have hB : Below w1.heap.size w1 w5 := by
          rcases (show kst = 0 ∨ kst = 1 by omega) with rfl | rfl
          · exact hA
          · exact (by obtain ⟨_, _, _, _, hb⟩ := hA; exact hb)
        exact doesZ_ld (by decide) rfl 26 (.tmp 22) rfl (pb) (po + k * 34 + 1) e22 PT (RPd.out w5 (W2.out.on hB)) _ Try.underlying26 rfl (by rw [P33.out]; exact infoRfC) hI rfl
      · intro a w5 r hF hI hns hri h1 h2 hd
        have e2 : a.eval (.tmp 2) = .pointer (some ⟨w.heap.size, 0, none⟩) := hF 2 (by decide +kernel)
        exact doesZ_read (v := .pointer (some ⟨w.heap.size, 33, none⟩)) (by decide) rfl (ex_fieldAddr rfl e2 (by go_simp)) hI rfl
      · intro a w5 r hF hI hns hri h1 h2 hd
        have e24 : a.eval (.tmp 24) = .pointer (some ⟨w.heap.size, 33, none⟩) := hd 6 (by decide +kernel)
        obtain ⟨kst, hk1, hk2, hA⟩ : ∃ kst, 0 ≤ kst ∧ kst ≤ 0 ∧ (RevB w1 (w.heap.size + 1) n CS PT) kst r w5 := hI.between 0 0 (.inl rfl) (.inr ⟨by decide, h1 8 (by decide) (by decide +kernel)⟩)
        have hB : Below w1.heap.size w1 w5 := by
          rcases (show kst = 0 by omega) with rfl
          · exact hA
        have cc := (X1.out.below hB X1.out.lt).cell 33 _ C1.out
        exact doesZ_read (v := .slice (some ⟨pb, po, none⟩) n rq) (by decide) rfl (by unfold execOp; simp only [e24]; go_simp) hI rfl
      · intro a w5 r hF hI hns hri h1 h2 hd
        have e25 : a.eval (.tmp 25) = .slice (some ⟨pb, po, none⟩) n rq := hd 7 (by decide +kernel)
        have hA0 : (RevB w1 (w.heap.size + 1) n CS PT) 0 r w5 := hI.at_ 0 (.inl rfl) (.inr ⟨by decide, hri⟩)
        exact doesZ_call (by decide) rfl (ex_call (vs := #[.slice (some ⟨pb, po, none⟩) n rq]) rfl (by simp only [List.map_toArray, List.map_cons, List.map_nil, e25]) (by go_simp)) ((HCL.out w5 (HV.out.below (W2.out.on hA0))).mono fun e w6 hh => by obtain ⟨v, he, ho, hb⟩ := hh; obtain ⟨a, c, rfl, _⟩ := (owned_rd ho).shape; exact ⟨_, he, hI.next 0 8 _ rfl (by decide) (.inl rfl) hri (by decide) ⟨a, c, Told.set_same _ _ _, ownT_lower ho hA0.size, hA0.on hb⟩, _, Told.set_same _ _ _, rfl⟩)
      · intro a w5 r hF hI hns hri h1 h2 hd
        have e23 : a.eval (.tmp 23) = .agg PT.toArray := hd 5 (by decide +kernel)
        obtain ⟨u26, hu26, e26⟩ : ∃ u, r 8 = some u ∧ a.eval (.tmp 26) = u := hd 8 (by decide +kernel)
        have hA : (RevB w1 (w.heap.size + 1) n CS PT) 1 r w5 := hI.at_ 1 (.inr ⟨by decide, h2 8 (by decide) (by decide +kernel)⟩) (.inr ⟨by decide, h1 10 (by decide) (by decide +kernel)⟩)
        obtain ⟨aa, ac, hra, hao, hbe⟩ := hA
        obtain rfl : u26 = .slice aa n ac := Option.some.inj (hu26.symm.trans hra)
        exact doesZ_read (by decide) rfl (ex_build rfl (by simp only [List.map_toArray, List.map_cons, List.map_nil, e23, e26]; exact HBC.out _ _)) hI ⟨_, hra, aa, ac, rfl, rfl⟩
      · intro a w5 r hF hI hns hri h1 h2 hd
        have e4 : a.eval (.tmp 4) = .pointer (some ⟨(w.heap.size + 1), 0, none⟩) := hF 4 (by decide +kernel)
        obtain ⟨u27, hu27, a27, c27, hs27, e27⟩ : ∃ u, r 8 = some u ∧ ∃ p q, u = .slice p n q ∧ a.eval (.tmp 27) = .agg (PT ++ [u]).toArray := hd 9 (by decide +kernel)
        subst hs27
        have hA : (RevB w1 (w.heap.size + 1) n CS PT) 1 r w5 := hI.at_ 1 (.inr ⟨by decide, h2 8 (by decide) (by decide +kernel)⟩) (.inr ⟨by decide, hri⟩)
        obtain ⟨aa, ac, hra, hao, hbe⟩ := hA
        obtain ⟨rfl, rfl⟩ : a27 = aa ∧ c27 = ac := by have := Option.some.inj (hu27.symm.trans hra); injection this with e1 e2 e3; exact ⟨e1, e3⟩
        have hbk := Y1.out.below hbe Y1.out.lt
        exact doesZ_put (by decide) rfl 29 (.tmp 4) (.tmp 27) rfl (w.heap.size + 1) 0 (PT ++ [.slice a27 n c27]) e4 e27 29 Z hbk (by rw [PTL.out, Z34.out]; exact Nat.le_refl _) (by rw [PTL.out]; exact infoCtC) (PTO.out _ _ _) rfl (fun w' b' g' => by rw [splice_all _ _ (by rw [PTL.out, Z34.out])] at b'; exact hI.next 1 10 _ rfl (by decide) (.inr ⟨by decide, h2 8 (by decide) (by decide +kernel)⟩) hri (by decide) ⟨a27, c27, by rw [Told.set_ne (by decide)]; exact hra, World.ownsRow.kept hao g' (ne_res hao Y1.out.lt), b', only_after hbe g'⟩)
      · intro a w5 r hF hI hns hri h1 h2 hd
        exact doesZ_read (v := .int .i64 0) (by decide) rfl (ex_assign rfl rfl) hI rfl
    · intro vs rr w4 hI hS hvs
      obtain ⟨aa, ac, hra, hao, hbk, hg⟩ := hI.at_ 2 (.inr ⟨by decide, hS 10 (by decide)⟩) (.inl rfl)
      have e5 : vs 11 = .int .i64 0 := hvs 11 (by decide)
      have Y5 := Lib.hid hbk
      have O5 := Lib.hid hao
      have W5 := Lib.hid (W2.out.grown hg W2.out.size (fun g hg => by have := Option.some.inj hg; omega))
      have HSZ := Lib.hid (show w.heap.size ≤ w1.heap.size from W2.out.size)
      simp only [putOps, Act.put, List.setIfInBounds_toArray, List.set_cons_zero, List.set_cons_succ, e5]
      clear hI hS hvs hra hao hbk hg e5
      go_wp2_with fail
      refine bodyPost_ret (results_mid2 rfl _ _ (w.heap.size + 1) (PT ++ [.slice aa n ac]) _ rfl Y5.out.range Try.underlying29 rfl (by rw [PTL.out]; exact infoCtC)) rfl ⟨.slice aa n ac, by rw [HPT.out]; rfl, ownT_lower O5.out HSZ.out, W5.out⟩
  · have hE : ∃ E : Int, chkd c nm = (0, E) ∧ CT.revert c nm = (CT.zero, E) ∧ E ≠ 0 := by
      by_cases h0 : CT.check c = 0
      · have h1 : plc c.snaps nm < 0 := by
          rcases Int.lt_or_le (plc c.snaps nm) 0 with q | q
          · exact q
          · exact absurd ⟨h0, q⟩ hok
        exact ⟨22, by rw [HCD.out, if_neg (by rw [h0]; decide), if_pos h1], by rw [HX.out, if_neg (by rw [h0]; decide), if_pos h1], by decide⟩
      · exact ⟨CT.check c, by rw [HCD.out, if_pos h0], by rw [HX.out, if_pos h0], h0⟩
    obtain ⟨E, h1, h2, h0⟩ := hE
    rw [h1] at HCH
    rw [h2]
    have hE1 : (E == 0) = false := by simpa using h0
    have hE2 : (E != 0) = true := by rw [bne, hE1]; rfl
    clear h1 h2 hok HX HCD
    obtain ⟨CS, hCS⟩ : ∃ x, x = sncs c.snaps := ⟨_, rfl⟩
    rw [← hCS] at HCH HV
    obtain ⟨n, hn⟩ : ∃ n, n = c.snaps.length := ⟨_, rfl⟩
    rw [← hn] at HCH HV
    clear hL hCS hn hv hc hn1 C1 HL hcap
    go_enter Try.func27, Try.ntmps27
    go_wp2_with ((fail_if_success (with_reducible show bodyPost _ _ _ _ _ _)); first
      | (refine wpList_load_mid rfl 29 (.tmp 2) rfl w.heap.size 0 rfl L _ X1.out.range Try.underlying29 rfl (by rw [L34.out]; exact infoCtC) ?_)
      | (go_at_call 54; (with_reducible refine (HCH.out _ (HV.out.below W1.out)).mono ?_); rintro e w2 ⟨rfl, b2⟩; have W2 := Lib.hid (W1.out.on b2); have X2 := Lib.hid (X1.out.below b2 X1.out.lt); have Y2 := Lib.hid (Y1.out.below b2 Y1.out.lt); clear b2)
      | ((with_reducible show wpList _ _ _ (Oper.mk (some 16) (.build _ _) _ _ _ _ :: _) _ _); refine wpList_wanted rfl (.agg Z.toArray) (ex_buildN rfl hbr) ?_)
      | (refine wpList_store_blk rfl 29 (.tmp 4) (.tmp 16) rfl (w.heap.size + 1) 0 Z rfl rfl 29 Z Y2.out (by rw [Z34.out]; exact Nat.le_refl _) (by rw [Z34.out]; exact infoCtC) ZO.out ?_; intro w5 b5 g5; rw [splice_all _ _ rfl] at b5; have Y5 := Lib.hid b5; have W5 := Lib.hid (W2.out.grown g5 W2.out.size (fun g hg => by have := Option.some.inj hg; omega)); clear b5 g5))
    refine bodyPost_ret (results_mid2 rfl _ _ (w.heap.size + 1) Z _ rfl Y5.out.range Try.underlying29 rfl (by rw [Z34.out]; exact infoCtC)) rfl ⟨.slice none 0 0, by rw [HZ.out]; rfl, owned_none _ _ _ _, W5.out⟩
end Go.Proofs.Ytkagapgganoomaa

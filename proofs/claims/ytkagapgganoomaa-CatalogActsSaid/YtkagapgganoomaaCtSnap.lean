/- The program adds a snapshot: contract. Written by gen_ctact2.py. Own work. -/
import Derived.Test.YtkagapgganoomaaCtDrop
import Derived.Test.YtkagapgganoomaaCtBs
namespace Go.Proofs.Ytkagapgganoomaa
open Go.ChangeShapes Go.WideShapes Go.ChangeAt Go.RowKit
open RT CT
/-- How far a region has come that makes a slice of pieces and stores it with a ref. -/
def SnapB (w1 : World) (res m : Nat) (CS PT MC : List Value) (LS : List (List Sn)) : Nat → Told → World → Prop
  | 0, _, w => Below w1.heap.size w1 w
  | 1, r, w => ∃ b, r 7 = some (.slice (some ⟨b, 0, none⟩) 1 1) ∧ RdT 34 w (.slice (some ⟨b, 0, none⟩) 1 1) 1 MC ∧ Below w1.heap.size w1 w
  | 2, r, w => ∃ b, r 12 = some (.slice (some ⟨b, 0, none⟩) 3 3) ∧ RdsT w (.slice (some ⟨b, 0, none⟩) 3 3) LS ∧ Below w1.heap.size w1 w
  | 3, r, w => ∃ a c, r 13 = some (.slice a m c) ∧ w.ownsRow w1.heap.size 60 34 (.slice a m c) m CS ∧ Below w1.heap.size w1 w
  | _, r, w => ∃ a c, r 13 = some (.slice a m c) ∧ w.ownsRow w1.heap.size 60 34 (.slice a m c) m CS ∧ Blk w res 29 (PT ++ [.slice a m c]) ∧ w1.grownBy w (some res)
theorem spot_of {l : List Sn} {nm : ByteArray} (hnot : ∀ s ∈ l, s.name ≠ nm) {k : Nat} (hk : k ≤ l.length) (h : ∀ (j : Nat) (t : Sn), l[j]? = some t → (nlt t.name nm = true ↔ j < k)) : k = spot l nm := by
  refine (spot_eq hk (fun j hj hjk => nlt_asymm ((h j _ (List.getElem?_eq_getElem hj)).2 hjk)) (fun hkl => ?_)).symm
  rcases nlt_tri nm l[k].name with q | q | q
  · exact q
  · exact absurd q.symm (hnot _ (List.getElem_mem hkl))
  · have := (h k _ (List.getElem?_eq_getElem hkl)).1 q
    omega
set_option maxRecDepth 100000 in
set_option maxHeartbeats 8000000 in
theorem cpsnap_any (c : Ct) (hc : CT.Ok c) (nm : ByteArray) (v : Value) (w : World) (hv : RdT 34 w v c.snaps.length (sncs c.snaps)) (hn1 : c.snaps.length ≤ 140737488355328) :
    Calls Try.prog 23 #[.agg (ctc c v).toArray, .string nm] w fun e w' => ∃ u, e = .returned (.tuple #[.agg (ctc (CT.snap c nm).1 u).toArray, .int .i64 (CT.snap c nm).2]) ∧ w'.ownsRow w.heap.size 60 34 u (CT.snap c nm).1.snaps.length (sncs (CT.snap c nm).1.snaps) ∧ Below w.heap.size w w' := by
  obtain ⟨ra, rq, rfl, hcap⟩ := hv.shape
  obtain ⟨L, hL⟩ : ∃ L, L = ctc c (.slice ra c.snaps.length rq) := ⟨_, rfl⟩
  obtain ⟨Z, hZ⟩ : ∃ Z, Z = ctc CT.zero (.slice none 0 0) := ⟨_, rfl⟩
  have hz : ∀ w, (zeroValue 29).run Try.prog w = .ok (.agg Z.toArray) w := by rw [hZ]; exact zeroCt
  have hbr : Try.prog.built 29 [] = some Z.toArray := by rw [hZ]; exact builtCt0
  have Z34 := Lib.hid (show Z.length = 34 by rw [hZ]; exact ctc_len CT.zp_ok _)
  have ZO := Lib.hid (show Z.toArray.all (·.oneCell') = true by rw [hZ]; exact ctc_all rfl)
  have L34 := Lib.hid (show L.length = 34 by rw [hL]; exact ctc_len hc.top _)
  have W1 := Lib.hid (((Below.refl w.heap.size w).alloc (Nat.le_refl _) (.cells L.toArray 29)).alloc (by simp) (.cells Z.toArray 29))
  have X1 := Lib.hid ((Blk.new w 29 L _ rfl).alloc (.cells Z.toArray 29))
  have Y1 := Lib.hid (Blk.new (w.alloc (.cells L.toArray 29)) 29 Z (w.heap.size + 1) (by simp))
  have C1 := Lib.hid (show L[33]? = some (.slice ra c.snaps.length rq) by rw [hL]; exact ctc_snaps hc.top _)
  have HV := Lib.hid hv
  have HL := Lib.hid hc.snaps
  have HCK := Lib.hid (fun W (h : RdT 34 W (.slice ra c.snaps.length rq) c.snaps.length (sncs c.snaps)) => pccheck_any c hc _ W h hn1)
  have HPL := Lib.hid (fun W (h : RdT 34 W (.slice ra c.snaps.length rq) c.snaps.length (sncs c.snaps)) => pplace_any c hc nm _ W h hn1)
  have HNA := Lib.hid (fun W => pname_any nm W)
  rw [← hL] at HCK HPL ⊢
  have HZ := Lib.hid hZ
  clear hZ
  have HX := Lib.hid (show CT.snap c nm = if CT.check c ≠ 0 then (CT.zero, CT.check c) else if isName nm = false then (CT.zero, 44) else if 0 ≤ plc c.snaps nm then (CT.zero, 23) else if c.snaps.length = 64 then (CT.zero, 45) else (⟨c.top, added c nm⟩, 0) from rfl)
  by_cases h0 : CT.check c = 0
  · have hrs := (check_zero.1 h0).2.1
    have h64l := (check_zero.1 h0).1
    rw [h0] at HCK
    by_cases h1 : isName nm = false
    · have hX : CT.snap c nm = (CT.zero, 44) := by rw [HX.out, if_neg (by rw [h0]; decide), if_pos h1]
      rw [hX]
      rw [h1] at HNA
      clear HX hX h1 hrs h64l h0
      obtain ⟨CS, hCS⟩ : ∃ x, x = sncs c.snaps := ⟨_, rfl⟩
      rw [← hCS] at HCK HPL HV
      obtain ⟨n, hn⟩ : ∃ n, n = c.snaps.length := ⟨_, rfl⟩
      rw [← hn] at HCK HPL HV C1
      clear hL hCS hn hv hc hn1 HL hcap
      go_enter Try.func23, Try.ntmps23
      go_wp2_with ((fail_if_success (with_reducible show bodyPost _ _ _ _ _ _)); first
        | (refine wpList_load_mid rfl 29 (.tmp 2) rfl w.heap.size 0 rfl L _ X1.out.range Try.underlying29 rfl (by rw [L34.out]; exact infoCtC) ?_)
        | (go_at_call 15; (with_reducible refine (HCK.out _ (HV.out.below W1.out)).mono ?_); rintro e w2 ⟨rfl, b2⟩; have W2 := Lib.hid (W1.out.on b2); have X2 := Lib.hid (X1.out.below b2 X1.out.lt); have Y2 := Lib.hid (Y1.out.below b2 Y1.out.lt); clear b2)
        | (go_at_call 20; (with_reducible refine (HNA.out _).mono ?_); rintro e w3 ⟨rfl, b3⟩; have W3 := Lib.hid (W2.out.on b3); have X3 := Lib.hid (X2.out.below b3 X2.out.lt); have Y3 := Lib.hid (Y2.out.below b3 Y2.out.lt); clear b3)
        | ((with_reducible show wpList _ _ _ (Oper.mk (some 21) (.build _ _) _ _ _ _ :: _) _ _); refine wpList_wanted rfl (.agg Z.toArray) (ex_buildN rfl hbr) ?_)
        | (refine wpList_store_blk rfl 29 (.tmp 4) (.tmp 21) rfl (w.heap.size + 1) 0 Z rfl rfl 29 Z Y3.out (by rw [Z34.out]; exact Nat.le_refl _) (by rw [Z34.out]; exact infoCtC) ZO.out ?_; intro w5 b5 g5; rw [splice_all _ _ rfl] at b5; have Y5 := Lib.hid b5; have W5 := Lib.hid (W3.out.grown g5 W3.out.size (fun g hg => by have := Option.some.inj hg; omega)); clear b5 g5))
      refine bodyPost_ret (results_mid2 rfl _ _ (w.heap.size + 1) Z _ rfl Y5.out.range Try.underlying29 rfl (by rw [Z34.out]; exact infoCtC)) rfl ⟨.slice none 0 0, by rw [HZ.out]; rfl, owned_none _ _ _ _, W5.out⟩
    · have h1' : isName nm = true := by simpa using h1
      rw [h1'] at HNA
      by_cases h2 : 0 ≤ plc c.snaps nm
      · have hX : CT.snap c nm = (CT.zero, 23) := by rw [HX.out, if_neg (by rw [h0]; decide), if_neg h1, if_pos h2]
        rw [hX]
        clear HX hX h1 h1' hrs h64l h0
        obtain ⟨PV, hPV⟩ : ∃ x, x = plc c.snaps nm := ⟨_, rfl⟩
        rw [← hPV] at HPL h2
        clear hPV
        obtain ⟨CS, hCS⟩ : ∃ x, x = sncs c.snaps := ⟨_, rfl⟩
        rw [← hCS] at HCK HPL HV
        obtain ⟨n, hn⟩ : ∃ n, n = c.snaps.length := ⟨_, rfl⟩
        rw [← hn] at HCK HPL HV C1
        clear hL hCS hn hv hc hn1 HL hcap
        go_enter Try.func23, Try.ntmps23
        go_wp2_with ((fail_if_success (with_reducible show bodyPost _ _ _ _ _ _)); first
          | (refine wpList_load_mid rfl 29 (.tmp 2) rfl w.heap.size 0 rfl L _ X1.out.range Try.underlying29 rfl (by rw [L34.out]; exact infoCtC) ?_)
          | (go_at_call 15; (with_reducible refine (HCK.out _ (HV.out.below W1.out)).mono ?_); rintro e w2 ⟨rfl, b2⟩; have W2 := Lib.hid (W1.out.on b2); have X2 := Lib.hid (X1.out.below b2 X1.out.lt); have Y2 := Lib.hid (Y1.out.below b2 Y1.out.lt); clear b2)
          | (go_at_call 20; (with_reducible refine (HNA.out _).mono ?_); rintro e w3 ⟨rfl, b3⟩; have W3 := Lib.hid (W2.out.on b3); have X3 := Lib.hid (X2.out.below b3 X2.out.lt); have Y3 := Lib.hid (Y2.out.below b3 Y2.out.lt); clear b3)
          | (refine wpList_load_mid rfl 29 (.tmp 2) rfl w.heap.size 0 rfl L _ X3.out.range Try.underlying29 rfl (by rw [L34.out]; exact infoCtC) ?_)
          | (go_at_call 48; (with_reducible refine (HPL.out _ (HV.out.below W3.out)).mono ?_); rintro e w4 ⟨rfl, b4⟩; have W4 := Lib.hid (W3.out.on b4); have X4 := Lib.hid (X3.out.below b4 X3.out.lt); have Y4 := Lib.hid (Y3.out.below b4 Y3.out.lt); have c4 := (X3.out.below b4 X3.out.lt).cell 33 _ C1.out; clear b4)
          | ((with_reducible show wpList _ _ _ (Oper.mk (some 27) (.build _ _) _ _ _ _ :: _) _ _); refine wpList_wanted rfl (.agg Z.toArray) (ex_buildN rfl hbr) ?_)
          | (refine wpList_store_blk rfl 29 (.tmp 4) (.tmp 27) rfl (w.heap.size + 1) 0 Z rfl rfl 29 Z Y4.out (by rw [Z34.out]; exact Nat.le_refl _) (by rw [Z34.out]; exact infoCtC) ZO.out ?_; intro w5 b5 g5; rw [splice_all _ _ rfl] at b5; have Y5 := Lib.hid b5; have W5 := Lib.hid (W4.out.grown g5 W4.out.size (fun g hg => by have := Option.some.inj hg; omega)); clear b5 g5))
        refine bodyPost_ret (results_mid2 rfl _ _ (w.heap.size + 1) Z _ rfl Y5.out.range Try.underlying29 rfl (by rw [Z34.out]; exact infoCtC)) rfl ⟨.slice none 0 0, by rw [HZ.out]; rfl, owned_none _ _ _ _, W5.out⟩
      · have hp : plc c.snaps nm = -1 := by
          rcases plc_cases c.snaps nm with ⟨h, -⟩ | ⟨k, hk, h, -⟩
          · exact h
          · exact absurd (by rw [h]; omega) h2
        have hnot : ∀ s ∈ c.snaps, s.name ≠ nm := by
          rcases plc_cases c.snaps nm with ⟨-, h⟩ | ⟨k, hk, h, -⟩
          · exact h
          · exact absurd (by rw [h]; omega) h2
        rw [hp] at HPL
        by_cases h3 : c.snaps.length = 64
        · have hX : CT.snap c nm = (CT.zero, 45) := by rw [HX.out, if_neg (by rw [h0]; decide), if_neg h1, if_neg h2, if_pos h3]
          rw [hX]
          clear HX hX h1 h1' hrs h64l h0 hp h2 hnot
          obtain ⟨CS, hCS⟩ : ∃ x, x = sncs c.snaps := ⟨_, rfl⟩
          rw [← hCS] at HCK HPL HV
          obtain ⟨n, hn⟩ : ∃ n, n = c.snaps.length := ⟨_, rfl⟩
          rw [← hn] at HCK HPL HV C1 h3
          clear hL hCS hn hv hc hn1 HL hcap
          have h3' : (n : Int) = 64 := by omega
          go_enter Try.func23, Try.ntmps23
          go_wp2_with ((fail_if_success (with_reducible show bodyPost _ _ _ _ _ _)); first
            | (refine wpList_load_mid rfl 29 (.tmp 2) rfl w.heap.size 0 rfl L _ X1.out.range Try.underlying29 rfl (by rw [L34.out]; exact infoCtC) ?_)
            | (go_at_call 15; (with_reducible refine (HCK.out _ (HV.out.below W1.out)).mono ?_); rintro e w2 ⟨rfl, b2⟩; have W2 := Lib.hid (W1.out.on b2); have X2 := Lib.hid (X1.out.below b2 X1.out.lt); have Y2 := Lib.hid (Y1.out.below b2 Y1.out.lt); clear b2)
            | (go_at_call 20; (with_reducible refine (HNA.out _).mono ?_); rintro e w3 ⟨rfl, b3⟩; have W3 := Lib.hid (W2.out.on b3); have X3 := Lib.hid (X2.out.below b3 X2.out.lt); have Y3 := Lib.hid (Y2.out.below b3 Y2.out.lt); clear b3)
            | (refine wpList_load_mid rfl 29 (.tmp 2) rfl w.heap.size 0 rfl L _ X3.out.range Try.underlying29 rfl (by rw [L34.out]; exact infoCtC) ?_)
            | (go_at_call 48; (with_reducible refine (HPL.out _ (HV.out.below W3.out)).mono ?_); rintro e w4 ⟨rfl, b4⟩; have W4 := Lib.hid (W3.out.on b4); have X4 := Lib.hid (X3.out.below b4 X3.out.lt); have Y4 := Lib.hid (Y3.out.below b4 Y3.out.lt); have c4 := (X3.out.below b4 X3.out.lt).cell 33 _ C1.out; clear b4)
            | ((with_reducible show wpList _ _ _ (Oper.mk (some 33) (.build _ _) _ _ _ _ :: _) _ _); refine wpList_wanted rfl (.agg Z.toArray) (ex_buildN rfl hbr) ?_)
            | (refine wpList_store_blk rfl 29 (.tmp 4) (.tmp 33) rfl (w.heap.size + 1) 0 Z rfl rfl 29 Z Y4.out (by rw [Z34.out]; exact Nat.le_refl _) (by rw [Z34.out]; exact infoCtC) ZO.out ?_; intro w5 b5 g5; rw [splice_all _ _ rfl] at b5; have Y5 := Lib.hid b5; have W5 := Lib.hid (W4.out.grown g5 W4.out.size (fun g hg => by have := Option.some.inj hg; omega)); clear b5 g5))
          refine bodyPost_ret (results_mid2 rfl _ _ (w.heap.size + 1) Z _ rfl Y5.out.range Try.underlying29 rfl (by rw [Z34.out]; exact infoCtC)) rfl ⟨.slice none 0 0, by rw [HZ.out]; rfl, owned_none _ _ _ _, W5.out⟩
        · have hX : CT.snap c nm = (⟨c.top, added c nm⟩, 0) := by rw [HX.out, if_neg (by rw [h0]; decide), if_neg h1, if_neg h2, if_neg h3]
          rw [hX]
          have h64 : c.snaps.length < 64 := by omega
          have HBS := Lib.hid (fun W (h : RdT 34 W (.slice ra c.snaps.length rq) c.snaps.length (sncs c.snaps)) => bsearch_any c.snaps hc.snaps hrs nm _ W h (by omega))
          obtain ⟨k, hkd⟩ : ∃ x, x = spot c.snaps nm := ⟨_, rfl⟩
          have hk : k ≤ c.snaps.length := by rw [hkd]; exact spot_le _ _
          have HKK := Lib.hid (fun kx (hkx : kx ≤ c.snaps.length) (h : ∀ (j : Nat) (t : Sn), c.snaps[j]? = some t → (nlt t.name nm = true ↔ j < kx)) => show kx = k by rw [hkd]; exact spot_of hnot hkx h)
          clear HX hX h1 h1' hrs h64l h0 hp h2 h3
          have HKC := Lib.hid (show k ≤ rq by omega)
          have HK1 := Lib.hid (show k ≤ c.snaps.length by omega)
          have HNC := Lib.hid hcap
          have HRX := Lib.hid (fun W (h : Blk W w.heap.size 29 L) => ct_topE h hL)
          have P33 := Lib.hid (pc_len hc.top)
          have HPT := Lib.hid (fun u => show ctc ⟨c.top, added c nm⟩ u = pc c.top ++ [u] from rfl)
          have PTO := Lib.hid (fun (a : Option Addr) (n q : Nat) => show (pc c.top ++ [Value.slice a n q]).toArray.all (·.oneCell') = true from ctc_all (c := ⟨c.top, []⟩) rfl)
          have H1 := Lib.hid (fun W (h : Below w.heap.size w W) => (HV.out.below h).take34 HL.out rfl (k := k) hk)
          have H2 := Lib.hid (fun W (h : Below w.heap.size w W) => (HV.out.below h).drop34 HL.out rfl hcap (k := k) hk)
          have hsn : snc ⟨nm, c.top⟩ = .string nm :: pc c.top := rfl
          have M34 := Lib.hid (snc_len (s := ⟨nm, c.top⟩) hc.top)
          have MO := Lib.hid (show (snc ⟨nm, c.top⟩).toArray.all (·.oneCell') = true by rw [List.all_toArray, List.all_eq_true]; exact snc_one' _)
          have HMC := Lib.hid (show snc ⟨nm, c.top⟩ = sncs [⟨nm, c.top⟩] from (sncs_one _).symm)
          have HBM0 := built_sn (pc c.top) P33.out nm
          rw [← hsn] at HBM0
          obtain ⟨A2, hA2⟩ : ∃ x, x = (if rq = k then ra else ra.map (·.add (k * 34))) := ⟨_, rfl⟩
          obtain ⟨N2, hN2⟩ : ∃ x, x = c.snaps.length - k := ⟨_, rfl⟩
          obtain ⟨C2, hC2⟩ : ∃ x, x = rq - k := ⟨_, rfl⟩
          have HSL := Lib.hid (show (Value.slice (if rq = k then ra else ra.map (·.add (k * 34))) (c.snaps.length - k) (rq - k)) = .slice A2 N2 C2 by rw [hA2, hN2, hC2])
          rw [HSL.out] at H2
          have hfl : [c.snaps.take k, [⟨nm, c.top⟩], c.snaps.drop k].flatten = added c nm := by unfold added; rw [← hkd]; simp
          have hal : (added c nm).length = c.snaps.length + 1 := by unfold added; rw [← hkd]; simp; omega
          have HCC := Lib.hid (fun v W (h : RdsT W v [c.snaps.take k, [⟨nm, c.top⟩], c.snaps.drop k]) => concatT_any _ (by rw [hfl, hal]; omega) v W h)
          rw [hfl] at HCC
          obtain ⟨LS, hLS⟩ : ∃ x, x = [c.snaps.take k, [⟨nm, c.top⟩], c.snaps.drop k] := ⟨_, rfl⟩
          rw [← hLS] at HCC
          have HLS := Lib.hid hLS
          obtain ⟨MC, hMC⟩ : ∃ x, x = snc ⟨nm, c.top⟩ := ⟨_, rfl⟩
          rw [← hMC] at M34 MO HMC HBM0
          obtain ⟨PT, hPT⟩ : ∃ x, x = pc c.top := ⟨_, rfl⟩
          rw [← hPT] at HPT P33 HRX PTO HBM0
          have HBM := Lib.hid HBM0
          have PTL := Lib.hid (fun_len P33.out)
          have HBC := Lib.hid (fun a n q => built_ct PT P33.out a n q)
          rw [show (⟨c.top, added c nm⟩ : Ct).snaps = added c nm from rfl]
          obtain ⟨CT0, hCT0⟩ : ∃ x, x = (⟨c.top, added c nm⟩ : Ct) := ⟨_, rfl⟩
          rw [← hCT0] at HPT ⊢
          obtain ⟨CS, hCS⟩ : ∃ x, x = sncs (added c nm) := ⟨_, rfl⟩
          obtain ⟨m, hm⟩ : ∃ x, x = (added c nm).length := ⟨_, rfl⟩
          rw [← hCS, ← hm] at HCC ⊢
          have ZS34 := Lib.hid (show zsn.length = 34 by decide)
          have hzs : ∀ w, (zeroValue 60).run Try.prog w = .ok (.agg zsn.toArray) w := zeroSn
          obtain ⟨Zs, hZs⟩ : ∃ x, x = zsn := ⟨_, rfl⟩
          rw [← hZs] at ZS34 hzs
          obtain ⟨n, hn⟩ : ∃ n, n = c.snaps.length := ⟨_, rfl⟩
          rw [← hn] at HCK HPL HBS HKK HV HSL HK1 HNC C1 h64
          have hn64 : ¬ (n : Int) = 64 := by omega
          clear hL hA2 hN2 hC2 hfl hLS hPT hCT0 hCS hm hn hv hc hn1 HL hcap hk hkd hal hsn hMC HBM0 hZs
          go_enter Try.func23, Try.ntmps23
          go_upto_region 12 with (first
            | (refine wpList_load_mid rfl 29 (.tmp 2) rfl w.heap.size 0 rfl L _ X1.out.range Try.underlying29 rfl (by rw [L34.out]; exact infoCtC) ?_)
            | (go_at_call 15; (with_reducible refine (HCK.out _ (HV.out.below W1.out)).mono ?_); rintro e w2 ⟨rfl, b2⟩; have W2 := Lib.hid (W1.out.on b2); have X2 := Lib.hid (X1.out.below b2 X1.out.lt); have Y2 := Lib.hid (Y1.out.below b2 Y1.out.lt); clear b2)
            | (go_at_call 20; (with_reducible refine (HNA.out _).mono ?_); rintro e w3 ⟨rfl, b3⟩; have W3 := Lib.hid (W2.out.on b3); have X3 := Lib.hid (X2.out.below b3 X2.out.lt); have Y3 := Lib.hid (Y2.out.below b3 Y2.out.lt); clear b3)
            | (refine wpList_load_mid rfl 29 (.tmp 2) rfl w.heap.size 0 rfl L _ X3.out.range Try.underlying29 rfl (by rw [L34.out]; exact infoCtC) ?_)
            | (go_at_call 48; (with_reducible refine (HPL.out _ (HV.out.below W3.out)).mono ?_); rintro e w4 ⟨rfl, b4⟩; have W4 := Lib.hid (W3.out.on b4); have X4 := Lib.hid (X3.out.below b4 X3.out.lt); have Y4 := Lib.hid (Y3.out.below b4 Y3.out.lt); have c4 := (X3.out.below b4 X3.out.lt).cell 33 _ C1.out; clear b4)
            | (go_at_call 49; (with_reducible refine (HBS.out _ (HV.out.below W4.out)).mono ?_); rintro e w6 ⟨⟨kx, ub, hkl, rfl, hkx⟩, b6⟩; obtain rfl : k = kx := (HKK.out kx hkl hkx).symm; have W6 := Lib.hid (W4.out.on b6); have X6 := Lib.hid (X4.out.below b6 X4.out.lt); have Y6 := Lib.hid (Y4.out.below b6 Y4.out.lt); clear b6 hkx hkl)
            | ((with_reducible show wpList _ _ _ (Oper.mk _ (.load _ (.tmp 42)) _ _ _ _ :: _) _ _); refine wpList_loadW 26 (.tmp 42) rfl w.heap.size 0 rfl PT _ (HRX.out _ X6.out) Try.underlying26 rfl (by rw [P33.out]; exact infoRfC) rfl ?_)
            | ((with_reducible show wpList _ _ _ (Oper.mk (some 44) (.build _ _) _ _ _ _ :: _) _ _); refine wpList_wanted rfl (.agg MC.toArray) (ex_build rfl (by simp only [List.map_toArray, List.map_cons, List.map_nil]; exact HBM.out)) ?_)
            | (refine wpList_store_blk rfl 60 (.tmp 9) (.tmp 44) rfl w6.heap.size 0 MC rfl rfl 60 Zs (Blk.new w6 60 Zs _ rfl) (by rw [M34.out, ZS34.out]; exact Nat.le_refl _) (by rw [M34.out]; exact infoSnC) MO.out ?_; intro w7 b7 g7; rw [splice_all _ _ (by rw [M34.out, ZS34.out])] at b7; have M7 := Lib.hid b7; have B7 := Lib.hid (((Below.refl w6.heap.size w6).alloc (Nat.le_refl _) (.cells Zs.toArray 60)).grown g7 (by simp) (fun g hg => Nat.le_of_eq (Option.some.inj hg))); have W7 := Lib.hid (W6.out.on B7.out); have X7 := Lib.hid (X6.out.below B7.out X6.out.lt); have Y7 := Lib.hid (Y6.out.below B7.out Y6.out.lt); clear b7 g7))
          clear HCK HPL HBS HNA HKK c4
          obtain ⟨b9, hb9⟩ : ∃ x, x = w6.heap.size := ⟨_, rfl⟩
          obtain ⟨w1, hw1⟩ : ∃ x, x = w7 := ⟨_, rfl⟩
          have W2 := W7
          rw [← hw1] at W2 X7 Y7 M7 ⊢
          rw [← hb9] at M7 ⊢
          clear hw1 hb9 X1 Y1 W7 X6 Y6 W6 B7 X4 Y4 W4 X3 Y3 W3 X2 Y2 W1
          have Y1 := Y7
          have X1 := X7
          have M1 := M7
          clear Y7 X7 M7
          refine wp_region_z (by kernel_rfl) [7, 12, 13, 15] (by kernel_rfl) (by kernel_rfl) (Stg [7, 12, 13, 15] ((SnapB w1 (w.heap.size + 1) m CS PT MC LS))) [.pre (.pointer (some ⟨w.heap.size, 0, none⟩)), .pre (.agg PT.toArray), .pre (.pointer (some ⟨w.heap.size, 33, none⟩)), .pre (.slice ra n rq), .pre (.int .i64 (k : Int)), .pre (.slice ra k rq), .pre (.agg MC.toArray), .of 7 (fun u v => v = u), .pre (.pointer (some ⟨w.heap.size, 33, none⟩)), .pre (.slice ra n rq), .pre (.int .i64 (k : Int)), .pre (.slice A2 N2 C2), .of 12 (fun u v => v = u), .of 13 (fun u v => v = u), .of 13 (fun u v => ∃ p q, u = .slice p m q ∧ v = .agg (PT ++ [u]).toArray), .any, .pre (.int .i64 0)] (fun i hi hq => by
                  simp only [List.mem_cons, List.mem_nil_iff, or_false] at hi
                  rcases hi with rfl | rfl | rfl | rfl
                  · exact absurd hq (by decide +kernel)
                  · exact absurd hq (by decide +kernel)
                  · exact absurd hq (by decide +kernel)
                  · rfl) (Stg.zero (show SnapB w1 (w.heap.size + 1) m CS PT MC LS 0 _ w1.drew from (Below.refl _ _).drew)) ?_ ?_
          · refine ⟨?_, ?_, ?_, ?_, ?_, ?_, ?_, ?_, ?_, ?_, ?_, ?_, ?_, ?_, ?_, ?_, ?_, trivial⟩
            · intro a w5 r hF hI hns hri h1 h2 hd
              have e2 : a.eval (.tmp 2) = .pointer (some ⟨w.heap.size, 0, none⟩) := hF 2 (by decide +kernel)
              exact doesZ_read (v := .pointer (some ⟨w.heap.size, 0, none⟩)) (by decide) rfl (ex_fieldAddr rfl e2 (by go_simp)) hI rfl
            · intro a w5 r hF hI hns hri h1 h2 hd
              have e45 : a.eval (.tmp 45) = .pointer (some ⟨w.heap.size, 0, none⟩) := hd 0 (by decide +kernel)
              obtain ⟨kst, hk1, hk2, hA⟩ : ∃ kst, 0 ≤ kst ∧ kst ≤ 3 ∧ (SnapB w1 (w.heap.size + 1) m CS PT MC LS) kst r w5 := hI.between 0 3 (.inl rfl) (.inr ⟨by decide, h1 15 (by decide) (by decide +kernel)⟩)
              have hB : Below w1.heap.size w1 w5 := by
                rcases (show kst = 0 ∨ kst = 1 ∨ kst = 2 ∨ kst = 3 by omega) with rfl | rfl | rfl | rfl
                · exact hA
                · exact (by obtain ⟨_, _, _, hb⟩ := hA; exact hb)
                · exact (by obtain ⟨_, _, _, hb⟩ := hA; exact hb)
                · exact (by obtain ⟨_, _, _, _, hb⟩ := hA; exact hb)
              exact doesZ_ld (by decide) rfl 26 (.tmp 45) rfl (w.heap.size) (0) e45 PT (HRX.out w5 (X1.out.below hB X1.out.lt)) _ Try.underlying26 rfl (by rw [P33.out]; exact infoRfC) hI rfl
            · intro a w5 r hF hI hns hri h1 h2 hd
              have e2 : a.eval (.tmp 2) = .pointer (some ⟨w.heap.size, 0, none⟩) := hF 2 (by decide +kernel)
              exact doesZ_read (v := .pointer (some ⟨w.heap.size, 33, none⟩)) (by decide) rfl (ex_fieldAddr rfl e2 (by go_simp)) hI rfl
            · intro a w5 r hF hI hns hri h1 h2 hd
              have e47 : a.eval (.tmp 47) = .pointer (some ⟨w.heap.size, 33, none⟩) := hd 2 (by decide +kernel)
              obtain ⟨kst, hk1, hk2, hA⟩ : ∃ kst, 0 ≤ kst ∧ kst ≤ 1 ∧ (SnapB w1 (w.heap.size + 1) m CS PT MC LS) kst r w5 := hI.between 0 1 (.inl rfl) (.inr ⟨by decide, h1 12 (by decide) (by decide +kernel)⟩)
              have hB : Below w1.heap.size w1 w5 := by
                rcases (show kst = 0 ∨ kst = 1 by omega) with rfl | rfl
                · exact hA
                · exact (by obtain ⟨_, _, _, hb⟩ := hA; exact hb)
              have cc := (X1.out.below hB X1.out.lt).cell 33 _ C1.out
              exact doesZ_read (v := .slice ra n rq) (by decide) rfl (by unfold execOp; simp only [e47]; go_simp) hI rfl
            · intro a w5 r hF hI hns hri h1 h2 hd
              have e7 : a.eval (.tmp 7) = .int .i64 (k : Int) := hF 7 (by decide +kernel)
              exact doesZ_read (v := .int .i64 (k : Int)) (by decide) rfl (ex_move rfl e7) hI rfl
            · intro a w5 r hF hI hns hri h1 h2 hd
              have e48 : a.eval (.tmp 48) = .slice ra n rq := hd 3 (by decide +kernel)
              have e49 : a.eval (.tmp 49) = .int .i64 (k : Int) := hd 4 (by decide +kernel)
              exact doesZ_read (v := .slice ra k rq) (by decide) rfl (ex_cutT_h rfl e48 e49 HKC.out) hI rfl
            · intro a w5 r hF hI hns hri h1 h2 hd
              have e9 : a.eval (.tmp 9) = .pointer (some ⟨b9, 0, none⟩) := hF 9 (by decide +kernel)
              obtain ⟨kst, hk1, hk2, hA⟩ : ∃ kst, 0 ≤ kst ∧ kst ≤ 0 ∧ (SnapB w1 (w.heap.size + 1) m CS PT MC LS) kst r w5 := hI.between 0 0 (.inl rfl) (.inr ⟨by decide, h1 7 (by decide) (by decide +kernel)⟩)
              have hB : Below w1.heap.size w1 w5 := by
                rcases (show kst = 0 by omega) with rfl
                · exact hA
              exact doesZ_ld (by decide) rfl 60 (.tmp 9) rfl (b9) (0) e9 MC ((M1.out.below hB M1.out.lt).range) _ Try.underlying60 rfl (by rw [M34.out]; exact infoSnC) hI rfl
            · intro a w5 r hF hI hns hri h1 h2 hd
              have e51 : a.eval (.tmp 51) = .agg MC.toArray := hd 6 (by decide +kernel)
              have hA0 : (SnapB w1 (w.heap.size + 1) m CS PT MC LS) 0 r w5 := hI.at_ 0 (.inl rfl) (.inr ⟨by decide, hri⟩)
              exact doesZ_one (by decide) rfl (.tmp 51) 27 60 34 56 zsn MC rfl Try.underlying27 infoSn (by decide) (by decide) M34.out e51 ⟨hI.next 0 7 _ rfl (by decide) (.inl rfl) hri (by decide) ⟨_, Told.set_same _ _ _, rdT_one w5 60 MC 34 M34.out, hA0.alloc hA0.size _⟩, _, Told.set_same _ _ _, rfl⟩
            · intro a w5 r hF hI hns hri h1 h2 hd
              have e2 : a.eval (.tmp 2) = .pointer (some ⟨w.heap.size, 0, none⟩) := hF 2 (by decide +kernel)
              exact doesZ_read (v := .pointer (some ⟨w.heap.size, 33, none⟩)) (by decide) rfl (ex_fieldAddr rfl e2 (by go_simp)) hI rfl
            · intro a w5 r hF hI hns hri h1 h2 hd
              have e53 : a.eval (.tmp 53) = .pointer (some ⟨w.heap.size, 33, none⟩) := hd 8 (by decide +kernel)
              obtain ⟨kst, hk1, hk2, hA⟩ : ∃ kst, 0 ≤ kst ∧ kst ≤ 1 ∧ (SnapB w1 (w.heap.size + 1) m CS PT MC LS) kst r w5 := hI.between 0 1 (.inl rfl) (.inr ⟨by decide, h1 12 (by decide) (by decide +kernel)⟩)
              have hB : Below w1.heap.size w1 w5 := by
                rcases (show kst = 0 ∨ kst = 1 by omega) with rfl | rfl
                · exact hA
                · exact (by obtain ⟨_, _, _, hb⟩ := hA; exact hb)
              have cc := (X1.out.below hB X1.out.lt).cell 33 _ C1.out
              exact doesZ_read (v := .slice ra n rq) (by decide) rfl (by unfold execOp; simp only [e53]; go_simp) hI rfl
            · intro a w5 r hF hI hns hri h1 h2 hd
              have e7 : a.eval (.tmp 7) = .int .i64 (k : Int) := hF 7 (by decide +kernel)
              exact doesZ_read (v := .int .i64 (k : Int)) (by decide) rfl (ex_move rfl e7) hI rfl
            · intro a w5 r hF hI hns hri h1 h2 hd
              have e54 : a.eval (.tmp 54) = .slice ra n rq := hd 9 (by decide +kernel)
              have e55 : a.eval (.tmp 55) = .int .i64 (k : Int) := hd 10 (by decide +kernel)
              exact doesZ_read (v := .slice A2 N2 C2) (by decide) rfl (by rw [← HSL.out]; exact ex_cutT_l rfl e54 e55 HK1.out HNC.out) hI rfl
            · intro a w5 r hF hI hns hri h1 h2 hd
              have e50 : a.eval (.tmp 50) = .slice ra k rq := hd 5 (by decide +kernel)
              obtain ⟨u52, hu52, e52⟩ : ∃ u, r 7 = some u ∧ a.eval (.tmp 52) = u := hd 7 (by decide +kernel)
              have e56 : a.eval (.tmp 56) = .slice A2 N2 C2 := hd 11 (by decide +kernel)
              have hA0 : (SnapB w1 (w.heap.size + 1) m CS PT MC LS) 1 r w5 := hI.at_ 1 (.inr ⟨by decide, h2 7 (by decide) (by decide +kernel)⟩) (.inr ⟨by decide, hri⟩)
              obtain ⟨b1, hr1, hrd1, hbe1⟩ := hA0
              obtain rfl := Option.some.inj (hu52.symm.trans hr1)
              rw [HMC.out] at hrd1
              have HBB := hbe1.alloc hbe1.size (.cells #[.slice ra k rq, .slice (some ⟨b1, 0, none⟩) 1 1, .slice A2 N2 C2] 27)
              have f50 : a.tmps[50]?.getD undef = .slice ra k rq := by rw [← Array.getD_eq_getD_getElem?]; exact e50
              have f52 : a.tmps[52]?.getD undef = .slice (some ⟨b1, 0, none⟩) 1 1 := by rw [← Array.getD_eq_getD_getElem?]; exact e52
              have f56 : a.tmps[56]?.getD undef = .slice A2 N2 C2 := by rw [← Array.getD_eq_getD_getElem?]; exact e56
              have R := Lib.hid (HLS.out ▸ rdsT_three (H1.out _ (W2.out.on hbe1)) hrd1 (H2.out _ (W2.out.on hbe1)))
              refine doesZ_turn (by decide) rfl fun K hK => ?_
              unfold Oper.wp execOp
              clear hd hns h1
              go_simp
              exact hK _ _ (hI.next 1 12 _ rfl (by decide) (.inr ⟨by decide, h2 7 (by decide) (by decide +kernel)⟩) hri (by decide) ⟨_, Told.set_same _ _ _, R.out, HBB⟩) ⟨_, Told.set_same _ _ _, rfl⟩
            · intro a w5 r hF hI hns hri h1 h2 hd
              obtain ⟨u57, hu57, e57⟩ : ∃ u, r 12 = some u ∧ a.eval (.tmp 57) = u := hd 12 (by decide +kernel)
              have hA : (SnapB w1 (w.heap.size + 1) m CS PT MC LS) 2 r w5 := hI.at_ 2 (.inr ⟨by decide, h2 12 (by decide) (by decide +kernel)⟩) (.inr ⟨by decide, hri⟩)
              obtain ⟨bb, hrb, hrd, hbe⟩ := hA
              obtain rfl := Option.some.inj (hu57.symm.trans hrb)
              exact doesZ_call (by decide) rfl (ex_call (vs := #[_]) rfl (by simp only [List.map_toArray, List.map_cons, List.map_nil, e57]) (by go_simp)) ((HCC.out _ w5 hrd).mono fun e w6 hh => by obtain ⟨v, he, ho, hb⟩ := hh; obtain ⟨a, c, rfl, _⟩ := (owned_rd ho).shape; exact ⟨_, he, hI.next 2 13 _ rfl (by decide) (.inr ⟨by decide, h2 12 (by decide) (by decide +kernel)⟩) hri (by decide) ⟨a, c, Told.set_same _ _ _, ownT_lower ho hbe.size, hbe.on hb⟩, _, Told.set_same _ _ _, rfl⟩)
            · intro a w5 r hF hI hns hri h1 h2 hd
              have e46 : a.eval (.tmp 46) = .agg PT.toArray := hd 1 (by decide +kernel)
              obtain ⟨u58, hu58, e58⟩ : ∃ u, r 13 = some u ∧ a.eval (.tmp 58) = u := hd 13 (by decide +kernel)
              have hA : (SnapB w1 (w.heap.size + 1) m CS PT MC LS) 3 r w5 := hI.at_ 3 (.inr ⟨by decide, h2 13 (by decide) (by decide +kernel)⟩) (.inr ⟨by decide, h1 15 (by decide) (by decide +kernel)⟩)
              obtain ⟨aa, ac, hra, hao, hbe⟩ := hA
              obtain rfl : u58 = .slice aa m ac := Option.some.inj (hu58.symm.trans hra)
              exact doesZ_read (by decide) rfl (ex_build rfl (by simp only [List.map_toArray, List.map_cons, List.map_nil, e46, e58]; exact HBC.out _ _ _)) hI ⟨_, hra, aa, ac, rfl, rfl⟩
            · intro a w5 r hF hI hns hri h1 h2 hd
              have e4 : a.eval (.tmp 4) = .pointer (some ⟨(w.heap.size + 1), 0, none⟩) := hF 4 (by decide +kernel)
              obtain ⟨u59, hu59, a59, c59, hs59, e59⟩ : ∃ u, r 13 = some u ∧ ∃ p q, u = .slice p m q ∧ a.eval (.tmp 59) = .agg (PT ++ [u]).toArray := hd 14 (by decide +kernel)
              subst hs59
              have hA : (SnapB w1 (w.heap.size + 1) m CS PT MC LS) 3 r w5 := hI.at_ 3 (.inr ⟨by decide, h2 13 (by decide) (by decide +kernel)⟩) (.inr ⟨by decide, hri⟩)
              obtain ⟨aa, ac, hra, hao, hbe⟩ := hA
              obtain ⟨rfl, rfl⟩ : a59 = aa ∧ c59 = ac := by have := Option.some.inj (hu59.symm.trans hra); injection this with e1 e2 e3; exact ⟨e1, e3⟩
              have hbk := Y1.out.below hbe Y1.out.lt
              exact doesZ_put (by decide) rfl 29 (.tmp 4) (.tmp 59) rfl (w.heap.size + 1) 0 (PT ++ [.slice a59 m c59]) e4 e59 29 Z hbk (by rw [PTL.out, Z34.out]; exact Nat.le_refl _) (by rw [PTL.out]; exact infoCtC) (PTO.out _ _ _) rfl (fun w' b' g' => by rw [splice_all _ _ (by rw [PTL.out, Z34.out])] at b'; exact hI.next 3 15 _ rfl (by decide) (.inr ⟨by decide, h2 13 (by decide) (by decide +kernel)⟩) hri (by decide) ⟨a59, c59, by rw [Told.set_ne (by decide)]; exact hra, World.ownsRow.kept hao g' (ne_res hao Y1.out.lt), b', only_after hbe g'⟩)
            · intro a w5 r hF hI hns hri h1 h2 hd
              exact doesZ_read (v := .int .i64 0) (by decide) rfl (ex_assign rfl rfl) hI rfl
          · intro vs rr w4 hI hS hvs
            obtain ⟨aa, ac, hra, hao, hbk, hg⟩ := hI.at_ 4 (.inr ⟨by decide, hS 15 (by decide)⟩) (.inl rfl)
            have e5 : vs 16 = .int .i64 0 := hvs 16 (by decide)
            have Y5 := Lib.hid hbk
            have O5 := Lib.hid hao
            have W5 := Lib.hid (W2.out.grown hg W2.out.size (fun g hg => by have := Option.some.inj hg; omega))
            have HSZ := Lib.hid (show w.heap.size ≤ w1.heap.size from W2.out.size)
            simp only [putOps, Act.put, List.setIfInBounds_toArray, List.set_cons_zero, List.set_cons_succ, e5]
            clear hI hS hvs hra hao hbk hg e5
            go_wp2_with fail
            refine bodyPost_ret (results_mid2 rfl _ _ (w.heap.size + 1) (PT ++ [.slice aa m ac]) _ rfl Y5.out.range Try.underlying29 rfl (by rw [PTL.out]; exact infoCtC)) rfl ⟨.slice aa m ac, by rw [HPT.out]; rfl, ownT_lower O5.out HSZ.out, W5.out⟩
  · have hX : CT.snap c nm = (CT.zero, CT.check c) := by rw [HX.out, if_pos h0]
    rw [hX]
    obtain ⟨E, hE⟩ : ∃ x, x = CT.check c := ⟨_, rfl⟩
    rw [← hE] at h0 HCK ⊢
    have hE1 : (E == 0) = false := by simpa using h0
    have hE2 : (E != 0) = true := by rw [bne, hE1]; rfl
    clear HX hX hE
    obtain ⟨CS, hCS⟩ : ∃ x, x = sncs c.snaps := ⟨_, rfl⟩
    rw [← hCS] at HCK HPL HV
    obtain ⟨n, hn⟩ : ∃ n, n = c.snaps.length := ⟨_, rfl⟩
    rw [← hn] at HCK HPL HV C1
    clear hL hCS hn hv hc hn1 HL hcap
    go_enter Try.func23, Try.ntmps23
    go_wp2_with ((fail_if_success (with_reducible show bodyPost _ _ _ _ _ _)); first
      | (refine wpList_load_mid rfl 29 (.tmp 2) rfl w.heap.size 0 rfl L _ X1.out.range Try.underlying29 rfl (by rw [L34.out]; exact infoCtC) ?_)
      | (go_at_call 15; (with_reducible refine (HCK.out _ (HV.out.below W1.out)).mono ?_); rintro e w2 ⟨rfl, b2⟩; have W2 := Lib.hid (W1.out.on b2); have X2 := Lib.hid (X1.out.below b2 X1.out.lt); have Y2 := Lib.hid (Y1.out.below b2 Y1.out.lt); clear b2)
      | ((with_reducible show wpList _ _ _ (Oper.mk (some 15) (.build _ _) _ _ _ _ :: _) _ _); refine wpList_wanted rfl (.agg Z.toArray) (ex_buildN rfl hbr) ?_)
      | (refine wpList_store_blk rfl 29 (.tmp 4) (.tmp 15) rfl (w.heap.size + 1) 0 Z rfl rfl 29 Z Y2.out (by rw [Z34.out]; exact Nat.le_refl _) (by rw [Z34.out]; exact infoCtC) ZO.out ?_; intro w5 b5 g5; rw [splice_all _ _ rfl] at b5; have Y5 := Lib.hid b5; have W5 := Lib.hid (W2.out.grown g5 W2.out.size (fun g hg => by have := Option.some.inj hg; omega)); clear b5 g5))
    refine bodyPost_ret (results_mid2 rfl _ _ (w.heap.size + 1) Z _ rfl Y5.out.range Try.underlying29 rfl (by rw [Z34.out]; exact infoCtC)) rfl ⟨.slice none 0 0, by rw [HZ.out]; rfl, owned_none _ _ _ _, W5.out⟩
end Go.Proofs.Ytkagapgganoomaa

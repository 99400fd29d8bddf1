/- The document's answer adds a snapshot: contract. Written by gen_ctacr.py. Own work. -/
import Derived.Test.YtkagapgganoomaaCtSnap
import Derived.Test.YtkagapgganoomaaCtCopy
namespace Go.Proofs.Ytkagapgganoomaa
open Go.ChangeShapes Go.WideShapes Go.ChangeAt Go.RowKit
open RT CT
/-- What the loop has laid behind k rounds. -/
def outAt (l : List Sn) (x : Sn) (sp k : Nat) : List Sn := if sp < k then l.take sp ++ x :: (l.take k).drop sp else l.take k
theorem outAt_zero (l : List Sn) (x : Sn) (sp : Nat) : outAt l x sp 0 = [] := by unfold outAt; rw [if_neg (Nat.not_lt_zero _)]; rfl
theorem outAt_at {l : List Sn} {x : Sn} {k : Nat} (hk : k < l.length) : outAt l x k (k + 1) = outAt l x k k ++ [x] ++ [l[k]] := by
  unfold outAt
  rw [if_pos (by omega), if_neg (by omega), List.take_succ_eq_append_getElem hk, List.drop_append_of_le_length (by rw [List.length_take]; omega), List.drop_eq_nil_of_le (by rw [List.length_take]; omega)]
  simp
theorem outAt_ne {l : List Sn} {x : Sn} {sp k : Nat} (hk : k < l.length) (h : k ≠ sp) : outAt l x sp (k + 1) = outAt l x sp k ++ [l[k]] := by
  unfold outAt
  by_cases q : sp < k
  · rw [if_pos (by omega), if_pos q, List.take_succ_eq_append_getElem hk, List.drop_append_of_le_length (by rw [List.length_take]; omega)]
    simp
  · rw [if_neg (by omega), if_neg q, List.take_succ_eq_append_getElem hk]
theorem outAt_len {l : List Sn} {x : Sn} {sp k : Nat} (hk : k ≤ l.length) : (outAt l x sp k).length ≤ k + 1 := by
  unfold outAt
  by_cases q : sp < k
  · rw [if_pos q]; simp only [List.length_append, List.length_cons, List.length_drop, List.length_take]; omega
  · rw [if_neg q]; simp only [List.length_take]; omega
theorem outAt_end (c : Ct) (nm : ByteArray) (h : spot c.snaps nm < c.snaps.length) : outAt c.snaps ⟨nm, c.top⟩ (spot c.snaps nm) c.snaps.length = added c nm := by
  unfold outAt added
  rw [if_pos h, List.take_length]
theorem outAt_tail (c : Ct) (nm : ByteArray) (h : spot c.snaps nm = c.snaps.length) : outAt c.snaps ⟨nm, c.top⟩ (spot c.snaps nm) c.snaps.length ++ [⟨nm, c.top⟩] = added c nm := by
  unfold outAt added
  rw [h, if_neg (by omega), List.take_length, List.drop_length]
theorem spot_here {l : List Sn} {nm : ByteArray} {k : Nat} (hk : k < l.length) (h : k ≤ spot l nm) : nlt nm l[k].name = decide (k = spot l nm) := by
  by_cases e : k = spot l nm
  · rw [decide_eq_true e]
    have hs : l.findIdx (fun s => nlt nm s.name) < l.length := by show spot l nm < _; omega
    have := List.findIdx_getElem (w := hs)
    have e2 : l.findIdx (fun s => nlt nm s.name) = k := e.symm
    simpa [e2] using this
  · rw [decide_eq_false e]
    have h2 : k < l.findIdx (fun s => nlt nm s.name) := by show k < spot l nm; omega
    simpa using List.not_of_lt_findIdx h2
set_option maxRecDepth 100000 in
set_option maxHeartbeats 8000000 in
theorem crsnap_any (c : Ct) (hc : CT.Ok c) (nm : ByteArray) (v : Value) (w : World) (hv : RdT 34 w v c.snaps.length (sncs c.snaps)) (hn1 : c.snaps.length ≤ 140737488355328) :
    Calls Try.prog 24 #[.agg (ctc c v).toArray, .string nm] w fun e w' => ∃ u, e = .returned (.tuple #[.agg (ctc (CT.snap c nm).1 u).toArray, .int .i64 (CT.snap c nm).2]) ∧ w'.ownsRow w.heap.size 60 34 u (CT.snap c nm).1.snaps.length (sncs (CT.snap c nm).1.snaps) ∧ Below w.heap.size w w' := by
  obtain ⟨ra, rq, rfl, hcap⟩ := hv.shape
  obtain ⟨L, hL⟩ : ∃ L, L = ctc c (.slice ra c.snaps.length rq) := ⟨_, rfl⟩
  obtain ⟨Z, hZ⟩ : ∃ Z, Z = ctc CT.zero (.slice none 0 0) := ⟨_, rfl⟩
  have hz : ∀ w, (zeroValue 29).run Try.prog w = .ok (.agg Z.toArray) w := by rw [hZ]; exact zeroCt
  have hbr : Try.prog.built 29 [] = some Z.toArray := by rw [hZ]; exact builtCt0
  have Z34 := Lib.hid (show Z.length = 34 by rw [hZ]; exact ctc_len CT.zp_ok _)
  have ZO := Lib.hid (show Z.toArray.all (·.oneCell') = true by rw [hZ]; exact ctc_all rfl)
  have L34 := Lib.hid (show L.length = 34 by rw [hL]; exact ctc_len hc.top _)
  have W1 := Lib.hid (((Below.refl w.heap.size w).alloc (Nat.le_refl _) (.cells L.toArray 29)).alloc (by simp) (.cells Z.toArray 29))
  have X1 := Lib.hid ((Blk.new w 29 L _ rfl).alloc (.cells Z.toArray 29))
  have Y1 := Lib.hid (Blk.new (w.alloc (.cells L.toArray 29)) 29 Z (w.heap.size + 1) (by simp))
  have C1 := Lib.hid (show L[33]? = some (.slice ra c.snaps.length rq) by rw [hL]; exact ctc_snaps hc.top _)
  have HV := Lib.hid hv
  have HL := Lib.hid hc.snaps
  have HCK := Lib.hid (fun W (h : RdT 34 W (.slice ra c.snaps.length rq) c.snaps.length (sncs c.snaps)) => rccheck_any c hc _ W h)
  have HPL := Lib.hid (fun W (h : RdT 34 W (.slice ra c.snaps.length rq) c.snaps.length (sncs c.snaps)) => rplace_any c hc nm _ W h hn1)
  have HNA := Lib.hid (fun W => rname_any nm W)
  rw [← hL] at HCK HPL ⊢
  have HZ := Lib.hid hZ
  clear hZ
  have HX := Lib.hid (show CT.snap c nm = if CT.check c ≠ 0 then (CT.zero, CT.check c) else if isName nm = false then (CT.zero, 44) else if 0 ≤ plc c.snaps nm then (CT.zero, 23) else if c.snaps.length = 64 then (CT.zero, 45) else (⟨c.top, added c nm⟩, 0) from rfl)
  by_cases h0 : CT.check c = 0
  · have h64l := (check_zero.1 h0).1
    rw [h0] at HCK
    by_cases h1 : isName nm = false
    · have hX : CT.snap c nm = (CT.zero, 44) := by rw [HX.out, if_neg (by rw [h0]; decide), if_pos h1]
      rw [hX]
      rw [h1] at HNA
      clear HX hX h1 h64l h0
      obtain ⟨CS, hCS⟩ : ∃ x, x = sncs c.snaps := ⟨_, rfl⟩
      rw [← hCS] at HCK HPL HV
      obtain ⟨n, hn⟩ : ∃ n, n = c.snaps.length := ⟨_, rfl⟩
      rw [← hn] at HCK HPL HV C1
      clear hL hCS hn hv hc hn1 HL hcap
      go_enter Try.func24, Try.ntmps24
      go_wp2_with ((fail_if_success (with_reducible show bodyPost _ _ _ _ _ _)); first
        | (refine wpList_load_mid rfl 29 (.tmp 2) rfl w.heap.size 0 rfl L _ X1.out.range Try.underlying29 rfl (by rw [L34.out]; exact infoCtC) ?_)
        | (go_at_call 16; (with_reducible refine (HCK.out _ (HV.out.below W1.out)).mono ?_); rintro e w2 ⟨rfl, b2⟩; have W2 := Lib.hid (W1.out.on b2); have X2 := Lib.hid (X1.out.below b2 X1.out.lt); have Y2 := Lib.hid (Y1.out.below b2 Y1.out.lt); clear b2)
        | (go_at_call 21; (with_reducible refine (HNA.out _).mono ?_); rintro e w3 ⟨rfl, b3⟩; have W3 := Lib.hid (W2.out.on b3); have X3 := Lib.hid (X2.out.below b3 X2.out.lt); have Y3 := Lib.hid (Y2.out.below b3 Y2.out.lt); clear b3)
        | ((with_reducible show wpList _ _ _ (Oper.mk (some 21) (.build _ _) _ _ _ _ :: _) _ _); refine wpList_wanted rfl (.agg Z.toArray) (ex_buildN rfl hbr) ?_)
        | (refine wpList_store_blk rfl 29 (.tmp 4) (.tmp 21) rfl (w.heap.size + 1) 0 Z rfl rfl 29 Z Y3.out (by rw [Z34.out]; exact Nat.le_refl _) (by rw [Z34.out]; exact infoCtC) ZO.out ?_; intro w5 b5 g5; rw [splice_all _ _ rfl] at b5; have Y5 := Lib.hid b5; have W5 := Lib.hid (W3.out.grown g5 W3.out.size (fun g hg => by have := Option.some.inj hg; omega)); clear b5 g5))
      refine bodyPost_ret (results_mid2 rfl _ _ (w.heap.size + 1) Z _ rfl Y5.out.range Try.underlying29 rfl (by rw [Z34.out]; exact infoCtC)) rfl ⟨.slice none 0 0, by rw [HZ.out]; rfl, owned_none _ _ _ _, W5.out⟩
    · have h1' : isName nm = true := by simpa using h1
      rw [h1'] at HNA
      by_cases h2 : 0 ≤ plc c.snaps nm
      · have hX : CT.snap c nm = (CT.zero, 23) := by rw [HX.out, if_neg (by rw [h0]; decide), if_neg h1, if_pos h2]
        rw [hX]
        clear HX hX h1 h1' h64l h0
        obtain ⟨PV, hPV⟩ : ∃ x, x = plc c.snaps nm := ⟨_, rfl⟩
        rw [← hPV] at HPL h2
        clear hPV
        obtain ⟨CS, hCS⟩ : ∃ x, x = sncs c.snaps := ⟨_, rfl⟩
        rw [← hCS] at HCK HPL HV
        obtain ⟨n, hn⟩ : ∃ n, n = c.snaps.length := ⟨_, rfl⟩
        rw [← hn] at HCK HPL HV C1
        clear hL hCS hn hv hc hn1 HL hcap
        go_enter Try.func24, Try.ntmps24
        go_wp2_with ((fail_if_success (with_reducible show bodyPost _ _ _ _ _ _)); first
          | (refine wpList_load_mid rfl 29 (.tmp 2) rfl w.heap.size 0 rfl L _ X1.out.range Try.underlying29 rfl (by rw [L34.out]; exact infoCtC) ?_)
          | (go_at_call 16; (with_reducible refine (HCK.out _ (HV.out.below W1.out)).mono ?_); rintro e w2 ⟨rfl, b2⟩; have W2 := Lib.hid (W1.out.on b2); have X2 := Lib.hid (X1.out.below b2 X1.out.lt); have Y2 := Lib.hid (Y1.out.below b2 Y1.out.lt); clear b2)
          | (go_at_call 21; (with_reducible refine (HNA.out _).mono ?_); rintro e w3 ⟨rfl, b3⟩; have W3 := Lib.hid (W2.out.on b3); have X3 := Lib.hid (X2.out.below b3 X2.out.lt); have Y3 := Lib.hid (Y2.out.below b3 Y2.out.lt); clear b3)
          | (refine wpList_load_mid rfl 29 (.tmp 2) rfl w.heap.size 0 rfl L _ X3.out.range Try.underlying29 rfl (by rw [L34.out]; exact infoCtC) ?_)
          | (go_at_call 53; (with_reducible refine (HPL.out _ (HV.out.below W3.out)).mono ?_); rintro e w4 ⟨rfl, b4⟩; have W4 := Lib.hid (W3.out.on b4); have X4 := Lib.hid (X3.out.below b4 X3.out.lt); have Y4 := Lib.hid (Y3.out.below b4 Y3.out.lt); have c4 := (X3.out.below b4 X3.out.lt).cell 33 _ C1.out; clear b4)
          | ((with_reducible show wpList _ _ _ (Oper.mk (some 27) (.build _ _) _ _ _ _ :: _) _ _); refine wpList_wanted rfl (.agg Z.toArray) (ex_buildN rfl hbr) ?_)
          | (refine wpList_store_blk rfl 29 (.tmp 4) (.tmp 27) rfl (w.heap.size + 1) 0 Z rfl rfl 29 Z Y4.out (by rw [Z34.out]; exact Nat.le_refl _) (by rw [Z34.out]; exact infoCtC) ZO.out ?_; intro w5 b5 g5; rw [splice_all _ _ rfl] at b5; have Y5 := Lib.hid b5; have W5 := Lib.hid (W4.out.grown g5 W4.out.size (fun g hg => by have := Option.some.inj hg; omega)); clear b5 g5))
        refine bodyPost_ret (results_mid2 rfl _ _ (w.heap.size + 1) Z _ rfl Y5.out.range Try.underlying29 rfl (by rw [Z34.out]; exact infoCtC)) rfl ⟨.slice none 0 0, by rw [HZ.out]; rfl, owned_none _ _ _ _, W5.out⟩
      · have hp : plc c.snaps nm = -1 := by
          rcases plc_cases c.snaps nm with ⟨h, -⟩ | ⟨k, hk, h, -⟩
          · exact h
          · exact absurd (by rw [h]; omega) h2
        rw [hp] at HPL
        by_cases h3 : c.snaps.length = 64
        · have hX : CT.snap c nm = (CT.zero, 45) := by rw [HX.out, if_neg (by rw [h0]; decide), if_neg h1, if_neg h2, if_pos h3]
          rw [hX]
          clear HX hX h1 h1' h64l h0 hp h2
          obtain ⟨CS, hCS⟩ : ∃ x, x = sncs c.snaps := ⟨_, rfl⟩
          rw [← hCS] at HCK HPL HV
          obtain ⟨n, hn⟩ : ∃ n, n = c.snaps.length := ⟨_, rfl⟩
          rw [← hn] at HCK HPL HV C1 h3
          clear hL hCS hn hv hc hn1 HL hcap
          have h3' : ¬ (n : Int) < 64 := by omega
          have h3b : (64 : Int) ≤ (n : Int) := by omega
          go_enter Try.func24, Try.ntmps24
          go_wp2_with ((fail_if_success (with_reducible show bodyPost _ _ _ _ _ _)); first
            | (refine wpList_load_mid rfl 29 (.tmp 2) rfl w.heap.size 0 rfl L _ X1.out.range Try.underlying29 rfl (by rw [L34.out]; exact infoCtC) ?_)
            | (go_at_call 16; (with_reducible refine (HCK.out _ (HV.out.below W1.out)).mono ?_); rintro e w2 ⟨rfl, b2⟩; have W2 := Lib.hid (W1.out.on b2); have X2 := Lib.hid (X1.out.below b2 X1.out.lt); have Y2 := Lib.hid (Y1.out.below b2 Y1.out.lt); clear b2)
            | (go_at_call 21; (with_reducible refine (HNA.out _).mono ?_); rintro e w3 ⟨rfl, b3⟩; have W3 := Lib.hid (W2.out.on b3); have X3 := Lib.hid (X2.out.below b3 X2.out.lt); have Y3 := Lib.hid (Y2.out.below b3 Y2.out.lt); clear b3)
            | (refine wpList_load_mid rfl 29 (.tmp 2) rfl w.heap.size 0 rfl L _ X3.out.range Try.underlying29 rfl (by rw [L34.out]; exact infoCtC) ?_)
            | (go_at_call 53; (with_reducible refine (HPL.out _ (HV.out.below W3.out)).mono ?_); rintro e w4 ⟨rfl, b4⟩; have W4 := Lib.hid (W3.out.on b4); have X4 := Lib.hid (X3.out.below b4 X3.out.lt); have Y4 := Lib.hid (Y3.out.below b4 Y3.out.lt); have c4 := (X3.out.below b4 X3.out.lt).cell 33 _ C1.out; clear b4)
            | ((with_reducible show wpList _ _ _ (Oper.mk (some 33) (.build _ _) _ _ _ _ :: _) _ _); refine wpList_wanted rfl (.agg Z.toArray) (ex_buildN rfl hbr) ?_)
            | (refine wpList_store_blk rfl 29 (.tmp 4) (.tmp 33) rfl (w.heap.size + 1) 0 Z rfl rfl 29 Z Y4.out (by rw [Z34.out]; exact Nat.le_refl _) (by rw [Z34.out]; exact infoCtC) ZO.out ?_; intro w5 b5 g5; rw [splice_all _ _ rfl] at b5; have Y5 := Lib.hid b5; have W5 := Lib.hid (W4.out.grown g5 W4.out.size (fun g hg => by have := Option.some.inj hg; omega)); clear b5 g5))
          refine bodyPost_ret (results_mid2 rfl _ _ (w.heap.size + 1) Z _ rfl Y5.out.range Try.underlying29 rfl (by rw [Z34.out]; exact infoCtC)) rfl ⟨.slice none 0 0, by rw [HZ.out]; rfl, owned_none _ _ _ _, W5.out⟩
        · have hX : CT.snap c nm = (⟨c.top, added c nm⟩, 0) := by rw [HX.out, if_neg (by rw [h0]; decide), if_neg h1, if_neg h2, if_neg h3]
          rw [hX]
          have h64 : c.snaps.length < 64 := by omega
          clear HX hX h1 h1' h64l h0 hp h2 h3
          have HRX := Lib.hid (fun W (h : Blk W w.heap.size 29 L) => ct_topE h hL)
          have P33 := Lib.hid (pc_len hc.top)
          have HPT := Lib.hid (fun u => show ctc ⟨c.top, added c nm⟩ u = pc c.top ++ [u] from rfl)
          have PTO := Lib.hid (fun (a : Option Addr) (n q : Nat) => show (pc c.top ++ [Value.slice a n q]).toArray.all (·.oneCell') = true from ctc_all (c := ⟨c.top, []⟩) rfl)
          have hsn : snc ⟨nm, c.top⟩ = .string nm :: pc c.top := rfl
          have M34 := Lib.hid (snc_len (s := ⟨nm, c.top⟩) hc.top)
          have HBM0 := built_sn (pc c.top) P33.out nm
          rw [← hsn] at HBM0
          have HM1 := Lib.hid (snc_one' ⟨nm, c.top⟩)
          have HAD := Lib.hid (fun (h : spot c.snaps nm < c.snaps.length) => outAt_end c nm h)
          have HAT := Lib.hid (fun (h : spot c.snaps nm = c.snaps.length) => outAt_tail c nm h)
          have HSL := Lib.hid (spot_le c.snaps nm)
          have HSH := Lib.hid (fun k (hk : k < c.snaps.length) (h : k ≤ spot c.snaps nm) => spot_here (nm := nm) hk h)
          rw [show (⟨c.top, added c nm⟩ : Ct).snaps = added c nm from rfl]
          obtain ⟨CT0, hCT0⟩ : ∃ x, x = (⟨c.top, added c nm⟩ : Ct) := ⟨_, rfl⟩
          rw [← hCT0] at HPT ⊢
          obtain ⟨AD, hAD⟩ : ∃ x, x = added c nm := ⟨_, rfl⟩
          rw [← hAD] at HAD HAT ⊢
          obtain ⟨more, hmore⟩ : ∃ x, x = (⟨nm, c.top⟩ : Sn) := ⟨_, rfl⟩
          rw [← hmore] at M34 HBM0 HM1 HAD HAT
          obtain ⟨sp, hsp⟩ : ∃ x, x = spot c.snaps nm := ⟨_, rfl⟩
          rw [← hsp] at HAD HAT HSL HSH
          obtain ⟨PT, hPT⟩ : ∃ x, x = pc c.top := ⟨_, rfl⟩
          rw [← hPT] at HPT P33 HRX PTO HBM0
          have PTL := Lib.hid (fun_len P33.out)
          have HBC := Lib.hid (fun a n q => built_ct PT P33.out a n q)
          obtain ⟨l, hl⟩ : ∃ x, x = c.snaps := ⟨_, rfl⟩
          rw [← hl] at HCK HPL HV C1 h64 HL HAD HAT HSL HSH
          obtain ⟨n, hn⟩ : ∃ n, n = l.length := ⟨_, rfl⟩
          rw [← hn] at HCK HPL HV C1 h64 HAD HAT HSL
          have HN := Lib.hid hn
          obtain ⟨MC, hMC⟩ : ∃ x, x = snc more := ⟨_, rfl⟩
          rw [← hMC] at M34 HBM0 HM1
          have HMC := Lib.hid hMC
          have HBM := Lib.hid HBM0
          have h64' : ¬ (64 : Int) ≤ (n : Int) := by omega
          have h64b : (n : Int) < 64 := by omega
          obtain ⟨m, hm⟩ : ∃ x, x = AD.length := ⟨_, rfl⟩
          obtain ⟨CS, hCS⟩ : ∃ x, x = sncs AD := ⟨_, rfl⟩
          rw [← hm, ← hCS]
          have HAM := Lib.hid hm
          have HAC := Lib.hid hCS
          clear hL hCT0 hAD hmore hsp hPT hl hn hMC HBM0 hsn hv hc hn1 hcap hm hCS
          go_enter Try.func24, Try.ntmps24
          go_wp2_with ((fail_if_success (with_reducible show bodyPost _ _ _ _ _ _)); first
      | (refine wpList_load_mid rfl 29 (.tmp 2) rfl w.heap.size 0 rfl L _ X1.out.range Try.underlying29 rfl (by rw [L34.out]; exact infoCtC) ?_)
      | (go_at_call 16; (with_reducible refine (HCK.out _ (HV.out.below W1.out)).mono ?_); rintro e w2 ⟨rfl, b2⟩; have W2 := Lib.hid (W1.out.on b2); have X2 := Lib.hid (X1.out.below b2 X1.out.lt); have Y2 := Lib.hid (Y1.out.below b2 Y1.out.lt); clear b2)
      | (go_at_call 21; (with_reducible refine (HNA.out _).mono ?_); rintro e w3 ⟨rfl, b3⟩; have W3 := Lib.hid (W2.out.on b3); have X3 := Lib.hid (X2.out.below b3 X2.out.lt); have Y3 := Lib.hid (Y2.out.below b3 Y2.out.lt); clear b3)
      | (refine wpList_load_mid rfl 29 (.tmp 2) rfl w.heap.size 0 rfl L _ X3.out.range Try.underlying29 rfl (by rw [L34.out]; exact infoCtC) ?_)
      | (go_at_call 53; (with_reducible refine (HPL.out _ (HV.out.below W3.out)).mono ?_); rintro e w4 ⟨rfl, b4⟩; have W4 := Lib.hid (W3.out.on b4); have X4 := Lib.hid (X3.out.below b4 X3.out.lt); have Y4 := Lib.hid (Y3.out.below b4 Y3.out.lt); have c4 := (X3.out.below b4 X3.out.lt).cell 33 _ C1.out; clear b4))
          clear HCK HPL HNA X1 X2 X3 Y1 Y2 Y3 W1 W2 W3
          have HSZ := Lib.hid (show w.heap.size + 1 < w4.heap.size from Y4.out.lt)
          go_loopw [7, 8, 9] (fun x d i wr => ∃ k : Nat, k ≤ n ∧ i = .int .i64 (k : Int) ∧ d = .bool (decide (sp < k)) ∧ Below w4.heap.size w4 wr ∧ ∃ a q, x = .slice a (outAt l more sp k).length q ∧ wr.ownsRow w4.heap.size 60 34 x (outAt l more sp k).length (sncs (outAt l more sp k))) (fun _ _ i _ => n - (intOf i).toNat)
          case atStart => exact ⟨0, Nat.zero_le _, rfl, by rw [decide_eq_false (Nat.not_lt_zero _)], Below.refl _ _, none, 0, by rw [outAt_zero]; rfl, by rw [outAt_zero]; exact owned_none _ _ _ _⟩
          case round =>
            obtain ⟨k, hk, rfl, rfl, hw, oa, oq, rfl, ho⟩ := hrel
            have B5 := Lib.hid hw
            have O5 := Lib.hid ho
            have X5 := Lib.hid (X4.out.below hw X4.out.lt)
            have W5 := Lib.hid (W4.out.on hw)
            have c5 := X5.out.cell 33 _ C1.out
            clear hw ho c4
            by_cases hlt : k < n
            · have hkp : k < l.length := by rw [← HN.out]; exact hlt
              have hklt : (k : Int) < (n : Int) := by omega
              have hk0 : (0 : Int) ≤ (k : Int) := by omega
              obtain ⟨pb, po, hra, hpc, hnm, -⟩ := sn_range (HV.out.below W5.out) HL.out HN.out hkp
              subst hra
              have RPd := Lib.hid (fun W (h : Below w.heap.size w W) => show W.rangeAt pb (po + k * 34) (snc l[k]) by
                obtain ⟨b', o', e, hr, -, -⟩ := sn_range (HV.out.below h) HL.out HN.out hkp
                cases e; exact hr)
              have PK34 := Lib.hid (snc_len (HL.out _ (List.getElem_mem hkp)))
              have HK1 := Lib.hid (snc_one' l[k])
              have HOL := Lib.hid (outAt_len (l := l) (x := more) (sp := sp) (k := k) (by rw [← HN.out]; omega))
              have HKS := Lib.hid (sncs_one l[k])
              have HA1 := fun (e : k = sp) => show outAt l more sp (k + 1) = outAt l more sp k ++ [more] ++ [l[k]] by subst e; exact outAt_at hkp
              have HA2 := fun (e : k ≠ sp) => show outAt l more sp (k + 1) = outAt l more sp k ++ [l[k]] from outAt_ne hkp e
              have HGT := Lib.hid (fun W (h : k ≤ sp) => show (binOp .gtr 9 (.string l[k].name) (.string nm)).run Try.prog W = .ok (.bool (decide (k = sp))) W by rw [run_str_gtr, HSH.out k hkp h])
              have HTL := fun s : Sn => show sncs (outAt l more sp k ++ [s]) = sncs (outAt l more sp k) ++ snc s by rw [sncs_app, sncs_one]
              have HTL2 := fun s : Sn => show sncs (outAt l more sp k ++ [more] ++ [s]) = sncs (outAt l more sp k) ++ snc more ++ snc s by rw [sncs_app, sncs_one, sncs_app, sncs_one]
              have HLL := Lib.hid (show (outAt l more sp k ++ [l[k]]).length = (outAt l more sp k).length + 1 by simp)
              have HLL2 := Lib.hid (show (outAt l more sp k ++ [more] ++ [l[k]]).length = (outAt l more sp k).length + 1 + 1 by simp)
              have HSK := Lib.hid (HTL l[k])
              have HSK2 := Lib.hid (HTL2 l[k])
              rw [← HMC.out] at HSK2
              clear HTL HTL2 hpc
              obtain ⟨nk, hnk⟩ : ∃ x, x = l[k].name := ⟨_, rfl⟩
              rw [← hnk] at hnm HGT
              obtain ⟨Sk, hSk⟩ : ∃ x, x = snc l[k] := ⟨_, rfl⟩
              rw [← hSk] at RPd PK34 HK1 HSK HSK2
              obtain ⟨OL, hOL⟩ : ∃ x, x = (outAt l more sp k).length := ⟨_, rfl⟩
              obtain ⟨OC, hOC⟩ : ∃ x, x = sncs (outAt l more sp k) := ⟨_, rfl⟩
              rw [← hOL, ← hOC] at O5
              rw [← hOL] at HOL HLL HLL2
              rw [← hOC] at HSK HSK2
              rw [← hOL]
              clear hnk hSk hOL hOC
              by_cases hd : sp < k
              · have hne : k ≠ sp := by omega
                have HE := Lib.hid (HA2 hne)
                have HD := Lib.hid (show decide (sp < k + 1) = true from decide_eq_true (by omega))
                rw [decide_eq_true hd]
                clear HA1 HA2 hne hd
                go_wp2_with ((fail_if_success (with_reducible show bodyPost _ _ _ _ _ _)); first
                | ((with_reducible show wpList _ _ _ (Oper.mk _ (.load _ (.tmp 64)) _ _ _ _ :: _) _ _); refine wpList_load_mid rfl 60 (.tmp 64) rfl pb (po + k * 34) rfl Sk _ (RPd.out _ W5.out) Try.underlying60 rfl (by rw [PK34.out]; exact infoSnC) ?_)
                | ((with_reducible show wpList _ _ _ (Oper.mk (some 66) (.buildSlice _ _ _) _ _ _ _ :: _) _ _); refine wpList_oneT rfl (.tmp 65) 27 60 34 56 zsn Sk rfl Try.underlying27 infoSn (by decide) (by decide) PK34.out rfl ?_; have R8 := Lib.hid (rdT_one wr 60 Sk 34 PK34.out); have O8 := Lib.hid (owned_below O5.out ((Below.refl wr.heap.size wr).alloc (Nat.le_refl _) (.cells Sk.toArray 60))); have B8 := Lib.hid (B5.out.alloc B5.out.size (.cells Sk.toArray 60)))
                | ((with_reducible show wpList _ _ _ (Oper.mk (some 67) _ _ _ _ _ :: _) _ _); refine wpList_appTw rfl (.tmp 60) (.tmp 66) 27 60 34 56 zsn rfl Try.underlying27 infoSn rfl (by decide) w4.heap.size (.slice oa OL oq) (.slice (some ⟨wr.heap.size, 0, none⟩) 1 1) (OL) 1 (OC) Sk rfl rfl O8.out R8.out HK1.out (by have := HOL.out; omega) (by have := HOL.out; omega) B8.out.size ?_; intro v9 w9 o9 g9 k9; obtain ⟨a9, q9, hsh9, _⟩ := (owned_rd o9).shape; subst hsh9; have O9 := Lib.hid o9; have B9 := Lib.hid (B8.out.grown g9 B8.out.size (fun g hg => (World.ownsRow.lt O8.out g hg).1)); clear o9 g9 k9))
                refine ⟨⟨k + 1, by omega, by go_num, by rw [HD.out], B9.out, a9, q9, by rw [HE.out, HLL.out], by rw [HE.out, HLL.out, HSK.out]; exact O9.out⟩, by simp [intOf]; omega⟩
              · have hle : k ≤ sp := by omega
                have HGQ := Lib.hid (fun W => HGT.out W hle)
                rw [decide_eq_false hd]
                clear hd
                by_cases heq : k = sp
                · have HE := Lib.hid (HA1 heq)
                  have HD := Lib.hid (show decide (sp < k + 1) = true from decide_eq_true (by omega))
                  rw [decide_eq_true heq] at HGQ
                  clear HA1 HA2 heq hle
                  go_wp2_with ((fail_if_success (with_reducible show bodyPost _ _ _ _ _ _)); first
                | ((with_reducible show wpList _ _ _ (Oper.mk _ (.binOp .gtr _ (.tmp 49) (.tmp 50) _) _ _ _ _ :: _) _ _); refine wpList_binW (.tmp 49) (.tmp 50) .gtr 9 9 rfl (.string nk) (.string nm) _ rfl rfl (eqG_str .gtr (.tmp 49) (.tmp 50) nk nm _) (HGQ.out _) rfl ?_)
                | ((with_reducible show wpList _ _ _ (Oper.mk _ (.load _ (.tmp 55)) _ _ _ _ :: _) _ _); refine wpList_load_mid rfl 26 (.tmp 55) rfl w.heap.size 0 rfl PT _ (HRX.out _ X5.out) Try.underlying26 rfl (by rw [P33.out]; exact infoRfC) ?_)
                | ((with_reducible show wpList _ _ _ (Oper.mk (some 57) (.build _ _) _ _ _ _ :: _) _ _); refine wpList_wanted rfl (.agg MC.toArray) (ex_build rfl (by simp only [List.map_toArray, List.map_cons, List.map_nil]; exact HBM.out)) ?_)
                | ((with_reducible show wpList _ _ _ (Oper.mk (some 58) (.buildSlice _ _ _) _ _ _ _ :: _) _ _); refine wpList_oneT rfl (.tmp 57) 27 60 34 56 zsn MC rfl Try.underlying27 infoSn (by decide) (by decide) M34.out rfl ?_; have R6 := Lib.hid (rdT_one wr 60 MC 34 M34.out); have O6 := Lib.hid (owned_below O5.out ((Below.refl wr.heap.size wr).alloc (Nat.le_refl _) (.cells MC.toArray 60))); have B6 := Lib.hid (B5.out.alloc B5.out.size (.cells MC.toArray 60)))
                | ((with_reducible show wpList _ _ _ (Oper.mk (some 59) _ _ _ _ _ :: _) _ _); refine wpList_appTw rfl (.tmp 53) (.tmp 58) 27 60 34 56 zsn rfl Try.underlying27 infoSn rfl (by decide) w4.heap.size (.slice oa OL oq) (.slice (some ⟨wr.heap.size, 0, none⟩) 1 1) OL 1 OC MC rfl rfl O6.out R6.out HM1.out (by have := HOL.out; omega) (by have := HOL.out; omega) B6.out.size ?_; intro v7 w7 o7 g7 k7; obtain ⟨a7, q7, hsh7, _⟩ := (owned_rd o7).shape; subst hsh7; have O7 := Lib.hid o7; have B7 := Lib.hid (B6.out.grown g7 B6.out.size (fun g hg => (World.ownsRow.lt O6.out g hg).1)); have W7 := Lib.hid (W4.out.on B7.out); have c7 := (X4.out.below B7.out X4.out.lt).cell 33 _ C1.out; clear o7 g7 k7 c5)
                | ((with_reducible show wpList _ _ _ (Oper.mk _ (.load _ (.tmp 64)) _ _ _ _ :: _) _ _); refine wpList_load_mid rfl 60 (.tmp 64) rfl pb (po + k * 34) rfl Sk _ (RPd.out _ W7.out) Try.underlying60 rfl (by rw [PK34.out]; exact infoSnC) ?_)
                | ((with_reducible show wpList _ _ _ (Oper.mk (some 66) (.buildSlice _ _ _) _ _ _ _ :: _) _ _); refine wpList_oneT rfl (.tmp 65) 27 60 34 56 zsn Sk rfl Try.underlying27 infoSn (by decide) (by decide) PK34.out rfl ?_; have R8 := Lib.hid (rdT_one w7 60 Sk 34 PK34.out); have O8 := Lib.hid (owned_below O7.out ((Below.refl w7.heap.size w7).alloc (Nat.le_refl _) (.cells Sk.toArray 60))); have B8 := Lib.hid (B7.out.alloc B7.out.size (.cells Sk.toArray 60)))
                | ((with_reducible show wpList _ _ _ (Oper.mk (some 67) _ _ _ _ _ :: _) _ _); refine wpList_appTw rfl (.tmp 60) (.tmp 66) 27 60 34 56 zsn rfl Try.underlying27 infoSn rfl (by decide) w4.heap.size (.slice a7 (OL + 1) q7) (.slice (some ⟨w7.heap.size, 0, none⟩) 1 1) (OL + 1) 1 (OC ++ MC) Sk rfl rfl O8.out R8.out HK1.out (by have := HOL.out; omega) (by have := HOL.out; omega) B8.out.size ?_; intro v9 w9 o9 g9 k9; obtain ⟨a9, q9, hsh9, _⟩ := (owned_rd o9).shape; subst hsh9; have O9 := Lib.hid o9; have B9 := Lib.hid (B8.out.grown g9 B8.out.size (fun g hg => (World.ownsRow.lt O8.out g hg).1)); clear o9 g9 k9))
                  refine ⟨⟨k + 1, by omega, by go_num, by rw [HD.out], B9.out, a9, q9, by rw [HE.out, HLL2.out], by rw [HE.out, HLL2.out, HSK2.out]; exact O9.out⟩, by simp [intOf]; omega⟩
                · have HE := Lib.hid (HA2 heq)
                  have HD := Lib.hid (show decide (sp < k + 1) = false from decide_eq_false (by omega))
                  rw [decide_eq_false heq] at HGQ
                  clear HA1 HA2 heq hle
                  go_wp2_with ((fail_if_success (with_reducible show bodyPost _ _ _ _ _ _)); first
                | ((with_reducible show wpList _ _ _ (Oper.mk _ (.binOp .gtr _ (.tmp 49) (.tmp 50) _) _ _ _ _ :: _) _ _); refine wpList_binW (.tmp 49) (.tmp 50) .gtr 9 9 rfl (.string nk) (.string nm) _ rfl rfl (eqG_str .gtr (.tmp 49) (.tmp 50) nk nm _) (HGQ.out _) rfl ?_)
                | ((with_reducible show wpList _ _ _ (Oper.mk _ (.load _ (.tmp 64)) _ _ _ _ :: _) _ _); refine wpList_load_mid rfl 60 (.tmp 64) rfl pb (po + k * 34) rfl Sk _ (RPd.out _ W5.out) Try.underlying60 rfl (by rw [PK34.out]; exact infoSnC) ?_)
                | ((with_reducible show wpList _ _ _ (Oper.mk (some 66) (.buildSlice _ _ _) _ _ _ _ :: _) _ _); refine wpList_oneT rfl (.tmp 65) 27 60 34 56 zsn Sk rfl Try.underlying27 infoSn (by decide) (by decide) PK34.out rfl ?_; have R8 := Lib.hid (rdT_one wr 60 Sk 34 PK34.out); have O8 := Lib.hid (owned_below O5.out ((Below.refl wr.heap.size wr).alloc (Nat.le_refl _) (.cells Sk.toArray 60))); have B8 := Lib.hid (B5.out.alloc B5.out.size (.cells Sk.toArray 60)))
                | ((with_reducible show wpList _ _ _ (Oper.mk (some 67) _ _ _ _ _ :: _) _ _); refine wpList_appTw rfl (.tmp 60) (.tmp 66) 27 60 34 56 zsn rfl Try.underlying27 infoSn rfl (by decide) w4.heap.size (.slice oa OL oq) (.slice (some ⟨wr.heap.size, 0, none⟩) 1 1) (OL) 1 (OC) Sk rfl rfl O8.out R8.out HK1.out (by have := HOL.out; omega) (by have := HOL.out; omega) B8.out.size ?_; intro v9 w9 o9 g9 k9; obtain ⟨a9, q9, hsh9, _⟩ := (owned_rd o9).shape; subst hsh9; have O9 := Lib.hid o9; have B9 := Lib.hid (B8.out.grown g9 B8.out.size (fun g hg => (World.ownsRow.lt O8.out g hg).1)); clear o9 g9 k9))
                  refine ⟨⟨k + 1, by omega, by go_num, by rw [HD.out], B9.out, a9, q9, by rw [HE.out, HLL.out], by rw [HE.out, HLL.out, HSK.out]; exact O9.out⟩, by simp [intOf]; omega⟩
            · obtain rfl : k = n := by omega
              have hkk : ¬ (k : Int) < (k : Int) := by omega
              have Y5 := Lib.hid (Y4.out.below B5.out Y4.out.lt)
              by_cases hs : sp < k
              · rw [decide_eq_true hs]
                have hA := HAD.out hs
                rw [hA, ← HAM.out, ← HAC.out] at O5
                rw [hA, ← HAM.out]
                clear HAD HAT hA hs HSH
                go_wp2_with ((fail_if_success (with_reducible show bodyPost _ _ _ _ _ _)); first
                | ((with_reducible show wpList _ _ _ (Oper.mk _ (.load _ (.tmp 77)) _ _ _ _ :: _) _ _); refine wpList_load_mid rfl 26 (.tmp 77) rfl w.heap.size 0 rfl PT _ (HRX.out _ X5.out) Try.underlying26 rfl (by rw [P33.out]; exact infoRfC) ?_)
                | ((with_reducible show wpList _ _ _ (Oper.mk (some 80) (.build _ _) _ _ _ _ :: _) _ _); refine wpList_wanted rfl (.agg (PT ++ [Value.slice oa m oq]).toArray) (ex_build rfl (by simp only [List.map_toArray, List.map_cons, List.map_nil]; exact HBC.out _ _ _)) ?_)
                | ((with_reducible show wpList _ _ _ (Oper.mk _ (.store _ (.tmp 4) (.tmp 80)) _ _ _ _ :: _) _ _); refine wpList_store_blk rfl 29 (.tmp 4) (.tmp 80) rfl (w.heap.size + 1) 0 (PT ++ [.slice oa m oq]) rfl rfl 29 Z Y5.out (by rw [PTL.out, Z34.out]; exact Nat.le_refl _) (by rw [PTL.out]; exact infoCtC) (PTO.out _ _ _) ?_; intro w8 b8 g8; rw [splice_all _ _ (by rw [PTL.out, Z34.out])] at b8; have Y8 := Lib.hid b8; have O8 := Lib.hid (World.ownsRow.kept O5.out g8 (ne_res O5.out HSZ.out)); have W8 := Lib.hid (W5.out.grown g8 W5.out.size (fun g hg => by have := Option.some.inj hg; omega)); clear b8 g8))
                refine bodyPost_ret (results_mid2 rfl _ _ (w.heap.size + 1) (PT ++ [.slice oa m oq]) _ rfl Y8.out.range Try.underlying29 rfl (by rw [PTL.out]; exact infoCtC)) rfl ⟨.slice oa m oq, by rw [HPT.out]; rfl, ownT_lower O8.out W4.out.size, W8.out⟩
              · rw [decide_eq_false hs]
                have HOL := Lib.hid (outAt_len (l := l) (x := more) (sp := sp) (k := k) (by rw [← HN.out]; omega))
                have hA := HAT.out (by have := HSL.out; omega)
                have HLM := Lib.hid (show (outAt l more sp k).length + 1 = m by rw [HAM.out, ← hA]; simp)
                have HCM := Lib.hid (show sncs (outAt l more sp k) ++ MC = CS by rw [HAC.out, ← hA, sncs_app, sncs_one, HMC.out])
                obtain ⟨OL, hOL⟩ : ∃ x, x = (outAt l more sp k).length := ⟨_, rfl⟩
                obtain ⟨OC, hOC⟩ : ∃ x, x = sncs (outAt l more sp k) := ⟨_, rfl⟩
                rw [← hOL] at HLM
                rw [← hOC] at HCM
                rw [← hOL, ← hOC] at O5
                rw [← hOL] at HOL
                rw [← hOL]
                clear HAD HAT hA hs HSH hOL hOC
                go_wp2_with ((fail_if_success (with_reducible show bodyPost _ _ _ _ _ _)); first
                | ((with_reducible show wpList _ _ _ (Oper.mk _ (.load _ (.tmp 72)) _ _ _ _ :: _) _ _); refine wpList_load_mid rfl 26 (.tmp 72) rfl w.heap.size 0 rfl PT _ (HRX.out _ X5.out) Try.underlying26 rfl (by rw [P33.out]; exact infoRfC) ?_)
                | ((with_reducible show wpList _ _ _ (Oper.mk (some 74) (.build _ _) _ _ _ _ :: _) _ _); refine wpList_wanted rfl (.agg MC.toArray) (ex_build rfl (by simp only [List.map_toArray, List.map_cons, List.map_nil]; exact HBM.out)) ?_)
                | ((with_reducible show wpList _ _ _ (Oper.mk (some 75) (.buildSlice _ _ _) _ _ _ _ :: _) _ _); refine wpList_oneT rfl (.tmp 74) 27 60 34 56 zsn MC rfl Try.underlying27 infoSn (by decide) (by decide) M34.out rfl ?_; have R6 := Lib.hid (rdT_one wr 60 MC 34 M34.out); have O6 := Lib.hid (owned_below O5.out ((Below.refl wr.heap.size wr).alloc (Nat.le_refl _) (.cells MC.toArray 60))); have B6 := Lib.hid (B5.out.alloc B5.out.size (.cells MC.toArray 60)))
                | ((with_reducible show wpList _ _ _ (Oper.mk (some 76) _ _ _ _ _ :: _) _ _); refine wpList_appTw rfl (.tmp 70) (.tmp 75) 27 60 34 56 zsn rfl Try.underlying27 infoSn rfl (by decide) w4.heap.size (.slice oa OL oq) (.slice (some ⟨wr.heap.size, 0, none⟩) 1 1) OL 1 OC MC rfl rfl O6.out R6.out HM1.out (by have := HOL.out; omega) (by have := HOL.out; omega) B6.out.size ?_; intro v7 w7 o7 g7 k7; obtain ⟨a7, q7, hsh7, _⟩ := (owned_rd o7).shape; subst hsh7; rw [HLM.out, HCM.out] at o7; rw [HLM.out]; have O7 := Lib.hid o7; have B7 := Lib.hid (B6.out.grown g7 B6.out.size (fun g hg => (World.ownsRow.lt O6.out g hg).1)); have W7 := Lib.hid (W4.out.on B7.out); have X7 := Lib.hid (X4.out.below B7.out X4.out.lt); have Y7 := Lib.hid (Y4.out.below B7.out Y4.out.lt); clear o7 g7 k7 c5)
                | ((with_reducible show wpList _ _ _ (Oper.mk _ (.load _ (.tmp 77)) _ _ _ _ :: _) _ _); refine wpList_load_mid rfl 26 (.tmp 77) rfl w.heap.size 0 rfl PT _ (HRX.out _ X7.out) Try.underlying26 rfl (by rw [P33.out]; exact infoRfC) ?_)
                | ((with_reducible show wpList _ _ _ (Oper.mk (some 80) (.build _ _) _ _ _ _ :: _) _ _); refine wpList_wanted rfl (.agg (PT ++ [Value.slice a7 m q7]).toArray) (ex_build rfl (by simp only [List.map_toArray, List.map_cons, List.map_nil]; exact HBC.out _ _ _)) ?_)
                | ((with_reducible show wpList _ _ _ (Oper.mk _ (.store _ (.tmp 4) (.tmp 80)) _ _ _ _ :: _) _ _); refine wpList_store_blk rfl 29 (.tmp 4) (.tmp 80) rfl (w.heap.size + 1) 0 (PT ++ [.slice a7 m q7]) rfl rfl 29 Z Y7.out (by rw [PTL.out, Z34.out]; exact Nat.le_refl _) (by rw [PTL.out]; exact infoCtC) (PTO.out _ _ _) ?_; intro w8 b8 g8; rw [splice_all _ _ (by rw [PTL.out, Z34.out])] at b8; have Y8 := Lib.hid b8; have O8 := Lib.hid (World.ownsRow.kept O7.out g8 (ne_res O7.out HSZ.out)); have W8 := Lib.hid (W7.out.grown g8 W7.out.size (fun g hg => by have := Option.some.inj hg; omega)); clear b8 g8))
                refine bodyPost_ret (results_mid2 rfl _ _ (w.heap.size + 1) (PT ++ [.slice a7 m q7]) _ rfl Y8.out.range Try.underlying29 rfl (by rw [PTL.out]; exact infoCtC)) rfl ⟨.slice a7 m q7, by rw [HPT.out]; rfl, ownT_lower O8.out W4.out.size, W8.out⟩
  · have hX : CT.snap c nm = (CT.zero, CT.check c) := by rw [HX.out, if_pos h0]
    rw [hX]
    obtain ⟨E, hE⟩ : ∃ x, x = CT.check c := ⟨_, rfl⟩
    rw [← hE] at h0 HCK ⊢
    have hE1 : (E == 0) = false := by simpa using h0
    have hE2 : (E != 0) = true := by rw [bne, hE1]; rfl
    clear HX hX hE
    obtain ⟨CS, hCS⟩ : ∃ x, x = sncs c.snaps := ⟨_, rfl⟩
    rw [← hCS] at HCK HPL HV
    obtain ⟨n, hn⟩ : ∃ n, n = c.snaps.length := ⟨_, rfl⟩
    rw [← hn] at HCK HPL HV C1
    clear hL hCS hn hv hc hn1 HL hcap
    go_enter Try.func24, Try.ntmps24
    go_wp2_with ((fail_if_success (with_reducible show bodyPost _ _ _ _ _ _)); first
      | (refine wpList_load_mid rfl 29 (.tmp 2) rfl w.heap.size 0 rfl L _ X1.out.range Try.underlying29 rfl (by rw [L34.out]; exact infoCtC) ?_)
      | (go_at_call 16; (with_reducible refine (HCK.out _ (HV.out.below W1.out)).mono ?_); rintro e w2 ⟨rfl, b2⟩; have W2 := Lib.hid (W1.out.on b2); have X2 := Lib.hid (X1.out.below b2 X1.out.lt); have Y2 := Lib.hid (Y1.out.below b2 Y1.out.lt); clear b2)
      | ((with_reducible show wpList _ _ _ (Oper.mk (some 15) (.build _ _) _ _ _ _ :: _) _ _); refine wpList_wanted rfl (.agg Z.toArray) (ex_buildN rfl hbr) ?_)
      | (refine wpList_store_blk rfl 29 (.tmp 4) (.tmp 15) rfl (w.heap.size + 1) 0 Z rfl rfl 29 Z Y2.out (by rw [Z34.out]; exact Nat.le_refl _) (by rw [Z34.out]; exact infoCtC) ZO.out ?_; intro w5 b5 g5; rw [splice_all _ _ rfl] at b5; have Y5 := Lib.hid b5; have W5 := Lib.hid (W2.out.grown g5 W2.out.size (fun g hg => by have := Option.some.inj hg; omega)); clear b5 g5))
    refine bodyPost_ret (results_mid2 rfl _ _ (w.heap.size + 1) Z _ rfl Y5.out.range Try.underlying29 rfl (by rw [Z34.out]; exact infoCtC)) rfl ⟨.slice none 0 0, by rw [HZ.out]; rfl, owned_none _ _ _ _, W5.out⟩
end Go.Proofs.Ytkagapgganoomaa

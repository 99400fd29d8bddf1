/- What is laid of a catalog: contract of the program. Written by gen_ctput.py. Own work. -/
import Derived.Test.YtkagapgganoomaaCtChP
import Derived.Test.YtkagapgganoomaaCtRef
import Derived.Test.YtkagapgganoomaaTextCalls
import Derived.Deep.DeepCutAuto
namespace Go.Proofs.Ytkagapgganoomaa
open Go.ChangeShapes Go.WideShapes Go.ChangeAt Go.RowKit
open RT CT
theorem own_nilB (w : World) (base : Nat) : Own w base (.slice none 0 0) [] := ⟨World.ownsRow_nil w _ _ _, fun k => by rw [gb_nil]; omega, by simp⟩
theorem ones_le {c : Ct} (hc : CT.Ok c) (hn : ∀ j (hj : j < c.snaps.length), c.snaps[j].name.size ≤ 16) : ∀ k, k ≤ c.snaps.length → (ones (c.snaps.take k)).length ≤ k * 53
  | 0, _ => by simp [ones]
  | k + 1, hk => by
    rw [ones_take (by omega), List.length_append, one_len (hc.snaps _ (List.getElem_mem (by omega)))]
    have := ones_le hc hn k (by omega)
    have := hn k (by omega)
    omega
set_option maxRecDepth 100000 in
set_option maxHeartbeats 8000000 in
theorem cpput_any (c : Ct) (hc : CT.Ok c) (v : Value) (w : World) (hv : RdT 34 w v c.snaps.length (sncs c.snaps)) (hn1 : c.snaps.length ≤ 140737488355328) :
    Calls Try.prog 13 #[.agg (ctc c v).toArray] w fun e w' => ∃ u, e = .returned (.tuple #[u, .int .i64 (CT.check c)]) ∧ Own w' w.heap.size u (CT.put c) ∧ Below w.heap.size w w' := by
  obtain ⟨ra, rq, rfl, -⟩ := hv.shape
  obtain ⟨L, hL⟩ : ∃ L, L = ctc c (.slice ra c.snaps.length rq) := ⟨_, rfl⟩
  have L34 := Lib.hid (show L.length = 34 by rw [hL]; exact ctc_len hc.top _)
  have b1 := Blk.new w 29 L _ rfl
  have X1 := Lib.hid b1
  have W1 := Lib.hid ((Below.refl w.heap.size w).alloc (Nat.le_refl _) (.cells L.toArray 29))
  have C1 := Lib.hid (show L[33]? = some (.slice ra c.snaps.length rq) by rw [hL]; exact ctc_snaps hc.top _)
  have HV := Lib.hid hv
  have HP := Lib.hid hc.snaps
  have HCK := Lib.hid (fun W (h : RdT 34 W (.slice ra c.snaps.length rq) c.snaps.length (sncs c.snaps)) => pccheck_any c hc _ W h hn1)
  rw [← hL] at HCK
  by_cases h0 : CT.check c = 0
  · obtain ⟨h64, hrs, htp⟩ := check_zero.1 h0
    rw [h0] at HCK ⊢
    have HPUT := Lib.hid (show CT.put c = CT.ref c.top ++ [c.snaps.length] ++ ones c.snaps by unfold CT.put CT.lay; rw [if_pos h0]; simp)
    have HNM := Lib.hid (fun k (hk : k < c.snaps.length) => isName_iff.1 (rises_name hrs hk))
    have P33 := Lib.hid (pc_len hc.top)
    have HRX := Lib.hid (fun W (h : Blk W w.heap.size 29 L) => ct_topE h hL)
    have HPR := Lib.hid (fun W => putref_any c.top hc.top W)
    have HRL := Lib.hid (ref_len hc.top)
    have HOT := Lib.hid (fun k (hk : k < c.snaps.length) => ones_take hk)
    have HOL := Lib.hid (fun k (hk : k ≤ c.snaps.length) => (show (ones (c.snaps.take k)).length ≤ k * 53 from ones_le hc (fun j hj => (HNM.out j hj).2.1) k hk))
    rw [← hL]
    obtain ⟨Pc, hPc⟩ : ∃ P, P = pc c.top := ⟨_, rfl⟩
    rw [← hPc] at P33 HRX HPR
    obtain ⟨rt, hrt⟩ : ∃ x, x = CT.ref c.top := ⟨_, rfl⟩
    rw [← hrt] at HPR HPUT HRL
    obtain ⟨PUT, hPUT⟩ : ∃ x, x = CT.put c := ⟨_, rfl⟩
    rw [← hPUT] at HPUT ⊢
    obtain ⟨ps, hps⟩ : ∃ x, x = c.snaps := ⟨_, rfl⟩
    rw [← hps] at HV HP HCK C1 HPUT HNM HOT HOL h64
    obtain ⟨n, hn⟩ : ∃ n, n = ps.length := ⟨_, rfl⟩
    rw [← hn] at HV C1 HCK HPUT HOL h64
    have HN := Lib.hid hn
    clear hL h0 hrs htp hPc hrt hPUT hps hn b1 hv hc hn1
    have hn8 : n < 256 := by omega
    have hw8 : IntKind.u8.wrap (n : Int) = (n : Int) := by rw [IntKind.wrap_u8]; omega
    go_enter Try.func13, Try.ntmps13
    go_upto_region 4 with (first
      | (refine wpList_load_mid rfl 29 (.tmp 1) rfl w.heap.size 0 rfl L _ X1.out.range Try.underlying29 rfl (by rw [L34.out]; exact infoCtC) ?_)
      | (go_at_call 15; (with_reducible refine (HCK.out _ (HV.out.below W1.out)).mono ?_); rintro e w2 ⟨rfl, b2⟩; have W2 := Lib.hid (W1.out.on b2); have X2 := Lib.hid (X1.out.below b2 X1.out.lt); clear b2))
    clear HCK X1 W1
    have HSZ := Lib.hid (show w.heap.size < w2.heap.size from X2.out.lt)
    refine wp_region_g (by kernel_rfl) 9 (by decide) (by kernel_rfl) (by kernel_rfl) (by kernel_rfl) (w2.heap.size) (Nat.le_refl _) [.val (.pointer (some ⟨w.heap.size, 0, none⟩)), .val (.agg Pc.toArray), .own (rt), .val (.pointer (some ⟨w.heap.size, 33, none⟩)), .val (.slice ra n rq), .val (.int .i64 (n : Int)), .val (.int .u8 (n : Int)), .own ([n]), .own (rt ++ [n])] (fun j => if j = 7 then 8 else if j = 2 then 8 else 10) ?_ ?_
    · refine ⟨?_, ?_, ?_, ?_, ?_, ?_, ?_, ?_, ?_, trivial⟩
      · intro a w' hF hB hd
        have e1 : a.eval (.tmp 1) = .pointer (some ⟨w.heap.size, 0, none⟩) := hF 1 (by decide +kernel)
        exact doesG_val rfl (ex_fieldAddr rfl e1 (by go_simp)) rfl rfl
      · intro a w' hF hB hd
        have e15 : a.eval (.tmp 15) = .pointer (some ⟨w.heap.size, 0, none⟩) := hd 0 (by decide +kernel) (.inr (by decide))
        exact doesG_val rfl (ex_load_part 26 (.tmp 15) rfl w.heap.size 0 e15 Pc _ (HRX.out w' (X2.out.below hB X2.out.lt)) Try.underlying26 rfl (by rw [P33.out]; exact infoRfC)) rfl rfl
      · intro a w' hF hB hd
        have e16 : a.eval (.tmp 16) = .agg Pc.toArray := hd 1 (by decide +kernel) (.inr (by decide))
        exact doesG_made rfl (ex_call (vs := #[.agg Pc.toArray]) rfl (by simp only [List.map_toArray, List.map_cons, List.map_nil, e16]) (by go_simp)) ((HPR.out w').mono fun e w2 hh => by obtain ⟨v, he, ho, hb⟩ := hh; exact ⟨v, he, ho.lower hB.size, hb, own_from ho⟩)
      · intro a w' hF hB hd
        have e1 : a.eval (.tmp 1) = .pointer (some ⟨w.heap.size, 0, none⟩) := hF 1 (by decide +kernel)
        exact doesG_val rfl (ex_fieldAddr rfl e1 (by go_simp)) rfl rfl
      · intro a w' hF hB hd
        have e18 : a.eval (.tmp 18) = .pointer (some ⟨w.heap.size, 33, none⟩) := hd 3 (by decide +kernel) (.inr (by decide))
        have cc := (X2.out.below hB X2.out.lt).cell 33 _ C1.out
        exact doesG_val rfl (v := .slice ra n rq) (by unfold execOp; simp only [e18]; go_simp) rfl rfl
      · intro a w' hF hB hd
        have e19 : a.eval (.tmp 19) = .slice ra n rq := hd 4 (by decide +kernel) (.inr (by decide))
        have f19 : a.tmps[19]?.getD undef = .slice ra n rq := by rw [← Array.getD_eq_getD_getElem?]; exact e19
        exact doesG_val rfl (v := .int .i64 (n : Int)) (by unfold execOp; go_simp) rfl rfl
      · intro a w' hF hB hd
        have e20 : a.eval (.tmp 20) = .int .i64 (n : Int) := hd 5 (by decide +kernel) (.inr (by decide))
        exact doesG_val rfl (ex_convert rfl e20 (by go_simp)) rfl rfl
      · intro a w' hF hB hd
        have e21 : a.eval (.tmp 21) = .int .u8 (n : Int) := hd 6 (by decide +kernel) (.inr (by decide))
        exact doesG_byteT rfl 21 n hn8 rfl e21 hB.size (fun _ _ h => h)
      · intro a w' hF hB hd
        have e17 : Own w' w2.heap.size (a.eval (.tmp 17)) (rt) := hd 2 (by decide +kernel) (.inl (by decide))
        have e22 : Own w' w2.heap.size (a.eval (.tmp 22)) ([n]) := hd 7 (by decide +kernel) (.inl (by decide))
        exact doesG_app rfl (.tmp 17) (.tmp 22) rfl 2 (by decide +kernel) rfl rfl _ _ _ _ rfl rfl rfl e17 e22.rd (by rw [HRL.out]; simp) hB.size (fun _ _ h => h)
    · intro vs w4 hb hv hap
      have e8 := hv 8 (by decide) (by decide)
      have O4 := Lib.hid (show Own w4 (w.heap.size + 1) (vs 8) (rt ++ [n]) from Own.lower e8 HSZ.out)
      have W4 := Lib.hid (W2.out.on hb)
      have X4 := Lib.hid (X2.out.below hb X2.out.lt)
      simp only [List.take_succ_cons, List.take_zero, List.drop_succ_cons, List.drop_zero, putOps, Act.put, List.setIfInBounds_toArray, List.set_cons_zero, List.set_cons_succ]
      obtain ⟨ov, hov⟩ : ∃ x, x = vs 8 := ⟨_, rfl⟩
      rw [← hov] at O4 ⊢
      clear hv hap e8 hb hov HPR HRX P33 X2 W2
      have c1 := X4.out.cell 33 _ C1.out
      go_wp2_with fail
      go_loopw [5, 27] (fun x i wr => ∃ k : Nat, k ≤ n ∧ i = .int .i64 (k : Int) ∧ Below w.heap.size w wr ∧ Own wr (w.heap.size + 1) x (rt ++ [n] ++ ones (ps.take k)) ∧ w.heap.size < wr.heap.size) (fun _ i _ => n - (intOf i).toNat)
      case atStart => exact ⟨0, Nat.zero_le _, rfl, W4.out, by rw [List.take_zero]; unfold ones; simpa using O4.out, X4.out.lt⟩
      case round =>
        obtain ⟨k, hk, rfl, hw, ho, hsz⟩ := hrel
        have W5 := Lib.hid hw
        have O5 := Lib.hid ho
        have HS5 := Lib.hid hsz
        clear hw ho hsz W4 O4 X4 c1
        by_cases hlt : k < n
        · have hkp : k < ps.length := by rw [← HN.out]; exact hlt
          have hklt : (k : Int) < (n : Int) := by omega
          have hk0 : (0 : Int) ≤ (k : Int) := by omega
          obtain ⟨pb, po, rfl, hpc, -, -⟩ := sn_range (HV.out.below W5.out) HP.out HN.out hkp
          have PC := Lib.hid hpc
          have PL := Lib.hid (snc_len (HP.out _ (List.getElem_mem hkp)))
          have PT := Lib.hid (HP.out _ (List.getElem_mem hkp))
          have PO := Lib.hid (show (snc ps[k]).toArray.all (·.oneCell') = true by rw [List.all_toArray, List.all_eq_true]; exact snc_one' _)
          have HNK := Lib.hid (HNM.out k hkp)
          have HTX := Lib.hid (fun W => text_short ps[k].name (by have := HNK.out.2.1; omega) W)
          have HPK := Lib.hid (fun W => putref_any ps[k].top PT.out W)
          have P33 := Lib.hid (pc_len PT.out)
          have HOK := Lib.hid (show rt ++ [n] ++ ones (ps.take (k + 1)) = rt ++ [n] ++ ones (ps.take k) ++ (ps[k].name.size :: sb ps[k].name) ++ CT.ref ps[k].top by rw [HOT.out k hkp]; simp [CT.one])
          have HTL := Lib.hid (show (ps[k].name.size :: sb ps[k].name).length ≤ 17 by rw [List.length_cons, sb_len]; have := HNK.out.2.1; omega)
          have HRK := Lib.hid (ref_len PT.out)
          have HLN := Lib.hid (show (rt ++ [n] ++ ones (ps.take k)).length ≤ 37 + 64 * 53 by rw [List.length_append, List.length_append, HRL.out]; have := HOL.out k hk; simp only [List.length_cons, List.length_nil]; omega)
          obtain ⟨OB, hOB⟩ : ∃ x, x = rt ++ [n] ++ ones (ps.take k) := ⟨_, rfl⟩
          rw [← hOB] at O5 HOK HLN
          obtain ⟨s, hs⟩ : ∃ s, s = ps[k] := ⟨_, rfl⟩
          rw [← hs] at PC PL PT PO HTX HPK P33 HOK HTL HRK
          obtain ⟨Tx, hTx⟩ : ∃ x, x = s.name.size :: sb s.name := ⟨_, rfl⟩
          rw [← hTx] at HTX HOK HTL
          obtain ⟨Rf, hRf⟩ : ∃ x, x = CT.ref s.top := ⟨_, rfl⟩
          rw [← hRf] at HPK HOK HRK
          obtain ⟨Pk, hPk⟩ : ∃ x, x = pc s.top := ⟨_, rfl⟩
          rw [← hPk] at HPK P33
          have HSN := Lib.hid (fun (b : Nat) (X : World) (M : List Value) (h : Blk X b 60 M) (q : M = snc s) => sn_name h q)
          have HSR := Lib.hid (fun (b : Nat) (X : World) (M : List Value) (h : Blk X b 60 M) (q : M = snc s) => sn_top h q)
          obtain ⟨nk, hnk⟩ : ∃ x, x = s.name := ⟨_, rfl⟩
          rw [← hnk] at HTX HSN
          rw [← hPk] at HSR
          obtain ⟨Sk, hSk⟩ : ∃ x, x = snc s := ⟨_, rfl⟩
          rw [← hSk] at PC PL PO HSN HSR
          have X5 := Lib.hid (Blk.new wr 60 zsn _ rfl)
          have B5 := Lib.hid ((Below.refl wr.heap.size wr).alloc (Nat.le_refl _) (.cells zsn.toArray 60))
          have Z34 := Lib.hid (show zsn.length = 34 by decide)
          have hz : ∀ w, (zeroValue 60).run Try.prog w = .ok (.agg zsn.toArray) w := zeroSn
          obtain ⟨Zs, hZs⟩ : ∃ x, x = zsn := ⟨_, rfl⟩
          rw [← hZs] at X5 B5 Z34 hz
          clear hpc hOB hs hTx hRf hPk hnk hSk hZs HNK
          go_wp2_with ((fail_if_success (with_reducible show bodyPost _ _ _ _ _ _)); first
            | (refine wpList_load_mid rfl 60 (.tmp 29) rfl pb (po + k * 34) rfl Sk _ PC.out Try.underlying60 rfl (by rw [PL.out]; exact infoSnC) ?_)
            | (refine wpList_store_blk rfl 60 (.tmp 7) (.tmp 30) rfl wr.heap.size 0 Sk rfl rfl 60 Zs X5.out (by rw [PL.out, Z34.out]; exact Nat.le_refl _) (by rw [PL.out]; exact infoSnC) PO.out ?_; intro w6 b6 g6; rw [splice_all _ _ (by rw [PL.out, Z34.out])] at b6; have Y6 := Lib.hid b6; have B6 := Lib.hid (B5.out.grown g6 B5.out.size (fun g hg => Nat.le_of_eq (Option.some.inj hg))); have d0 := HSN.out wr.heap.size w6 Sk b6 rfl; clear b6 g6)
            | (go_at_call 35; (with_reducible refine (HTX.out _).mono ?_); rintro e w7 ⟨v7, rfl, o7, b7⟩; have V7 := Lib.hid o7.rd; have B7 := Lib.hid (B6.out.on b7); have Y7 := Lib.hid (Y6.out.below b7 Y6.out.lt); have O7 := Lib.hid (O5.out.below B7.out); clear o7 b7 d0)
            | (refine wpList_app rfl (.tmp 37) (.tmp 38) rfl (w.heap.size + 1) u5 v7 OB Tx rfl rfl O7.out V7.out (by have := HTL.out; have := HLN.out; omega) (by have := HS5.out; have := B7.out.size; omega) ?_; intro v8 w8 o8 g8 k8; have O8 := Lib.hid o8; have W8 := Lib.hid ((W5.out.on B7.out).grown g8 (W5.out.on B7.out).size (fun g hg => by have := (O7.out.from g hg).1; omega)); have Y8 := Lib.hid (Y7.out.grown g8 (fun e => by have := (O5.out.from _ e.symm).2; omega)); have RP := Lib.hid (HSR.out wr.heap.size w8 Sk Y8.out rfl); have HS8 := Lib.hid (Nat.lt_of_lt_of_le (Nat.lt_of_lt_of_le HS5.out B7.out.size) g8.size); clear o8 g8 k8)
            | (refine wpList_load_mid rfl 26 (.tmp 41) rfl wr.heap.size 1 rfl Pk _ RP.out Try.underlying26 rfl (by rw [P33.out]; exact infoRfC) ?_)
            | (go_at_call 34; (with_reducible refine (HPK.out _).mono ?_); rintro e w9 ⟨v9, rfl, o9, b9⟩; have V9 := Lib.hid o9.rd; have W9 := Lib.hid (W8.out.on b9); have O9 := Lib.hid (O8.out.below b9); have HS9 := Lib.hid (Nat.lt_of_lt_of_le HS8.out b9.size); clear o9 b9)
            | (refine wpList_app rfl (.tmp 40) (.tmp 43) rfl (w.heap.size + 1) v8 v9 (OB ++ Tx) Rf rfl rfl O9.out V9.out (by rw [List.length_append, HRK.out]; have := HTL.out; have := HLN.out; omega) HS9.out ?_; intro va wa oa ga ka; have Oa := Lib.hid oa; have Wa := Lib.hid (W9.out.grown ga W9.out.size (fun g hg => by have := (O9.out.from g hg).1; omega)); have HSa := Lib.hid (Nat.lt_of_lt_of_le HS9.out ga.size); clear oa ga ka))
          refine ⟨⟨va, _, _, _, _, _, _, _, _, _, _, _, _, _, _, _, _, _, _, _, _, _, _, ⟨k + 1, by omega, by go_num, Wa.out, by rw [HOK.out]; exact Oa.out, HSa.out⟩, rfl⟩, by simp [intOf]; omega⟩
        · obtain rfl : k = n := by omega
          have hkk : ¬ (k : Int) < (k : Int) := by omega
          have hO := O5.out
          rw [List.take_of_length_le (by rw [← HN.out]; exact Nat.le_refl _), ← HPUT.out] at hO
          have OF := Lib.hid (hO.lower (b' := w.heap.size) (by omega))
          clear hO
          go_wp2_with fail
          go_ret2
          exact ⟨_, rfl, OF.out, W5.out⟩
  · have HNP := Lib.hid (show CT.put c = [] by unfold CT.put; rw [if_neg h0])
    rw [← hL, HNP.out]
    obtain ⟨E, hE⟩ : ∃ x, x = CT.check c := ⟨_, rfl⟩
    rw [← hE] at h0 HCK ⊢
    have hE1 : (E == 0) = false := by simpa using h0
    have hE2 : (E != 0) = true := by rw [bne, hE1]; rfl
    obtain ⟨n, hn⟩ : ∃ n, n = c.snaps.length := ⟨_, rfl⟩
    rw [← hn] at HCK HV
    clear hL HNP hE hn b1 hv hc hn1 HP C1
    go_enter Try.func13, Try.ntmps13
    go_wp2_with (first
      | (refine wpList_load_mid rfl 29 (.tmp 1) rfl w.heap.size 0 rfl L _ X1.out.range Try.underlying29 rfl (by rw [L34.out]; exact infoCtC) ?_)
      | (go_at_call 15; (with_reducible refine (HCK.out _ (HV.out.below W1.out)).mono ?_); rintro e w2 ⟨rfl, b2⟩; have W2 := Lib.hid (W1.out.on b2); clear b2))
    go_ret2
    exact ⟨_, rfl, own_nilB _ _, W2.out⟩
end Go.Proofs.Ytkagapgganoomaa

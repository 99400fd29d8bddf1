/- What is laid of a catalog: contract of the document's answer. Written by gen_ctput.py. Own work. -/
import Derived.Test.YtkagapgganoomaaCtChP
import Derived.Test.YtkagapgganoomaaCtRef
import Derived.Test.YtkagapgganoomaaTextCalls
import Derived.Test.YtkagapgganoomaaCtPut
import Derived.Deep.DeepCutAuto
namespace Go.Proofs.Ytkagapgganoomaa
open Go.ChangeShapes Go.WideShapes Go.ChangeAt Go.RowKit
open RT CT
set_option maxRecDepth 100000 in
set_option maxHeartbeats 8000000 in
theorem crput_any (c : Ct) (hc : CT.Ok c) (v : Value) (w : World) (hv : RdT 34 w v c.snaps.length (sncs c.snaps)) (_hn1 : c.snaps.length ≤ 140737488355328) :
    Calls Try.prog 14 #[.agg (ctc c v).toArray] w fun e w' => ∃ u, e = .returned (.tuple #[u, .int .i64 (CT.check c)]) ∧ Own w' w.heap.size u (CT.put c) ∧ Below w.heap.size w w' := by
  obtain ⟨ra, rq, rfl, -⟩ := hv.shape
  obtain ⟨L, hL⟩ : ∃ L, L = ctc c (.slice ra c.snaps.length rq) := ⟨_, rfl⟩
  have L34 := Lib.hid (show L.length = 34 by rw [hL]; exact ctc_len hc.top _)
  have b1 := Blk.new w 29 L _ rfl
  have X1 := Lib.hid b1
  have W1 := Lib.hid ((Below.refl w.heap.size w).alloc (Nat.le_refl _) (.cells L.toArray 29))
  have C1 := Lib.hid (show L[33]? = some (.slice ra c.snaps.length rq) by rw [hL]; exact ctc_snaps hc.top _)
  have HV := Lib.hid hv
  have HP := Lib.hid hc.snaps
  have HCK := Lib.hid (fun W (h : RdT 34 W (.slice ra c.snaps.length rq) c.snaps.length (sncs c.snaps)) => rccheck_any c hc _ W h)
  rw [← hL] at HCK
  by_cases h0 : CT.check c = 0
  · obtain ⟨h64, hrs, htp⟩ := check_zero.1 h0
    rw [h0] at HCK ⊢
    have HPUT := Lib.hid (show CT.put c = CT.ref c.top ++ [c.snaps.length] ++ ones c.snaps by unfold CT.put CT.lay; rw [if_pos h0]; simp)
    have HNM := Lib.hid (fun k (hk : k < c.snaps.length) => isName_iff.1 (rises_name hrs hk))
    have P33 := Lib.hid (pc_len hc.top)
    have HRX := Lib.hid (fun W (h : Blk W w.heap.size 29 L) => ct_topE h hL)
    have HPR := Lib.hid (fun W => rputref_any c.top hc.top W)
    have HRL := Lib.hid (ref_len hc.top)
    have HOT := Lib.hid (fun k (hk : k < c.snaps.length) => ones_take hk)
    have HOL := Lib.hid (fun k (hk : k ≤ c.snaps.length) => (show (ones (c.snaps.take k)).length ≤ k * 53 from ones_le hc (fun j hj => (HNM.out j hj).2.1) k hk))
    rw [← hL]
    obtain ⟨Pc, hPc⟩ : ∃ P, P = pc c.top := ⟨_, rfl⟩
    rw [← hPc] at P33 HRX HPR
    obtain ⟨rt, hrt⟩ : ∃ x, x = CT.ref c.top := ⟨_, rfl⟩
    rw [← hrt] at HPR HPUT HRL
    obtain ⟨PUT, hPUT⟩ : ∃ x, x = CT.put c := ⟨_, rfl⟩
    rw [← hPUT] at HPUT ⊢
    obtain ⟨ps, hps⟩ : ∃ x, x = c.snaps := ⟨_, rfl⟩
    rw [← hps] at HV HP HCK C1 HPUT HNM HOT HOL h64
    obtain ⟨n, hn⟩ : ∃ n, n = ps.length := ⟨_, rfl⟩
    rw [← hn] at HV C1 HCK HPUT HOL h64
    have HN := Lib.hid hn
    clear hL h0 hrs htp hPc hrt hPUT hps hn b1 hv hc
    have hn8 : n < 256 := by omega
    have hw8 : IntKind.u8.wrap (n : Int) = (n : Int) := by rw [IntKind.wrap_u8]; omega
    go_enter Try.func14, Try.ntmps14
    go_upto_region 4 with (first
      | (refine wpList_load_mid rfl 29 (.tmp 1) rfl w.heap.size 0 rfl L _ X1.out.range Try.underlying29 rfl (by rw [L34.out]; exact infoCtC) ?_)
      | (go_at_call 16; (with_reducible refine (HCK.out _ (HV.out.below W1.out)).mono ?_); rintro e w2 ⟨rfl, b2⟩; have W2 := Lib.hid (W1.out.on b2); have X2 := Lib.hid (X1.out.below b2 X1.out.lt); clear b2))
    clear HCK X1 W1
    have HSZ := Lib.hid (show w.heap.size < w2.heap.size from X2.out.lt)
    refine wp_region_g (by kernel_rfl) 9 (by decide) (by kernel_rfl) (by kernel_rfl) (by kernel_rfl) (w2.heap.size) (Nat.le_refl _) [.val (.pointer (some ⟨w.heap.size, 0, none⟩)), .val (.agg Pc.toArray), .own (rt), .val (.pointer (some ⟨w.heap.size, 33, none⟩)), .val (.slice ra n rq), .val (.int .i64 (n : Int)), .val (.int .u8 (n : Int)), .own ([n]), .own (rt ++ [n])] (fun j => if j = 7 then 8 else if j = 2 then 8 else 10) ?_ ?_
    · refine ⟨?_, ?_, ?_, ?_, ?_, ?_, ?_, ?_, ?_, trivial⟩
      · intro a w' hF hB hd
        have e1 : a.eval (.tmp 1) = .pointer (some ⟨w.heap.size, 0, none⟩) := hF 1 (by decide +kernel)
        exact doesG_val rfl (ex_fieldAddr rfl e1 (by go_simp)) rfl rfl
      · intro a w' hF hB hd
        have e14 : a.eval (.tmp 14) = .pointer (some ⟨w.heap.size, 0, none⟩) := hd 0 (by decide +kernel) (.inr (by decide))
        exact doesG_val rfl (ex_load_part 26 (.tmp 14) rfl w.heap.size 0 e14 Pc _ (HRX.out w' (X2.out.below hB X2.out.lt)) Try.underlying26 rfl (by rw [P33.out]; exact infoRfC)) rfl rfl
      · intro a w' hF hB hd
        have e15 : a.eval (.tmp 15) = .agg Pc.toArray := hd 1 (by decide +kernel) (.inr (by decide))
        exact doesG_made rfl (ex_call (vs := #[.agg Pc.toArray]) rfl (by simp only [List.map_toArray, List.map_cons, List.map_nil, e15]) (by go_simp)) ((HPR.out w').mono fun e w2 hh => by obtain ⟨v, he, ho, hb⟩ := hh; exact ⟨v, he, ho.lower hB.size, hb, own_from ho⟩)
      · intro a w' hF hB hd
        have e1 : a.eval (.tmp 1) = .pointer (some ⟨w.heap.size, 0, none⟩) := hF 1 (by decide +kernel)
        exact doesG_val rfl (ex_fieldAddr rfl e1 (by go_simp)) rfl rfl
      · intro a w' hF hB hd
        have e17 : a.eval (.tmp 17) = .pointer (some ⟨w.heap.size, 33, none⟩) := hd 3 (by decide +kernel) (.inr (by decide))
        have cc := (X2.out.below hB X2.out.lt).cell 33 _ C1.out
        exact doesG_val rfl (v := .slice ra n rq) (by unfold execOp; simp only [e17]; go_simp) rfl rfl
      · intro a w' hF hB hd
        have e18 : a.eval (.tmp 18) = .slice ra n rq := hd 4 (by decide +kernel) (.inr (by decide))
        have f18 : a.tmps[18]?.getD undef = .slice ra n rq := by rw [← Array.getD_eq_getD_getElem?]; exact e18
        exact doesG_val rfl (v := .int .i64 (n : Int)) (by unfold execOp; go_simp) rfl rfl
      · intro a w' hF hB hd
        have e19 : a.eval (.tmp 19) = .int .i64 (n : Int) := hd 5 (by decide +kernel) (.inr (by decide))
        exact doesG_val rfl (ex_convert rfl e19 (by go_simp)) rfl rfl
      · intro a w' hF hB hd
        have e20 : a.eval (.tmp 20) = .int .u8 (n : Int) := hd 6 (by decide +kernel) (.inr (by decide))
        exact doesG_byteT rfl 20 n hn8 rfl e20 hB.size (fun _ _ h => h)
      · intro a w' hF hB hd
        have e16 : Own w' w2.heap.size (a.eval (.tmp 16)) (rt) := hd 2 (by decide +kernel) (.inl (by decide))
        have e21 : Own w' w2.heap.size (a.eval (.tmp 21)) ([n]) := hd 7 (by decide +kernel) (.inl (by decide))
        exact doesG_app rfl (.tmp 16) (.tmp 21) rfl 2 (by decide +kernel) rfl rfl _ _ _ _ rfl rfl rfl e16 e21.rd (by rw [HRL.out]; simp) hB.size (fun _ _ h => h)
    · intro vs w4 hb hv hap
      have e8 := hv 8 (by decide) (by decide)
      have O4 := Lib.hid (show Own w4 (w.heap.size + 1) (vs 8) (rt ++ [n]) from Own.lower e8 HSZ.out)
      have W4 := Lib.hid (W2.out.on hb)
      have X4 := Lib.hid (X2.out.below hb X2.out.lt)
      simp only [List.take_succ_cons, List.take_zero, List.drop_succ_cons, List.drop_zero, putOps, Act.put, List.setIfInBounds_toArray, List.set_cons_zero, List.set_cons_succ]
      obtain ⟨ov, hov⟩ : ∃ x, x = vs 8 := ⟨_, rfl⟩
      rw [← hov] at O4 ⊢
      clear hv hap e8 hb hov HPR HRX P33 X2 W2
      have c1 := X4.out.cell 33 _ C1.out
      go_wp2_with fail
      go_loopw [5, 6] (fun x i wr => ∃ k : Nat, k ≤ n ∧ i = .int .i64 (k : Int) ∧ Below w.heap.size w wr ∧ Own wr (w.heap.size + 1) x (rt ++ [n] ++ ones (ps.take k)) ∧ Blk wr w.heap.size 29 L) (fun _ i _ => n - (intOf i).toNat)
      case atStart => exact ⟨0, Nat.zero_le _, rfl, W4.out, by rw [List.take_zero]; unfold ones; simpa using O4.out, X4.out⟩
      case round =>
        obtain ⟨k, hk, rfl, hw, ho, hx⟩ := hrel
        have W5 := Lib.hid hw
        have O5 := Lib.hid ho
        have X5 := Lib.hid hx
        have c1 := hx.cell 33 _ C1.out
        clear hw ho hx W4 O4 X4
        by_cases hlt : k < n
        · have hkp : k < ps.length := by rw [← HN.out]; exact hlt
          have hklt : (k : Int) < (n : Int) := by omega
          have hk0 : (0 : Int) ≤ (k : Int) := by omega
          have HLT := Lib.hid (show (k : Int) < (n : Int) ∧ (0 : Int) ≤ (k : Int) from ⟨hklt, hk0⟩)
          obtain ⟨pb, po, rfl, -, hnm, -⟩ := sn_range (HV.out.below W5.out) HP.out HN.out hkp
          have RPd := Lib.hid (fun W (h : Below w.heap.size w W) => show W.rangeAt pb (po + k * 34 + 1) (pc ps[k].top) by
            obtain ⟨b', o', e, -, -, hr⟩ := sn_range (HV.out.below h) HP.out HN.out hkp
            cases e; exact hr)
          have PT := Lib.hid (HP.out _ (List.getElem_mem hkp))
          have HNK := Lib.hid (HNM.out k hkp)
          have HTX := Lib.hid (fun W => rtext_short ps[k].name (by have := HNK.out.2.1; omega) W)
          have HPK := Lib.hid (fun W => rputref_any ps[k].top PT.out W)
          have P33 := Lib.hid (pc_len PT.out)
          have HOK := Lib.hid (show rt ++ [n] ++ ones (ps.take (k + 1)) = rt ++ [n] ++ ones (ps.take k) ++ upTo (fun j => [(ps[k].name.size :: sb ps[k].name), CT.ref ps[k].top].getD j []) 1 by rw [HOT.out k hkp]; simp [CT.one, upTo])
          have HTL := Lib.hid (show (ps[k].name.size :: sb ps[k].name).length ≤ 17 by rw [List.length_cons, sb_len]; have := HNK.out.2.1; omega)
          have HRK := Lib.hid (ref_len PT.out)
          have HLN := Lib.hid (show (rt ++ [n] ++ ones (ps.take k)).length ≤ 37 + 64 * 53 by rw [List.length_append, List.length_append, HRL.out]; have := HOL.out k hk; simp only [List.length_cons, List.length_nil]; omega)
          obtain ⟨OB, hOB⟩ : ∃ x, x = rt ++ [n] ++ ones (ps.take k) := ⟨_, rfl⟩
          rw [← hOB] at O5 HOK HLN
          obtain ⟨s, hs⟩ : ∃ s, s = ps[k] := ⟨_, rfl⟩
          rw [← hs] at RPd PT HTX HPK P33 HTL HRK hnm
          have HOK2 := Lib.hid (show rt ++ [n] ++ ones (ps.take (k + 1)) = OB ++ upTo (fun j => [(s.name.size :: sb s.name), CT.ref s.top].getD j []) 1 by rw [HOK.out, hs])
          clear HOK
          obtain ⟨Tx, hTx⟩ : ∃ x, x = s.name.size :: sb s.name := ⟨_, rfl⟩
          rw [← hTx] at HTX HOK2 HTL
          obtain ⟨Rf, hRf⟩ : ∃ x, x = CT.ref s.top := ⟨_, rfl⟩
          rw [← hRf] at HPK HOK2 HRK
          obtain ⟨Pk, hPk⟩ : ∃ x, x = pc s.top := ⟨_, rfl⟩
          rw [← hPk] at HPK P33 RPd
          obtain ⟨nk, hnk⟩ : ∃ x, x = s.name := ⟨_, rfl⟩
          rw [← hnk] at HTX hnm
          clear hOB hs hTx hRf hPk hnk HNK
          go_upto_region 9 with (go_at_call 37; (with_reducible refine (HTX.out _).mono ?_); rintro e w7 ⟨v7, rfl, o7, b7⟩; have V7 := Lib.hid o7; have W7 := Lib.hid (W5.out.on b7); have X7 := Lib.hid (X5.out.below b7 X5.out.lt); have O7 := Lib.hid (O5.out.below b7); clear o7 b7 c1)
          obtain ⟨ox, hox⟩ : ∃ x, x = u5 := ⟨_, rfl⟩
          rw [← hox] at O5 O7 ⊢
          obtain ⟨wd, hwd⟩ : ∃ x, x = w7.drew := ⟨_, rfl⟩
          have HW1 := Lib.hid hwd
          have OW1 := Lib.hid (show Own wd (w.heap.size + 1) ox OB by rw [hwd]; exact O7.out.drew)
          have XBd := Lib.hid (show Blk wd w.heap.size 29 L by rw [hwd]; exact X7.out.drew)
          have WBd := Lib.hid (show Below w.heap.size w wd by rw [hwd]; exact W7.out.on (Below.refl _ _).drew)
          have V7d := Lib.hid (show Rd wd v7 Tx by rw [hwd]; exact V7.out.rd.drew)
          have HBB := Lib.hid (show w.heap.size + 1 ≤ wd.heap.size from XBd.out.lt)
          have HOLD := Lib.hid (fun g (hg : ox.ownBlock = some g) => (OW1.out.from g hg).2)
          have HNX := Lib.hid (show some w.heap.size ≠ ox.ownBlock from fun e => by have h := (OW1.out.from w.heap.size e.symm).1; omega)
          have HNV := Lib.hid (show v7.ownBlock = none ∨ v7.ownBlock ≠ ox.ownBlock by
            cases e : v7.ownBlock with
            | none => exact .inl rfl
            | some g => exact .inr fun q => by have h1 := (V7.out.from g e).1; have h2 := (O5.out.from g q.symm).2; omega)
          clear hwd
          refine wp_region_w (by kernel_rfl) [2, 9, 10] (by kernel_rfl) (by kernel_rfl) (Chain 2 (fun k => [2, 10].getD k 0) (fun k => [none, some 9].getD k none) (fun k => [Tx, Rf].getD k []) wd (w.heap.size + 1) (ox) (OB)) [.pre (ox), .pre (v7), .of 2 (fun u v => v = u), .pre (.pointer (some ⟨w.heap.size, 33, none⟩)), .pre (.slice (some ⟨pb, po, none⟩) n rq), .pre (.int .i64 (k : Int)), .pre (.pointer (some ⟨pb, po + k * 34, none⟩)), .pre (.pointer (some ⟨pb, po + k * 34 + 1, none⟩)), .pre (.agg Pk.toArray), .of 9 (fun u v => v = u), .of 10 (fun u v => v = u), .of 10 (fun u v => v = u)] (fun i hi hq => by
              simp only [List.mem_cons, List.mem_nil_iff, or_false] at hi
              rcases hi with rfl | rfl | rfl
              · exact absurd hq (by decide +kernel)
              · exact absurd hq (by decide +kernel)
              · exact absurd hq (by decide +kernel)) (Chain.zero (show _ = wd from HW1.out.symm) OW1.out) ?_ ?_
          · refine ⟨?_, ?_, ?_, ?_, ?_, ?_, ?_, ?_, ?_, ?_, ?_, ?_, trivial⟩
            · intro a w5 r hF hI hns hri h1 h2 hd
              have e5 : a.eval (.tmp 5) = ox := hF 5 (by decide +kernel)
              exact doesZ_read (v := ox) (by decide) rfl (ex_move rfl e5) hI rfl
            · intro a w5 r hF hI hns hri h1 h2 hd
              have e7 : a.eval (.tmp 7) = v7 := hF 7 (by decide +kernel)
              exact doesZ_read (v := v7) (by decide) rfl (ex_move rfl e7) hI rfl
            · intro a w5 r hF hI hns hri h1 h2 hd
              have e40 : a.eval (.tmp 40) = ox := hd 0 (by decide +kernel)
              have e41 : a.eval (.tmp 41) = v7 := hd 1 (by decide +kernel)
              have q10 := h1 10 (by decide) (by decide +kernel)
              exact doesZ_app8 (by decide) rfl (.tmp 40) (.tmp 41) rfl (w.heap.size + 1) (ox) (v7) (OB) (Tx) e40 e41 (hI.out0 hri) (V7d.out.grown hI.grow HNV.out) (by have := HTL.out; have := HLN.out; omega) (Nat.le_trans HBB.out hI.grow.size) (fun v' w' o' g' k' => ⟨hI.first (by decide) (by decide) (fun j hj hk => by rcases (show j = 1 by omega) with rfl <;> first | exact q10) HOLD.out o' g' k', _, Told.set_same _ _ _, rfl⟩)
            · intro a w5 r hF hI hns hri h1 h2 hd
              have e1 : a.eval (.tmp 1) = .pointer (some ⟨w.heap.size, 0, none⟩) := hF 1 (by decide +kernel)
              have f1 : a.tmps[1]?.getD undef = .pointer (some ⟨w.heap.size, 0, none⟩) := by rw [← Array.getD_eq_getD_getElem?]; exact e1
              exact doesZ_read (v := .pointer (some ⟨w.heap.size, 33, none⟩)) (by decide) rfl (by unfold execOp; simp only [e1]; go_simp) hI rfl
            · intro a w5 r hF hI hns hri h1 h2 hd
              have e43 : a.eval (.tmp 43) = .pointer (some ⟨w.heap.size, 33, none⟩) := hd 3 (by decide +kernel)
              have f43 : a.tmps[43]?.getD undef = .pointer (some ⟨w.heap.size, 33, none⟩) := by rw [← Array.getD_eq_getD_getElem?]; exact e43
              have cx := (XBd.out.grown hI.grow HNX.out).cell 33 _ C1.out
              exact doesZ_read (v := .slice (some ⟨pb, po, none⟩) n rq) (by decide) rfl (by unfold execOp; simp only [e43]; go_simp) hI rfl
            · intro a w5 r hF hI hns hri h1 h2 hd
              have e6 : a.eval (.tmp 6) = .int .i64 (k : Int) := hF 6 (by decide +kernel)
              exact doesZ_read (v := .int .i64 (k : Int)) (by decide) rfl (ex_move rfl e6) hI rfl
            · intro a w5 r hF hI hns hri h1 h2 hd
              have e44 : a.eval (.tmp 44) = .slice (some ⟨pb, po, none⟩) n rq := hd 4 (by decide +kernel)
              have f44 : a.tmps[44]?.getD undef = .slice (some ⟨pb, po, none⟩) n rq := by rw [← Array.getD_eq_getD_getElem?]; exact e44
              have e45 : a.eval (.tmp 45) = .int .i64 (k : Int) := hd 5 (by decide +kernel)
              have f45 : a.tmps[45]?.getD undef = .int .i64 (k : Int) := by rw [← Array.getD_eq_getD_getElem?]; exact e45
              have hklt : (k : Int) < (n : Int) := HLT.out.1
              have hk0 : (0 : Int) ≤ (k : Int) := HLT.out.2
              exact doesZ_read (v := .pointer (some ⟨pb, po + k * 34, none⟩)) (by decide) rfl (by unfold execOp; simp only [e44, e45]; go_simp) hI rfl
            · intro a w5 r hF hI hns hri h1 h2 hd
              have e46 : a.eval (.tmp 46) = .pointer (some ⟨pb, po + k * 34, none⟩) := hd 6 (by decide +kernel)
              have f46 : a.tmps[46]?.getD undef = .pointer (some ⟨pb, po + k * 34, none⟩) := by rw [← Array.getD_eq_getD_getElem?]; exact e46
              exact doesZ_read (v := .pointer (some ⟨pb, po + k * 34 + 1, none⟩)) (by decide) rfl (by unfold execOp; simp only [e46]; go_simp) hI rfl
            · intro a w5 r hF hI hns hri h1 h2 hd
              have e47 : a.eval (.tmp 47) = .pointer (some ⟨pb, po + k * 34 + 1, none⟩) := hd 7 (by decide +kernel)
              exact doesZ_ld (by decide) rfl 26 (.tmp 47) rfl pb (po + k * 34 + 1) e47 Pk (RPd.out w5 (WBd.out.grown hI.grow WBd.out.size (fun g hg => by have := (OW1.out.from g hg).1; omega))) _ Try.underlying26 rfl (by rw [P33.out]; exact infoRfC) hI rfl
            · intro a w5 r hF hI hns hri h1 h2 hd
              have e48 : a.eval (.tmp 48) = .agg Pk.toArray := hd 8 (by decide +kernel)
              exact doesZ_call (by decide) rfl (ex_call (vs := #[.agg Pk.toArray]) rfl (by simp only [List.map_toArray, List.map_cons, List.map_nil, e48]) (by go_simp)) ((HPK.out w5).mono fun e w6 hh => by obtain ⟨v, he, ho, hb⟩ := hh; exact ⟨v, he, hI.make 1 9 rfl (by decide) (by decide) (by decide) ho hb, v, Told.set_same _ _ _, rfl⟩)
            · intro a w5 r hF hI hns hri h1 h2 hd
              obtain ⟨u42, hu42, e42⟩ : ∃ u, r 2 = some u ∧ a.eval (.tmp 42) = u := hd 2 (by decide +kernel)
              obtain ⟨u49, hu49, e49⟩ : ∃ u, r 9 = some u ∧ a.eval (.tmp 49) = u := hd 9 (by decide +kernel)
              have d2 := h2 2 (by decide) (by decide +kernel)
              exact doesZ_app8 (by decide) rfl (.tmp 42) (.tmp 49) rfl (w.heap.size + 1) u42 (u49) (OB ++ upTo (fun k => [Tx, Rf].getD k []) 0) (Rf) e42 e49 (hI.out 0 (by decide) u42 hu42 (.inr hri)).own ((hI.made 1 9 (by decide) rfl u49 hu49 hri).1) (by simp only [upTo, List.getD_cons_zero, List.length_append, HRK.out]; have := HTL.out; have := HLN.out; omega) (Nat.le_trans HBB.out hI.grow.size) (fun v' w' o' g' k' => ⟨hI.then_ 0 (by decide) (by decide) (by decide) (fun j hj => by rcases (show j = 0 by omega) with rfl <;> first | exact told_ne d2) (fun j hj hk => by rcases (show j = 1 by omega) with rfl <;> first | exact hri) hu42 o' g' k', _, Told.set_same _ _ _, rfl⟩)
            · intro a w5 r hF hI hns hri h1 h2 hd
              obtain ⟨u50, hu50, e50⟩ : ∃ u, r 10 = some u ∧ a.eval (.tmp 50) = u := hd 10 (by decide +kernel)
              exact doesZ_read (by decide) rfl (ex_assign rfl e50) hI ⟨u50, hu50, rfl⟩
          · intro vs rr wz hI hS hvs
            obtain ⟨u, hu⟩ := hS 10 (by decide)
            obtain ⟨uv, huv, e6⟩ : ∃ u, rr 10 = some u ∧ vs 11 = u := hvs 11 (by decide)
            obtain rfl := Option.some.inj (hu.symm.trans huv)
            have G := hI.out 1 (by decide) u hu (.inl rfl)
            have Oz := Lib.hid G.own
            have Xz := Lib.hid (XBd.out.grown G.grow HNX.out)
            have Wz := Lib.hid (WBd.out.grown G.grow WBd.out.size (fun g hg => by have := (OW1.out.from g hg).1; omega))
            clear hI hS hvs hu huv G
            simp only [e6, putOps, Act.put, List.setIfInBounds_toArray, List.set_cons_zero, List.set_cons_succ]
            clear e6
            go_wp2_with fail
            refine ⟨⟨u, _, _, _, _, _, _, _, _, _, _, _, _, _, _, _, _, _, _, _, _, _, _, _, _, _, _, _, _, _, _, _, ⟨k + 1, by omega, by go_num, Wz.out, by rw [HOK2.out]; exact Oz.out, Xz.out⟩, rfl⟩, by simp [intOf]; omega⟩
        · obtain rfl : k = n := by omega
          have hkk : ¬ (k : Int) < (k : Int) := by omega
          have hO := O5.out
          rw [List.take_of_length_le (by rw [← HN.out]; exact Nat.le_refl _), ← HPUT.out] at hO
          have OF := Lib.hid (hO.lower (b' := w.heap.size) (by omega))
          clear hO
          go_wp2_with fail
          go_ret2
          exact ⟨_, rfl, OF.out, W5.out⟩
  · have HNP := Lib.hid (show CT.put c = [] by unfold CT.put; rw [if_neg h0])
    rw [← hL, HNP.out]
    obtain ⟨E, hE⟩ : ∃ x, x = CT.check c := ⟨_, rfl⟩
    rw [← hE] at h0 HCK ⊢
    have hE1 : (E == 0) = false := by simpa using h0
    have hE2 : (E != 0) = true := by rw [bne, hE1]; rfl
    obtain ⟨n, hn⟩ : ∃ n, n = c.snaps.length := ⟨_, rfl⟩
    rw [← hn] at HCK HV
    clear hL HNP hE hn b1 hv hc HP C1
    go_enter Try.func14, Try.ntmps14
    go_wp2_with (first
      | (refine wpList_load_mid rfl 29 (.tmp 1) rfl w.heap.size 0 rfl L _ X1.out.range Try.underlying29 rfl (by rw [L34.out]; exact infoCtC) ?_)
      | (go_at_call 16; (with_reducible refine (HCK.out _ (HV.out.below W1.out)).mono ?_); rintro e w2 ⟨rfl, b2⟩; have W2 := Lib.hid (W1.out.on b2); clear b2))
    go_ret2
    exact ⟨_, rfl, own_nilB _ _, W2.out⟩
end Go.Proofs.Ytkagapgganoomaa

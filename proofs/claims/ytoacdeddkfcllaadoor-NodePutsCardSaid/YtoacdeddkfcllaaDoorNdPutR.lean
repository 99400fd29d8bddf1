/- What the document's answer lays of a node: contract. Written by gen_ndput.py. Work ahead for stage 15. Own work. -/
import Derived.Test.YtoacdeddkfcllaaDoorNdM
import Derived.Test.YtoacdeddkfcllaaDoorChain
import Derived.Test.YtoacdeddkfcllaaDoorRdPart
import Derived.Test.YtoacdeddkfcllaaDoorFactsW
import Derived.Test.YtoacdeddkfcllaaDoorAppFull
import Derived.Test.YtoacdeddkfcllaaDoorOct
import Derived.Deep.DeepCutAuto
namespace Go.Proofs.YtoacdeddkfcllaaDoor
open Go.ChangeShapes Go.WideShapes Go.ChangeAt Go.RowKit
open RT
set_option maxRecDepth 100000 in
set_option maxHeartbeats 4000000 in
theorem nrput_any (ns : List Pg) (hn : ND.Nok ns) (w : World) : Calls Tryd.prog 9 #[.agg (pcs ns).toArray] w fun e w' => ∃ v, e = .returned v ∧ Own w' w.heap.size v (ones ns) ∧ Below w.heap.size w w' := by
  obtain ⟨L, hL⟩ : ∃ L, L = pcs ns := ⟨_, rfl⟩
  have W1 := Lib.hid ((Below.refl w.heap.size w).alloc (Nat.le_refl _) (.cells L.toArray 28))
  have X1 := Lib.hid (Blk.new w 28 L _ rfl)
  have HLC := Lib.hid (fun k (hk : k < ns.length) => (show L[k * 33]? = some (.int .u32 (ns[k].at_ : Int)) by rw [hL]; exact ND.pcs_at hn.ok hk))
  have HLS := Lib.hid (fun k (hk : k < ns.length) => (show (L.drop (k * 33 + 1)).take 32 = row8 ns[k].sum by rw [hL]; exact ND.pcs_sum hn.ok hk))
  have HOL := Lib.hid (fun k (hk : k ≤ ns.length) => (show (ones (ns.take k)).length = k * 36 by rw [ones_len (fun p hp => hn.ok p (List.mem_of_mem_take hp)), List.length_take, Nat.min_eq_left hk]))
  have HPK := Lib.hid hn.ok
  have H8 := Lib.hid hn.len
  rw [← hL]
  clear hL hn
  go_enter Tryd.func9, Tryd.ntmps9
  go_wp2_with fail
  have O1 := Lib.hid (show Own (w.alloc (.cells L.toArray 28)) (w.heap.size + 1) (.slice none 0 0) (ones (ns.take 0)) from ⟨World.ownsRow_nil _ _ _ _, fun k => by rw [show ones (ns.take 0) = [] from rfl, gb_nil]; omega, by rw [show ones (ns.take 0) = [] from rfl]; simp⟩)
  go_loopw [3, 4] (fun x i wr => ∃ k : Nat, k ≤ 8 ∧ i = .int .i64 (k : Int) ∧ Own wr (w.heap.size + 1) x (ones (ns.take k)) ∧ Blk wr w.heap.size 28 L ∧ Below w.heap.size w wr) (fun _ i _ => 8 - (intOf i).toNat)
  case atStart => exact ⟨0, by decide, rfl, O1.out, X1.out, W1.out⟩
  case round =>
    clear O1 X1 W1
    obtain ⟨k, hk, rfl, ho, hx, hw⟩ := hrel
    have O7 := Lib.hid ho
    have X7 := Lib.hid hx
    have W7 := Lib.hid hw
    have hlk : (ones (ns.take k)).length = k * 36 := HOL.out k (by rw [H8.out]; exact hk)
    have HLK := Lib.hid hlk
    clear ho hx hw
    obtain ⟨oa7, oc7, hsh7, _⟩ := O7.out.rd.shape
    rw [hlk] at hsh7
    subst hsh7
    by_cases hlt : k < 8
    · have hkp : k < ns.length := by rw [H8.out]; exact hlt
      obtain ⟨l7, hl7⟩ : ∃ l, l = ones (ns.take k) := ⟨_, rfl⟩
      rw [← hl7] at O7 HLK
      have HBS := Lib.hid (HPK.out ns[k] (List.getElem_mem hkp)).2
      have hat := (HPK.out ns[k] (List.getElem_mem hkp)).1
      have HCX := Lib.hid (HLC.out k hkp)
      have HCS := Lib.hid (HLS.out k hkp)
      have HST := Lib.hid (show ones (ns.take (k + 1)) = l7 ++ (be ns[k].at_ 4 ++ ns[k].sum) by rw [ones_take hkp, hl7]; rfl)
      obtain ⟨x, hx⟩ : ∃ x, x = ns[k].at_ := ⟨_, rfl⟩
      obtain ⟨sm, hsm⟩ : ∃ x, x = ns[k].sum := ⟨_, rfl⟩
      rw [← hx] at HCX HST hat
      rw [← hsm] at HBS HCS HST
      have HN4 := Lib.hid (fun W => (show Calls Tryd.prog 24 #[.int .u64 (x : Int), .int .i64 4] W fun e w' => ∃ v, e = .returned v ∧ Own w' W.heap.size v (be x 4) ∧ Below W.heap.size W w' from rput_any x 4 (by omega) (by decide) W))
      have ax : IntKind.u64.wrap (x : Int) = (x : Int) := by rw [IntKind.wrap_u64]; omega
      have hklt : (k : Int) < 8 := by omega
      have hk0 : (0 : Int) ≤ (k : Int) := by omega
      have hkt : ((k : Int)).toNat = k := Int.toNat_natCast k
      clear hl7 hx hsm hlk HLC HLS
      go_upto_region 5 with fail
      obtain ⟨wc, hwc⟩ : ∃ x, x = wr.drew := ⟨_, rfl⟩
      have HW1c := Lib.hid hwc
      have OW1c := Lib.hid (show Own wc (w.heap.size + 1) (.slice oa7 (k * 36) oc7) (l7) by rw [hwc]; exact O7.out.drew)
      have XBc := Lib.hid (show Blk wc w.heap.size 28 L by rw [hwc]; exact X7.out.drew)
      have WBc := Lib.hid (show Below w.heap.size w wc by rw [hwc]; exact W7.out.on (Below.refl _ _).drew)
      have HBBc := Lib.hid (show w.heap.size + 1 ≤ wc.heap.size by have := XBc.out.lt; omega)
      have HOLDc := Lib.hid (fun g (hg : (.slice oa7 (k * 36) oc7 : Value).ownBlock = some g) => (OW1c.out.from g hg).2)
      have HNXc := Lib.hid (show some w.heap.size ≠ (.slice oa7 (k * 36) oc7 : Value).ownBlock from fun e => by
        have h := (OW1c.out.from w.heap.size e.symm).1
        omega)
      clear hwc
      refine wp_region_w (by kernel_rfl) [6, 7, 12] (by kernel_rfl) (by kernel_rfl) (Chain 2 (fun k => [7, 12].getD k 0) (fun k => [some 6, none].getD k none) (fun k => [be x 4, sm].getD k []) wc (w.heap.size + 1) (.slice oa7 (k * 36) oc7) (l7)) [.pre (.slice oa7 (k * 36) oc7), .pre (.int .i64 (k : Int)), .pre (.pointer (some ⟨w.heap.size, k * 33, none⟩)), .pre (.pointer (some ⟨w.heap.size, k * 33, none⟩)), .pre (.int .u32 (x : Int)), .pre (.int .u64 (x : Int)), .of 6 (fun u v => v = u), .of 7 (fun u v => v = u), .pre (.int .i64 (k : Int)), .pre (.pointer (some ⟨w.heap.size, k * 33, none⟩)), .pre (.pointer (some ⟨w.heap.size, k * 33 + 1, none⟩)), .pre (.slice (some ⟨w.heap.size, k * 33 + 1, none⟩) 32 32), .of 12 (fun u v => v = u), .of 12 (fun u v => v = u)] (fun i hi hq => by
          simp only [List.mem_cons, List.mem_nil_iff, or_false] at hi
          rcases hi with rfl | rfl | rfl
          · exact absurd hq (by decide +kernel)
          · exact absurd hq (by decide +kernel)
          · exact absurd hq (by decide +kernel)) (Chain.zero (show _ = wc from HW1c.out.symm) OW1c.out) ?_ ?_
      · refine ⟨?_, ?_, ?_, ?_, ?_, ?_, ?_, ?_, ?_, ?_, ?_, ?_, ?_, ?_, trivial⟩
        · intro a w5 r hF hI hns hri h1 h2 hd
          have e3 : a.eval (.tmp 3) = .slice oa7 (k * 36) oc7 := hF 3 (by decide +kernel)
          exact doesZ_read (v := .slice oa7 (k * 36) oc7) (by decide) rfl (ex_move rfl e3) hI rfl
        · intro a w5 r hF hI hns hri h1 h2 hd
          have e4 : a.eval (.tmp 4) = .int .i64 (k : Int) := hF 4 (by decide +kernel)
          exact doesZ_read (v := .int .i64 (k : Int)) (by decide) rfl (ex_move rfl e4) hI rfl
        · intro a w5 r hF hI hns hri h1 h2 hd
          have e1 : a.eval (.tmp 1) = .pointer (some ⟨w.heap.size, 0, none⟩) := hF 1 (by decide +kernel)
          have f1 : a.tmps[1]?.getD undef = .pointer (some ⟨w.heap.size, 0, none⟩) := by rw [← Array.getD_eq_getD_getElem?]; exact e1
          have e10 : a.eval (.tmp 10) = .int .i64 (k : Int) := hd 1 (by decide +kernel)
          have f10 : a.tmps[10]?.getD undef = .int .i64 (k : Int) := by rw [← Array.getD_eq_getD_getElem?]; exact e10
          exact doesZ_read (v := .pointer (some ⟨w.heap.size, k * 33, none⟩)) (by decide) rfl (by unfold execOp; simp only [e1, e10]; go_simp) hI rfl
        · intro a w5 r hF hI hns hri h1 h2 hd
          have e11 : a.eval (.tmp 11) = .pointer (some ⟨w.heap.size, k * 33, none⟩) := hd 2 (by decide +kernel)
          have f11 : a.tmps[11]?.getD undef = .pointer (some ⟨w.heap.size, k * 33, none⟩) := by rw [← Array.getD_eq_getD_getElem?]; exact e11
          exact doesZ_read (v := .pointer (some ⟨w.heap.size, k * 33, none⟩)) (by decide) rfl (by unfold execOp; simp only [e11]; go_simp) hI rfl
        · intro a w5 r hF hI hns hri h1 h2 hd
          have e12 : a.eval (.tmp 12) = .pointer (some ⟨w.heap.size, k * 33, none⟩) := hd 3 (by decide +kernel)
          have f12 : a.tmps[12]?.getD undef = .pointer (some ⟨w.heap.size, k * 33, none⟩) := by rw [← Array.getD_eq_getD_getElem?]; exact e12
          have cx := (XBc.out.grown hI.grow HNXc.out).cell (k * 33) _ HCX.out
          exact doesZ_read (v := .int .u32 (x : Int)) (by decide) rfl (by unfold execOp; simp only [e12]; go_simp) hI rfl
        · intro a w5 r hF hI hns hri h1 h2 hd
          have e13 : a.eval (.tmp 13) = .int .u32 (x : Int) := hd 4 (by decide +kernel)
          exact doesZ_read (v := .int .u64 (x : Int)) (by decide) rfl (ex_convert rfl e13 (by go_simp)) hI rfl
        · intro a w5 r hF hI hns hri h1 h2 hd
          have e14 : a.eval (.tmp 14) = .int .u64 (x : Int) := hd 5 (by decide +kernel)
          exact doesZ_call (by decide) rfl (ex_call (vs := #[.int .u64 (x : Int), .int .i64 4]) rfl (by simp only [List.map_toArray, List.map_cons, List.map_nil, e14]; rfl) (by go_simp)) ((HN4.out w5).mono fun e w6 hh => by obtain ⟨v, he, ho, hb⟩ := hh; exact ⟨v, he, hI.make 0 6 rfl (by decide) (by decide) (by decide) ho hb, v, Told.set_same _ _ _, rfl⟩)
        · intro a w5 r hF hI hns hri h1 h2 hd
          have e9 : a.eval (.tmp 9) = .slice oa7 (k * 36) oc7 := hd 0 (by decide +kernel)
          obtain ⟨u15, hu15, e15⟩ : ∃ u, r 6 = some u ∧ a.eval (.tmp 15) = u := hd 6 (by decide +kernel)
          have q12 := h1 12 (by decide) (by decide +kernel)
          exact doesZ_app8 (by decide) rfl (.tmp 9) (.tmp 15) rfl (w.heap.size + 1) (.slice oa7 (k * 36) oc7) (u15) (l7) (be x 4) e9 e15 (hI.out0 hri) ((hI.made 0 6 (by decide) rfl u15 hu15 hri).1) (by rw [HLK.out, be_len]; omega) (Nat.le_trans HBBc.out hI.grow.size) (fun v' w' o' g' k' => ⟨hI.first (by decide) (by decide) (fun j hj hk => by rcases (show j = 1 by omega) with rfl <;> first | exact q12) HOLDc.out o' g' k', _, Told.set_same _ _ _, rfl⟩)
        · intro a w5 r hF hI hns hri h1 h2 hd
          have e4 : a.eval (.tmp 4) = .int .i64 (k : Int) := hF 4 (by decide +kernel)
          exact doesZ_read (v := .int .i64 (k : Int)) (by decide) rfl (ex_move rfl e4) hI rfl
        · intro a w5 r hF hI hns hri h1 h2 hd
          have e1 : a.eval (.tmp 1) = .pointer (some ⟨w.heap.size, 0, none⟩) := hF 1 (by decide +kernel)
          have f1 : a.tmps[1]?.getD undef = .pointer (some ⟨w.heap.size, 0, none⟩) := by rw [← Array.getD_eq_getD_getElem?]; exact e1
          have e17 : a.eval (.tmp 17) = .int .i64 (k : Int) := hd 8 (by decide +kernel)
          have f17 : a.tmps[17]?.getD undef = .int .i64 (k : Int) := by rw [← Array.getD_eq_getD_getElem?]; exact e17
          exact doesZ_read (v := .pointer (some ⟨w.heap.size, k * 33, none⟩)) (by decide) rfl (by unfold execOp; simp only [e1, e17]; go_simp) hI rfl
        · intro a w5 r hF hI hns hri h1 h2 hd
          have e18 : a.eval (.tmp 18) = .pointer (some ⟨w.heap.size, k * 33, none⟩) := hd 9 (by decide +kernel)
          have f18 : a.tmps[18]?.getD undef = .pointer (some ⟨w.heap.size, k * 33, none⟩) := by rw [← Array.getD_eq_getD_getElem?]; exact e18
          exact doesZ_read (v := .pointer (some ⟨w.heap.size, k * 33 + 1, none⟩)) (by decide) rfl (by unfold execOp; simp only [e18]; go_simp) hI rfl
        · intro a w5 r hF hI hns hri h1 h2 hd
          have e19 : a.eval (.tmp 19) = .pointer (some ⟨w.heap.size, k * 33 + 1, none⟩) := hd 10 (by decide +kernel)
          have f19 : a.tmps[19]?.getD undef = .pointer (some ⟨w.heap.size, k * 33 + 1, none⟩) := by rw [← Array.getD_eq_getD_getElem?]; exact e19
          exact doesZ_read (v := .slice (some ⟨w.heap.size, k * 33 + 1, none⟩) 32 32) (by decide) rfl (by unfold execOp; simp only [e19]; go_simp) hI rfl
        · intro a w5 r hF hI hns hri h1 h2 hd
          obtain ⟨u16, hu16, e16⟩ : ∃ u, r 7 = some u ∧ a.eval (.tmp 16) = u := hd 7 (by decide +kernel)
          have e20 : a.eval (.tmp 20) = .slice (some ⟨w.heap.size, k * 33 + 1, none⟩) 32 32 := hd 11 (by decide +kernel)
          have d7 := h2 7 (by decide) (by decide +kernel)
          exact doesZ_app8 (by decide) rfl (.tmp 16) (.tmp 20) rfl (w.heap.size + 1) u16 (.slice (some ⟨w.heap.size, k * 33 + 1, none⟩) 32 32) (l7 ++ upTo (fun k => [be x 4, sm].getD k []) 0) (sm) e16 e20 (hI.out 0 (by decide) u16 hu16 (.inr hri)).own (rd_part (XBc.out.grown hI.grow HNXc.out) HBS.out HCS.out (by decide)) (by simp only [upTo, List.length_append, HLK.out, HBS.out.1]; simp [be_len]; omega) (Nat.le_trans HBBc.out hI.grow.size) (fun v' w' o' g' k' => ⟨hI.then_ 0 (by decide) (by decide) (by decide) (fun j hj => by rcases (show j = 0 by omega) with rfl <;> first | exact told_ne d7) (fun j hj hk => by rcases (show j = 1 by omega) with rfl <;> first | exact hri) hu16 o' g' k', _, Told.set_same _ _ _, rfl⟩)
        · intro a w5 r hF hI hns hri h1 h2 hd
          obtain ⟨u21, hu21, e21⟩ : ∃ u, r 12 = some u ∧ a.eval (.tmp 21) = u := hd 12 (by decide +kernel)
          exact doesZ_read (by decide) rfl (ex_assign rfl e21) hI ⟨u21, hu21, rfl⟩
      · intro vs rr w8 hI hS hvs
        obtain ⟨u, hu⟩ := hS 12 (by decide)
        obtain ⟨uv, huv, e6⟩ : ∃ u, rr 12 = some u ∧ vs 13 = u := hvs 13 (by decide)
        obtain rfl := Option.some.inj (hu.symm.trans huv)
        have G := hI.out 1 (by decide) u hu (.inl rfl)
        have O8 := Lib.hid G.own
        have X8 := Lib.hid (XBc.out.grown G.grow HNXc.out)
        have W8 := Lib.hid (WBc.out.grown G.grow WBc.out.size (fun g hg => by have := (OW1c.out.from g hg).1; omega))
        clear hI hS hvs hu huv G XBc WBc HOLDc HNXc HBBc OW1c HW1c
        have hl8 : l7 ++ upTo (fun k => [be x 4, sm].getD k []) 1 = ones (ns.take (k + 1)) := by rw [HST.out]; simp [upTo]
        rw [hl8] at O8
        simp only [putOps, Act.put, List.setIfInBounds_toArray, List.set_cons_zero, List.set_cons_succ, e6]
        clear e6 hl8
        go_wp2_with fail
        exact ⟨⟨k + 1, by omega, by go_num, O8.out, X8.out, W8.out⟩, by simp [intOf]; omega⟩
    · obtain rfl : k = 8 := by omega
      have hraw : ones (ns.take 8) = ones ns := by rw [List.take_of_length_le (by rw [H8.out]; exact Nat.le_refl _)]
      rw [hraw] at O7
      clear hraw hlk HLK
      go_wp2_with fail
      go_ret
      exact ⟨_, rfl, O7.out.lower (by omega), W7.out⟩
end Go.Proofs.YtoacdeddkfcllaaDoor

/- ShaWrites: bytes that are written in any pieces have, behind each one, the sum and the length that the document says; and the law's closed case holds. The second form: what comes in is of bulk at most 1048576; the document's table and the program's hold their constants when the call begins. -/
import Derived.Test.YtaephclooajabaaDoorRows
import Derived.Test.YtaephclooajabaaDoorShaTwo
import Derived.Test.YtaephclooajabaaDoorDoorB
import Derived.Test.YtaephclooajabaaDoorTie
import Derived.Test.YtaephclooajabaaDoorCards
import Derived.SevenTiedAt
import Derived.Test.YtaephclooajabaaDoorBulk
import Derived.WalkKit
import Derived.ProofKit
import Derived.OpenShut
import Derived.SizedLaws
import Derived.Carry
import Derived.Deep.DeepHandedRow
import Derived.Deep.DeepWitnessRowRef
namespace Go.Proofs.YtaephclooajabaaDoor.shaWritesUpto
open Go.ChangeShapes Go.WideShapes Go.ChangeAt Go.RowKit

theorem own : ownKnob Tryd.prog.godebug = none := by kernel_rfl
set_option linter.unusedVariables false in
set_option maxHeartbeats 2000000 in
set_option maxRecDepth 100000 in
theorem walk (w : World) (ht : Tab w ∧ TabP w) (v0 : Value) (l0 : List (List Nat)) (h0 : Rds w v0 l0) (k0 : l0.flatten.length ≤ 1048576) :
    Calls Tryd.prog 4 #[v0] w fun e w' => e = .returned (.bool true) ∧ Below w.heap.size w w' := by
  obtain ⟨ao, cap, rfl, hcap⟩ := h0.shape
  have HFI := h0.fits
  have HV := Lib.hid h0
  have HTT := Lib.hid ht.1
  have HT := Lib.hid ht.2
  have HK := Lib.hid ht.2.lt
  clear h0 ht
  go_enter Tryd.func4, Tryd.ntmps4
  go_wp2_with (go_at_call 14; refine (new_ex _).mono ?_; rintro e w1 ⟨h, hh, rfl, h1, b1⟩; have HH := Lib.hid hh; have B1 := Lib.hid b1; have H1 := Lib.hid h1; clear h1 b1 hh)
  go_loopw [4, 5] (fun al i wr => ∃ k : Nat, k ≤ l0.length ∧ i = .int .i64 (k : Int) ∧ Own wr w.heap.size al (l0.take k).flatten ∧ al.ownBlock ≠ some h ∧ Hs wr h (l0.take k).flatten ∧ Below w.heap.size w wr) (fun _ i _ => l0.length - (intOf i).toNat)
  case atStart => exact ⟨0, Nat.zero_le _, rfl, (own_nil' w).below B1.out, by simp [Value.ownBlock], H1.out, B1.out⟩
  case round =>
    clear B1 H1
    obtain ⟨k, hk, rfl, ho, hne, hs, bb⟩ := hrel
    have hlen : (l0.take k).flatten.length ≤ 1048576 := Nat.le_trans (flat_le l0 k) k0
    obtain ⟨aa, ca, rfl, hca⟩ := ho.rd.shape
    by_cases hlt : k < l0.length
    · obtain ⟨ad, x, rfl, hc, hr⟩ := (HV.out.below bb).at_ k hlt
      obtain ⟨_, x', e1, hc', hr'⟩ := HV.out.at_ k hlt
      cases e1
      have hxx : x' = x := Option.some.inj ((cell_below hc' bb).symm.trans hc)
      subst hxx
      obtain ⟨pt, hpt⟩ : ∃ pt, pt = l0[k] := ⟨_, rfl⟩
      have hft := flat_take l0 k hlt
      rw [← hpt] at hr hr' hft
      have hle2 := flat_le l0 (k + 1)
      rw [← hft, List.length_append] at hle2
      obtain ⟨P, hP⟩ : ∃ P, P = (l0.take k).flatten := ⟨_, rfl⟩
      rw [← hP] at ho hs hft hle2 hlen hca hne ⊢
      have hpl : pt.length ≤ 1048576 := by omega
      have hpl2 : P.length + pt.length ≤ 1048576 := by omega
      obtain ⟨B, hB⟩ : ∃ B, B = wr.heap.size := ⟨_, rfl⟩
      have HBB := Lib.hid hB
      have E0 := Lib.hid (show Own (wr.alloc (.cells #[] 5)) wr.heap.size (.slice (some ⟨wr.heap.size, 0, none⟩) 0 0) [] from own_empty wr rfl (Nat.le_refl _))
      have HO := Lib.hid ho
      have HS := Lib.hid hs
      have BB := Lib.hid bb
      have HR' := Lib.hid hr'
      have HNE := Lib.hid hne
      have HFT := Lib.hid hft
      have HCELL := Lib.hid hc'
      have c1 := cell_below hc' (bb.alloc bb.size (.cells #[] 5))
      clear ho hs bb hr' hr hne hft hc hc' hP hpt hle2
      go_upto_region 9 with (at_builtin; refine wpList_app rfl (.tmp 17) (.tmp 21) rfl wr.heap.size (.slice (some ⟨wr.heap.size, 0, none⟩) 0 0) x' [] pt rfl rfl E0.out (HR'.out.below (BB.out.alloc BB.out.size _)) (by simp; omega) (by simp) ?_; intro v2 w2 ho2 hg2 hk2; rw [List.nil_append] at ho2; have O2 := Lib.hid ho2; have G2 := Lib.hid hg2; clear ho2 hg2 hk2)
      have bb2 : Below w.heap.size w w2 := (BB.out.alloc BB.out.size _).grown G2.out (by have := BB.out.size; simp; omega) (fun k hk => by have : wr.heap.size = k := Option.some.inj hk; have := BB.out.size; omega)
      have hlt2 := HS.out.lt
      have hs2 : Hs w2 h P := (HS.out.alloc _).grown G2.out (fun q => by have : h = wr.heap.size := Option.some.inj q; omega)
      have hal : ∀ b, (Value.slice aa P.length ca).ownBlock = some b → b < B := fun b hb => by rw [hB]; exact (HO.out.from b hb).2
      have ho2 : Own w2 w.heap.size (.slice aa P.length ca) P := (HO.out.alloc _).keep G2.out (.inr fun q => by have := hal wr.heap.size q; omega)
      obtain ⟨a2, c2, rfl, hc2⟩ := O2.out.rd.shape
      have hn2 : (Value.slice a2 pt.length c2).ownBlock ≠ some h := fun q => by have := (O2.out.from _ q).1; omega
      have hW := write_any h P pt (.slice a2 pt.length c2) w2 O2.out.rd (fun _ => hn2) hs2 (HT.out.below bb2) (by have := HH.out; have := HK.out; omega) (by omega)
      have HW := Lib.hid hW
      have BB2 := Lib.hid bb2
      have HO2 := Lib.hid ho2
      have HN2 := Lib.hid hn2
      have HAL := Lib.hid hal
      have HB2 := Lib.hid (show h < B by omega)
      have O2' := Lib.hid (show Own w2 B (.slice a2 pt.length c2) pt by rw [hB]; exact O2.out)
      clear bb2 hs2 hal ho2 hn2 hW hB hlt2 c1 E0 O2 G2 HO HS BB HBB
      go_wp2_with (go_at_call 15; refine HW.out.mono ?_; rintro e w3 ⟨rfl, h3, g3⟩; have H3 := Lib.hid h3; have BB3 := Lib.hid (BB2.out.grown g3 BB2.out.size (fun k hk => by have := Option.some.inj hk; have := HH.out; omega)); have O3 := Lib.hid (O2'.out.keep g3 (.inr HN2.out)); have A3 := Lib.hid (HO2.out.keep g3 (.inr HNE.out)); clear h3 g3)
      go_loopw [7] (fun x wq => ∃ j : Nat, j ≤ pt.length ∧ x = .int .i64 (j : Int) ∧ (∃ p', p'.length = pt.length ∧ Own wq B (.slice a2 pt.length c2) p') ∧ Own wq w.heap.size (.slice aa P.length ca) P ∧ Hs wq h (P ++ pt) ∧ Below w.heap.size w wq) (fun x _ => pt.length - (intOf x).toNat)
      case atStart => exact ⟨0, Nat.zero_le _, rfl, ⟨pt, rfl, O3.out⟩, A3.out, H3.out, BB3.out⟩
      case round =>
        clear H3 BB3 O3 A3 HW BB2 HO2 O2'
        obtain ⟨j, hj, rfl, ⟨p', hp', o3⟩, a3, h3, bb3⟩ := hrel
        by_cases hjt : j < pt.length
        · obtain ⟨g, hg⟩ : ∃ g, a2 = some ⟨g, 0, none⟩ ∧ B ≤ g := by
            rcases o3.1.2 with ⟨e, q⟩ | ⟨g, cap', cur, e, hge, _⟩
            · injection e with _ e _; omega
            · injection e with e _ _; exact ⟨g, e, hge⟩
          obtain ⟨rfl, hgB⟩ := hg
          have cj := o3.cell hp'.symm j (by omega)
          have fj := o3.free hp'.symm j
          have bj := o3.2.1 j
          have O3 := Lib.hid o3
          have A3 := Lib.hid a3
          have H3 := Lib.hid h3
          have BB3 := Lib.hid bb3
          have HP' := Lib.hid hp'
          clear o3 a3 h3 bb3
          go_wp2_with fail
          have hval : (((gb p' j : Nat) : Int) + 1) % 256 = (((gb p' j + 1) % 256 : Nat) : Int) := by omega
          rw [hval]
          have gq := only_set (World.grownBy.refl wr (some g)) (p := ⟨g, j, none⟩) (.inl rfl) (.int .u8 (((gb p' j + 1) % 256 : Nat) : Int))
          refine ⟨⟨j + 1, by omega, by go_num, ⟨p'.set j ((gb p' j + 1) % 256), by rw [List.length_set]; exact hp', ?_⟩, A3.out.keep gq (.inr fun q => by have := HAL.out _ q; omega), H3.out.grown gq (fun q => by have := Option.some.inj q; have := HB2.out; omega), BB3.out.setCell (by have := HB2.out; have := HH.out; simp; omega) _⟩, by simp [intOf]; omega⟩
          have hset : Own wr B (.slice (some ⟨g, 0, none⟩) p'.length c2) p' := by rw [hp']; exact O3.out
          have h4 := hset.set j ((gb p' j + 1) % 256) (Nat.mod_lt _ (by omega)) (by omega)
          rw [hp'] at h4
          exact h4
        · obtain rfl : j = pt.length := by omega
          obtain ⟨Q, hQ⟩ : ∃ Q, Q = P ++ pt := ⟨_, rfl⟩
          have hql : Q.length ≤ 1048576 := by rw [hQ, List.length_append]; exact hpl2
          rw [← hQ] at h3
          have cx := cell_below HCELL.out bb3
          have A3 := Lib.hid a3
          have H3 := Lib.hid h3
          have BB3 := Lib.hid bb3
          have HQ := Lib.hid hQ
          have HLW := Lib.hid h3.lt
          have HX3 := Lib.hid (HR'.out.below bb3)
          have HQL := Lib.hid hql
          have HP2 := Lib.hid (show P.length + pt.length ≤ 140737488351232 by omega)
          obtain ⟨S, hS⟩ : ∃ S, S = SM.sha Q := ⟨_, rfl⟩
          have bS : Bytes 32 S := by rw [hS]; exact sha_bytes _
          have hneq := fun w => run_neq_sum bS bS w
          simp only [decide_true, Bool.not_true] at hneq
          have HSS := Lib.hid hS
          clear a3 h3 bb3 o3 hQ hql hS bS
          go_wp2_with (first
            | (at_builtin; refine wpList_app rfl (.tmp 39) (.tmp 43) rfl w.heap.size (.slice aa P.length ca) x' P pt rfl rfl A3.out HX3.out HP2.out BB3.out.size ?_; intro v4 w4 ho4 hg4 hk4; rw [← HQ.out] at ho4; have B4 := Lib.hid (BB3.out.grown hg4 BB3.out.size (fun k hk => (A3.out.from k hk).1)); have H4 := Lib.hid (H3.out.grown hg4 (fun q => HNE.out q.symm)); have N4 := Lib.hid (show v4.ownBlock ≠ some h from fun q => by rcases hk4 with z | z <;> rw [z] at q; exact HNE.out q; exact absurd (Option.some.inj q) (by have := HLW.out; omega)); obtain ⟨a4, c4, rfl, _⟩ := ho4.rd.shape; have O4 := Lib.hid ho4; have L4 := Lib.hid (len_any h Q w4 H4.out); have S4 := Lib.hid (sum_of H4.out (HT.out.below B4.out) (by have := HQL.out; omega) HSS.out); clear ho4 hg4 hk4)
            | (go_at_call 16; (with_reducible refine L4.out.mono ?_); rintro e w5 ⟨rfl, rfl⟩)
            | (go_at_call 17; (with_reducible refine S4.out.mono ?_); rintro e w6 ⟨rfl, b6⟩; have B6 := Lib.hid (B4.out.on b6); have H6 := Lib.hid (H4.out.below b6 H4.out.lt); have O6 := Lib.hid (O4.out.below b6); clear b6)
            | (go_at_call 12; have HOF := Lib.hid (rof_any Q (by have := HQL.out; omega) (.slice a4 Q.length c4) _ O6.out.rd (HTT.out.below B6.out)); rw [← HSS.out] at HOF; (with_reducible refine HOF.out.mono ?_); rintro e w7 ⟨rfl, b7⟩; have B7 := Lib.hid (B6.out.on b7); have H7 := Lib.hid (H6.out.below b7 H6.out.lt); have O7 := Lib.hid (O6.out.below b7); clear b7))
          have hfin : Q = (l0.take (k + 1)).flatten := HQ.out.trans HFT.out
          exact ⟨⟨k + 1, by omega, by go_num, hfin ▸ O7.out, N4.out, hfin ▸ H7.out, B7.out⟩, by simp [intOf]; omega⟩
    · obtain rfl : k = l0.length := by omega
      rw [List.take_length] at ho hs hlen hne hca
      rw [List.take_length]
      obtain ⟨Q, hQ⟩ : ∃ Q, Q = l0.flatten := ⟨_, rfl⟩
      rw [← hQ] at ho hs hlen hne hca ⊢
      obtain ⟨S, hS⟩ : ∃ S, S = SM.sha Q := ⟨_, rfl⟩
      have bS : Bytes 32 S := by rw [hS]; exact sha_bytes _
      have heq := fun w => run_eql_sum bS bS w
      simp only [decide_true] at heq
      have O4 := Lib.hid ho
      have B4 := Lib.hid bb
      have HQL := Lib.hid hlen
      have HSS := Lib.hid hS
      have S4 := Lib.hid (sum_of hs (HT.out.below bb) (by omega) hS)
      clear ho hs hne bb hQ hlen hS bS
      go_wp2_with (first
        | (go_at_call 17; (with_reducible refine S4.out.mono ?_); rintro e w6 ⟨rfl, b6⟩; have B6 := Lib.hid (B4.out.on b6); have O6 := Lib.hid (O4.out.below b6); clear b6)
        | (go_at_call 12; have HOF := Lib.hid (rof_any Q (by have := HQL.out; omega) (.slice aa Q.length ca) _ O6.out.rd (HTT.out.below B6.out)); rw [← HSS.out] at HOF; (with_reducible refine HOF.out.mono ?_); rintro e w7 ⟨rfl, b7⟩; have B7 := Lib.hid (B6.out.on b7); clear b7)
        | (go_at_call 13; refine (awake_any _ (HT.out.below B7.out)).mono ?_; rintro e w8 ⟨rfl, b8⟩; have B8 := Lib.hid (B7.out.on b8); clear b8))
      go_ret
      exact ⟨rfl, B8.out⟩
set_option maxRecDepth 100000 in
theorem reads (os : Os) {H : Type} (enc : TypeId × Value → H) : ∃ places, DataW.whole enc Tryd.prog ((World.doorLaid Tryd.prog 400 os).forCall (fun _ _ => 0) ⟨#[], #[.slice none 0 0], []⟩).memory Tryd.f4.params.toList Rows.shaWritesSpec.vars false (#[.slice none 0 0] : Array Value).toList 8 = some ([.nil], [], places) :=
  ⟨[], by kernel_rfl⟩
set_option linter.unusedVariables false in
set_option maxHeartbeats 1000000 in
set_option maxRecDepth 100000 in
theorem lifted (os : Os) (started : os.Started) (H : Type) (enc : TypeId × Value → H) (F : Stop.Interp) :
    ReturnsInHanded {} Tryd.checked os 4 .any ((Rows.OpenSpec.upto Rows.shaWritesSpec).preRow enc Tryd.prog Tryd.f4 Rows.shaWritesUptoRow.domain false laidB) (((Rows.OpenSpec.upto Rows.shaWritesSpec).at F).post enc Tryd.prog Tryd.f4 false true false false) := by
  obtain ⟨places, hx⟩ := reads os enc
  refine returnsInHanded_of_row (C := Tryd.checked) (s := Rows.OpenSpec.upto Rows.shaWritesSpec) own started (by kernel_rfl) Tryd.func4
    (witness_row_atRef (enc := enc) (C := Tryd.checked) false (World.doorLaid Tryd.prog 400 os) #[.slice none 0 0] rfl (by kernel_rfl) (by kernel_rfl) (by kernel_rfl)
      (OpenSpec.preRow_of_cond 8 hx (by kernel_rfl) (fun k hk => by cases hk; kernel_rfl) (by kernel_rfl) (doorB_met os _))) ?_
  intro W base args ds gs before hval0 hW _ hcond hsz0 hL _ _
  have hsz : (DataW.weightsEach Tryd.prog (Tryd.f4.params.toList ++ Rows.shaWritesSpec.plain.varTypes Tryd.prog) (ds ++ gs)).all (· ≤ reachBytes) = true := hsz0
  clear hsz0
  have hval : ∀ (j : Nat) t v, Tryd.f4.params[j]? = some t → args[j]? = some v → Value.okWide Tryd.prog W .any base t v := hval0
  have hW' := hW
  obtain ⟨p, q, hA0, hV, rfl, _, _⟩ := hW
  have hA : DataW.TrodAll enc Tryd.prog W 0 (fun _ => true) true Tryd.f4.params.toList args.toList ds p := hA0
  rw [Tryd.params4] at hA hval hsz
  have hk : Rows.uptoSmall H (ds ++ gs) = true := hcond _ rfl
  obtain ⟨v0, vs0, d0, ds0, p0, q0, hargs, rfl, rfl, g0, r0⟩ := trodAll_cons hA
  obtain ⟨rfl, rfl, rfl⟩ := trodAll_nil r0
  obtain rfl : args = #[v0] := by cases args; simp_all
  obtain ⟨rfl, rfl⟩ := trodVars_none hV
  have hkb := bulks.bound hk
  obtain ⟨l0, h0, k0⟩ := bulks.open_parts hkb (by simp) (hval 0 22 v0 rfl rfl) g0
  clear hA0 hval0
  have hlt := hW'.lt
  refine (walk W (tabs_of_laid hL) v0 l0 h0 k0).mono fun e W' ⟨he, hb⟩ => ?_
  subst he
  have hargs : DataW.TrodAll enc Tryd.prog W' 0 (fun b => decide (b < W.heap.size)) true _ _ _ _ := (trodAll_cons_mk (Below.trod laidOut (by kernel_rfl) (of_decide_eq_true (by kernel_rfl)) g0 hb (fun x hx => hlt x (by simp [hx]))) trodAll_mk0)
  simp only [List.append_nil] at hW' hargs
  exact ⟨_, rfl, post_law hW' (trodAll_cons_mk (shut_bool Tryd.underlying4 _) trodAll_mk0) hargs rfl hb⟩

theorem over : Rows.shaWritesUptoRow.holds Tryd.pinned (Rows.OpenSpec.upto Rows.shaWritesSpec) :=
  OpenClaim.holds_of_cond 4 Tryd.f4 rfl rfl rfl rfl rfl rfl rfl ⟨rfl, rfl, rfl, rfl, rfl⟩ rfl rfl rfl rfl rfl (by kernel_rfl) Tryd.func4 (by kernel_rfl)
    (of_decide_eq_true (by kernel_rfl)) (by unfold Func.isWrapper; first | (rw [if_pos (by decide +kernel)]; kernel_rfl) | (rw [if_neg (by decide +kernel)]; exact ⟨rfl, rfl⟩))
    (fun os started H enc _ F => by rw [OpenClaim.pre_eq_preRow]; exact lifted os started H enc F)

/-- The given statement. -/
theorem proved : Rows.ShaWritesUptoCardSaid :=
  Claim7.holds_tied_plain_at .later [] _ _ _ _
    over (fun _ h => by cases h) (by kernel_rfl) (fun _ h => by cases h) shaWritesUpto_row_tie rfl ⟨rfl, rfl⟩ (by kernel_rfl) rfl
    (fun f fn hf hfn => by
      obtain rfl : f = 4 := Option.some.inj ((show Tryd.prog.funcNamed "reliquary/reliquarylaw03.ShaWrites" = some 4 by kernel_rfl).symm.trans hf) |>.symm
      obtain rfl : fn = Tryd.f4 := (Option.some.inj (Tryd.func4.symm.trans hfn)).symm
      exact ⟨by kernel_rfl, fun j t ht => by
        rw [Tryd.params4] at ht
        have hm : t ∈ [22] := by simpa using Array.mem_of_getElem? ht
        have hall : ([22].all fun u => !Tryd.prog.wantsStandIn u) = true := by kernel_rfl
        exact (show Tryd.prog.wantsStandIn t = false by simpa using List.all_eq_true.1 hall t hm)⟩)
    (by kernel_rfl)
end Go.Proofs.YtaephclooajabaaDoor.shaWritesUpto

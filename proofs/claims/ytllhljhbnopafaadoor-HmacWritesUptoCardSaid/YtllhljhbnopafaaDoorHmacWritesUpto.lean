/- HmacWrites: bytes that are written in any pieces have, behind each one, the sum with the key that the document says, whatever becomes of the key behind New, and what is not there takes nothing; and the law's closed case holds. The second form: what comes in is of bulk at most 1048576; the document's table and the program's hold their constants when the call begins. -/
import Derived.Test.YtllhljhbnopafaaDoorRows
import Derived.Test.YtllhljhbnopafaaDoorHmacAwake
import Derived.Test.YtllhljhbnopafaaDoorHmacRefOf
import Derived.Test.YtllhljhbnopafaaDoorDoorB
import Derived.Test.YtllhljhbnopafaaDoorTie
import Derived.Test.YtllhljhbnopafaaDoorCards
import Derived.SevenTiedAt
import Derived.Test.YtllhljhbnopafaaDoorBulk
import Derived.Test.YtllhljhbnopafaaDoorArgs
import Derived.WalkKit
import Derived.ProofKit
import Derived.OpenShut
import Derived.SizedLaws
import Derived.Carry
import Derived.Deep.DeepHandedRow
import Derived.Deep.DeepWitnessRowRef
namespace Go.Proofs.YtllhljhbnopafaaDoor.hmacWritesUpto
open Go.ChangeShapes Go.WideShapes Go.ChangeAt Go.RowKit

theorem own : ownKnob Tryd.prog.godebug = none := by kernel_rfl
set_option linter.unusedVariables false in
set_option maxHeartbeats 4000000 in
set_option maxRecDepth 100000 in
theorem walk (w : World) (ht : Tab w ∧ TabP w) (v0 : Value) (l0 : List Nat) (h0 : Rd w v0 l0) (k0 : l0.length ≤ 1048576) (v1 : Value) (l1 : List (List Nat)) (h1 : Rds w v1 l1) (k1 : l1.flatten.length ≤ 1048576) :
    Calls Tryd.prog 4 #[v0, v1] w fun e w' => e = .returned (.bool true) ∧ Below w.heap.size w w' := by
  obtain ⟨a0, c0, rfl, _⟩ := h0.shape
  obtain ⟨ap, cp, rfl, hcap⟩ := h1.shape
  have HFI := h1.fits
  have HV := Lib.hid h1
  have HKY := Lib.hid h0
  have HTT := Lib.hid ht.1
  have HT := Lib.hid ht.2
  have HK := Lib.hid ht.2.lt
  have E0 := Lib.hid (show Own (w.alloc (.cells #[] 5)) w.heap.size (.slice (some ⟨w.heap.size, 0, none⟩) 0 0) [] from own_empty w rfl (Nat.le_refl _))
  have BE := Lib.hid ((Below.refl w.heap.size w).alloc (Nat.le_refl _) (.cells #[] 5))
  obtain ⟨Z, hZ⟩ : ∃ Z, Z = List.replicate 32 0 := ⟨_, rfl⟩
  have bz : Bytes 32 Z := by rw [hZ]; exact bytes_zero 32
  have hez : ∀ w, (binOp .eql 26 (.agg (row8 Z).toArray) (.agg #[.int .u8 0, .int .u8 0, .int .u8 0, .int .u8 0, .int .u8 0, .int .u8 0, .int .u8 0, .int .u8 0, .int .u8 0, .int .u8 0, .int .u8 0, .int .u8 0, .int .u8 0, .int .u8 0, .int .u8 0, .int .u8 0, .int .u8 0, .int .u8 0, .int .u8 0, .int .u8 0, .int .u8 0, .int .u8 0, .int .u8 0, .int .u8 0, .int .u8 0, .int .u8 0, .int .u8 0, .int .u8 0, .int .u8 0, .int .u8 0, .int .u8 0, .int .u8 0])).run Tryd.prog w = .ok (.bool true) w := fun w => by
    have h := run_eql_sum bz bz w
    simp only [decide_true] at h
    have e : (row8 Z).toArray = #[.int .u8 0, .int .u8 0, .int .u8 0, .int .u8 0, .int .u8 0, .int .u8 0, .int .u8 0, .int .u8 0, .int .u8 0, .int .u8 0, .int .u8 0, .int .u8 0, .int .u8 0, .int .u8 0, .int .u8 0, .int .u8 0, .int .u8 0, .int .u8 0, .int .u8 0, .int .u8 0, .int .u8 0, .int .u8 0, .int .u8 0, .int .u8 0, .int .u8 0, .int .u8 0, .int .u8 0, .int .u8 0, .int .u8 0, .int .u8 0, .int .u8 0, .int .u8 0] := by rw [hZ]; rfl
    rw [← e]; exact h
  have HSN := Lib.hid (show ∀ W, Calls Tryd.prog 15 #[.pointer none] W fun e w' => e = .returned (.agg (row8 Z).toArray) ∧ Below W.heap.size W w' from fun W => by rw [hZ]; exact mac_sum_nil W)
  have HWN := Lib.hid (fun W => mac_write_nil (.slice a0 l0.length c0) W)
  clear h0 h1 ht bz hZ
  go_enter Tryd.func4, Tryd.ntmps4
  go_wp2_with (first
    | (at_builtin; refine wpList_app rfl (.tmp 11) (.tmp 12) rfl w.heap.size (.slice (some ⟨w.heap.size, 0, none⟩) 0 0) (.slice a0 l0.length c0) [] l0 rfl rfl E0.out (HKY.out.below BE.out) (by simp; omega) BE.out.size ?_; intro v1 w1 o1 g1 k1; rw [List.nil_append] at o1; obtain ⟨ai, ci, rfl, _⟩ := o1.rd.shape; have B1 := Lib.hid (BE.out.grown g1 BE.out.size (fun k hk => (E0.out.from k hk).1)); have O1 := Lib.hid o1; have N1 := Lib.hid (mac_new l0 _ w1 o1.rd (HT.out.below B1.out)); clear o1 g1 k1)
    | (go_at_call 13; (with_reducible refine N1.out.mono ?_); rintro e w2 ⟨m, h, o, hm, hh, ho, rfl, m2, b2⟩; have HM := Lib.hid (show w.heap.size ≤ m by have := B1.out.size; omega); have HH := Lib.hid (show w.heap.size ≤ h by have := B1.out.size; omega); have HO := Lib.hid (show w.heap.size ≤ o by have := B1.out.size; omega); have HI := Lib.hid (show ∀ b, (Value.slice ai l0.length ci).ownBlock = some b → b ≠ m ∧ b ≠ h ∧ b ≠ o from fun b hb => by have := (O1.out.from b hb).2; omega); have B2 := Lib.hid (B1.out.on b2); have O2 := Lib.hid (O1.out.below b2); have M2 := Lib.hid m2; clear m2 b2 hm hh ho))
  go_loopw [7] (fun x wq => ∃ j : Nat, j ≤ l0.length ∧ x = .int .i64 (j : Int) ∧ (∃ p', p'.length = l0.length ∧ Own wq w.heap.size (.slice ai l0.length ci) p') ∧ Mc wq m h o l0 [] ∧ Below w.heap.size w wq) (fun x _ => l0.length - (intOf x).toNat)
  case atStart => exact ⟨0, Nat.zero_le _, rfl, ⟨l0, rfl, O2.out⟩, M2.out, B2.out⟩
  case round =>
    clear M2 B2 O2 O1 B1 N1 E0 BE
    obtain ⟨j, hj, rfl, ⟨p', hp', o3⟩, m3, bb3⟩ := hrel
    by_cases hjt : j < l0.length
    · obtain ⟨g, hg, hgB⟩ : ∃ g, ai = some ⟨g, 0, none⟩ ∧ w.heap.size ≤ g := by
        rcases o3.1.2 with ⟨e, q⟩ | ⟨g, cap', cur, e, hge, _⟩
        · injection e with _ e _; omega
        · injection e with e _ _; exact ⟨g, e, hge⟩
      subst hg
      have cj := o3.cell hp'.symm j (by omega)
      have fj := o3.free hp'.symm j
      have bj := o3.2.1 j
      have hap := HI.out g rfl
      have O3 := Lib.hid o3
      have M3 := Lib.hid m3
      have BB3 := Lib.hid bb3
      have HP' := Lib.hid hp'
      have HAP := Lib.hid hap
      clear o3 m3 bb3 hap
      go_wp2_with fail
      have hval : (((gb p' j : Nat) : Int) + 1) % 256 = (((gb p' j + 1) % 256 : Nat) : Int) := by omega
      rw [hval]
      have gq := only_set (World.grownBy.refl wr (some g)) (p := ⟨g, j, none⟩) (.inl rfl) (.int .u8 (((gb p' j + 1) % 256 : Nat) : Int))
      have m4 : Mc (wr.setCell ⟨g, j, none⟩ (.int .u8 (((gb p' j + 1) % 256 : Nat) : Int))) m h o l0 [] := ⟨M3.out.blk.grown gq (fun q => HAP.out.1 (Option.some.inj q).symm), M3.out.inn.grown gq (fun q => HAP.out.2.1 (Option.some.inj q).symm), M3.out.out.grown gq (fun q => HAP.out.2.2 (Option.some.inj q).symm), M3.out.ho, M3.out.hm, M3.out.om⟩
      refine ⟨⟨j + 1, by omega, by go_num, ⟨p'.set j ((gb p' j + 1) % 256), by rw [List.length_set]; exact hp', ?_⟩, m4, BB3.out.setCell hgB _⟩, by simp [intOf]; omega⟩
      have hset : Own wr w.heap.size (.slice (some ⟨g, 0, none⟩) p'.length ci) p' := by rw [hp']; exact O3.out
      have h4 := hset.set j ((gb p' j + 1) % 256) (Nat.mod_lt _ (by omega)) (by omega)
      rw [hp'] at h4
      exact h4
    · have M3 := Lib.hid m3
      have BB3 := Lib.hid bb3
      have O3 := Lib.hid ((own_nil w).below bb3)
      clear o3 m3 bb3 HI
      go_wp2_with fail
      go_loopw [8, 9] (fun al i wr => ∃ k : Nat, k ≤ l1.length ∧ i = .int .i64 (k : Int) ∧ Own wr w.heap.size al (l1.take k).flatten ∧ (∀ b, al.ownBlock = some b → b ≠ m ∧ b ≠ h ∧ b ≠ o) ∧ Mc wr m h o l0 (l1.take k).flatten ∧ Below w.heap.size w wr) (fun _ i _ => l1.length - (intOf i).toNat)
      case atStart => exact ⟨0, Nat.zero_le _, rfl, O3.out, (fun b hb => by cases hb), M3.out, BB3.out⟩
      case round =>
        clear O3 M3 BB3
        obtain ⟨k, hk, rfl, ho, hne, hs, bb⟩ := hrel
        have hlen : (l1.take k).flatten.length ≤ 1048576 := Nat.le_trans (flat_le l1 k) k1
        obtain ⟨aa, ca, rfl, hca⟩ := ho.rd.shape
        by_cases hlt : k < l1.length
        · obtain ⟨ad, x, rfl, hc, hr⟩ := (HV.out.below bb).at_ k hlt
          obtain ⟨_, x', e1, hc', hr'⟩ := HV.out.at_ k hlt
          cases e1
          have hxx : x' = x := Option.some.inj ((cell_below hc' bb).symm.trans hc)
          subst hxx
          obtain ⟨pt, hpt⟩ : ∃ pt, pt = l1[k] := ⟨_, rfl⟩
          have hft := flat_take l1 k hlt
          rw [← hpt] at hr hr' hft
          have hle2 := flat_le l1 (k + 1)
          rw [← hft, List.length_append] at hle2
          obtain ⟨P, hP⟩ : ∃ P, P = (l1.take k).flatten := ⟨_, rfl⟩
          rw [← hP] at ho hs hft hle2 hlen hca hne ⊢
          have hpl2 : P.length + pt.length ≤ 1048576 := by omega
          have HX := Lib.hid (fun (hl : 0 < pt.length) (g : Nat) (hg : w.heap.size ≤ g) => hr'.old hl g hg)
          have W1 := Lib.hid (mac_write m h o l0 P pt x' wr hr (fun hl => HX.out hl h HH.out) hs (HT.out.below bb) (by have := HH.out; have := HK.out; omega) (by omega))
          obtain ⟨Q, hQ⟩ : ∃ Q, Q = P ++ pt := ⟨_, rfl⟩
          have hql : Q.length ≤ 1048576 := by rw [hQ, List.length_append]; exact hpl2
          obtain ⟨S, hS⟩ : ∃ S, S = SM.mac l0 Q := ⟨_, rfl⟩
          have bS : Bytes 32 S := by rw [hS]; exact mac_bytes _ _
          have hneq := fun w => run_neq_sum bS bS w
          simp only [decide_true, Bool.not_true] at hneq
          have HSS := Lib.hid hS
          have HQ := Lib.hid hQ
          have HQL := Lib.hid hql
          have HP2 := Lib.hid (show P.length + pt.length ≤ 140737488351232 by omega)
          have HFT := Lib.hid hft
          have O3 := Lib.hid ho
          have HNE := Lib.hid hne
          have BB := Lib.hid bb
          have HR' := Lib.hid hr'
          have HCELL := Lib.hid hc'
          have c1 := hc
          clear ho hs bb hr' hr hne hft hP hpt hle2 hS bS hQ hql hpl2 hlen hc' hc
          go_wp2_with (first
            | (go_at_call 14; (with_reducible refine W1.out.mono ?_); rintro e w3 ⟨rfl, m3, g3⟩; rw [← HQ.out] at m3; have B3 := Lib.hid (BB.out.grown g3 BB.out.size (fun j hj => by have e : h = j := Option.some.inj hj; have := HH.out; omega)); have M3 := Lib.hid m3; have A3 := Lib.hid (O3.out.keep g3 (.inr fun q => (HNE.out h q).2.1 rfl)); have HX3 := Lib.hid (HR'.out.below B3.out); have c3 := cell_below HCELL.out B3.out; clear m3 g3)
            | (at_builtin; refine wpList_app rfl (.tmp 43) (.tmp 47) rfl w.heap.size (.slice aa P.length ca) x' P pt rfl rfl A3.out HX3.out HP2.out B3.out.size ?_; intro v4 w4 ho4 hg4 hk4; rw [← HQ.out] at ho4; have B4 := Lib.hid (B3.out.grown hg4 B3.out.size (fun k hk => (A3.out.from k hk).1)); have M4 := Lib.hid (Mc.mk (M3.out.blk.grown hg4 (fun q => (HNE.out m q.symm).1 rfl)) (M3.out.inn.grown hg4 (fun q => (HNE.out h q.symm).2.1 rfl)) (M3.out.out.grown hg4 (fun q => (HNE.out o q.symm).2.2 rfl)) M3.out.ho M3.out.hm M3.out.om); have N4 := Lib.hid (show ∀ b, v4.ownBlock = some b → b ≠ m ∧ b ≠ h ∧ b ≠ o from fun b hb => by rcases hk4 with z | z; exact HNE.out b (z.symm.trans hb); have e : w3.heap.size = b := Option.some.inj (z.symm.trans hb); have := M3.out.blk.lt; have := M3.out.inn.lt; have := M3.out.out.lt; omega); obtain ⟨a4, c4, rfl, _⟩ := ho4.rd.shape; have O4 := Lib.hid ho4; have S4 := Lib.hid (mac_sum m h o l0 Q w4 M4.out (HT.out.below B4.out) (by have := HQL.out; omega)); rw [← HSS.out] at S4; clear ho4 hg4 hk4)
            | (go_at_call 15; (with_reducible refine S4.out.mono ?_); rintro e w6 ⟨rfl, b6⟩; have B6 := Lib.hid (B4.out.on b6); have M6 := Lib.hid (M4.out.below b6); have O6 := Lib.hid (O4.out.below b6); have F6 := Lib.hid (rmac_any l0 Q (by omega) (by have := HQL.out; omega) (.slice a0 l0.length c0) (.slice a4 Q.length c4) w6 (HKY.out.below B6.out) O6.out.rd (HTT.out.below B6.out)); rw [← HSS.out] at F6; clear b6)
            | (go_at_call 11; (with_reducible refine F6.out.mono ?_); rintro e w7 ⟨rfl, b7⟩; have B7 := Lib.hid (B6.out.on b7); have M7 := Lib.hid (M6.out.below b7); have O7 := Lib.hid (O6.out.below b7); clear b7))
          have hfin : Q = (l1.take (k + 1)).flatten := HQ.out.trans HFT.out
          exact ⟨⟨k + 1, by omega, by go_num, hfin ▸ O7.out, N4.out, hfin ▸ M7.out, B7.out⟩, by simp [intOf]; omega⟩
        · obtain rfl : k = l1.length := by omega
          rw [List.take_length] at ho hs hlen hne hca
          rw [List.take_length]
          obtain ⟨Q, hQ⟩ : ∃ Q, Q = l1.flatten := ⟨_, rfl⟩
          rw [← hQ] at ho hs hlen hne hca ⊢
          obtain ⟨S, hS⟩ : ∃ S, S = SM.mac l0 Q := ⟨_, rfl⟩
          have bS : Bytes 32 S := by rw [hS]; exact mac_bytes _ _
          have heq := fun w => run_eql_sum bS bS w
          simp only [decide_true] at heq
          have O4 := Lib.hid ho
          have B4 := Lib.hid bb
          have HQL := Lib.hid hlen
          have HSS := Lib.hid hS
          have S4 := Lib.hid (mac_sum m h o l0 Q wr hs (HT.out.below bb) (by omega))
          rw [← hS] at S4
          clear ho hs hne bb hQ hlen hS bS
          go_wp2_with (first
            | (go_at_call 15; (with_reducible refine S4.out.mono ?_); rintro e w6 ⟨rfl, b6⟩; have B6 := Lib.hid (B4.out.on b6); have O6 := Lib.hid (O4.out.below b6); have F6 := Lib.hid (rmac_any l0 Q (by omega) (by have := HQL.out; omega) (.slice a0 l0.length c0) (.slice aa Q.length ca) w6 (HKY.out.below B6.out) O6.out.rd (HTT.out.below B6.out)); rw [← HSS.out] at F6; clear b6)
            | (go_at_call 11; (with_reducible refine F6.out.mono ?_); rintro e w7 ⟨rfl, b7⟩; have B7 := Lib.hid (B6.out.on b7); clear b7)
            | (go_at_call 14; (with_reducible refine (HWN.out _).mono ?_); rintro e w8 ⟨rfl, rfl⟩)
            | (go_at_call 15; (with_reducible refine (HSN.out _).mono ?_); rintro e w9 ⟨rfl, b9⟩; have B9 := Lib.hid (B7.out.on b9); clear b9)
            | (go_at_call 12; refine (hawake_any _ (HT.out.below B9.out)).mono ?_; rintro e w10 ⟨rfl, b10⟩; have B10 := Lib.hid (B9.out.on b10); clear b10))
          go_ret
          exact ⟨rfl, B10.out⟩
set_option maxRecDepth 100000 in
theorem reads (os : Os) {H : Type} (enc : TypeId × Value → H) : ∃ places, DataW.whole enc Tryd.prog ((World.doorLaid Tryd.prog 400 os).forCall (fun _ _ => 0) ⟨#[], #[.slice none 0 0, .slice none 0 0], []⟩).memory Tryd.f4.params.toList Rows.hmacWritesSpec.vars false (#[.slice none 0 0, .slice none 0 0] : Array Value).toList 8 = some ([.nil, .nil], [], places) :=
  ⟨[], by kernel_rfl⟩
set_option linter.unusedVariables false in
set_option maxHeartbeats 1000000 in
set_option maxRecDepth 100000 in
theorem lifted (os : Os) (started : os.Started) (H : Type) (enc : TypeId × Value → H) (F : Stop.Interp) :
    ReturnsInHanded {} Tryd.checked os 4 .any ((Rows.OpenSpec.upto Rows.hmacWritesSpec).preRow enc Tryd.prog Tryd.f4 Rows.hmacWritesUptoRow.domain false laidB) (((Rows.OpenSpec.upto Rows.hmacWritesSpec).at F).post enc Tryd.prog Tryd.f4 false true false false) := by
  obtain ⟨places, hx⟩ := reads os enc
  refine returnsInHanded_of_row (C := Tryd.checked) (s := Rows.OpenSpec.upto Rows.hmacWritesSpec) own started (by kernel_rfl) Tryd.func4
    (witness_row_atRef (enc := enc) (C := Tryd.checked) false (World.doorLaid Tryd.prog 400 os) #[.slice none 0 0, .slice none 0 0] rfl (by kernel_rfl) (by kernel_rfl) (by kernel_rfl)
      (OpenSpec.preRow_of_cond 8 hx (by kernel_rfl) (fun k hk => by cases hk; kernel_rfl) (by kernel_rfl) (doorB_met os _))) ?_
  intro W base args ds gs before hval0 hW _ hcond hsz0 hL _ _
  have hsz : (DataW.weightsEach Tryd.prog (Tryd.f4.params.toList ++ Rows.hmacWritesSpec.plain.varTypes Tryd.prog) (ds ++ gs)).all (· ≤ reachBytes) = true := hsz0
  clear hsz0
  have hval : ∀ (j : Nat) t v, Tryd.f4.params[j]? = some t → args[j]? = some v → Value.okWide Tryd.prog W .any base t v := hval0
  have hW' := hW
  obtain ⟨p, q, hA0, hV, rfl, _, _⟩ := hW
  have hA : DataW.TrodAll enc Tryd.prog W 0 (fun _ => true) true Tryd.f4.params.toList args.toList ds p := hA0
  rw [Tryd.params4] at hA hval hsz
  have hk : Rows.uptoSmall H (ds ++ gs) = true := hcond _ rfl
  obtain ⟨v0, vs0, d0, ds0, p0, q0, hargs, rfl, rfl, g0, r0⟩ := trodAll_cons hA
  obtain ⟨v1, vs1, d1, ds1, p1, q1, rfl, rfl, rfl, g1, r1⟩ := trodAll_cons r0
  obtain ⟨rfl, rfl, rfl⟩ := trodAll_nil r1
  obtain rfl : args = #[v0, v1] := by cases args; simp_all
  obtain ⟨rfl, rfl⟩ := trodVars_none hV
  have hkb := bulks.bound hk
  obtain ⟨l0, h0⟩ := open_bytes (hval 0 22 v0 rfl rfl) g0 (fun elems spare e => sized_slice hsz (j := 0) (t := 22) (e := 5) rfl (by rw [← e]; rfl) Tryd.underlying22)
  have k0 : l0.length ≤ 1048576 := bulks.bytes_le hkb (by simp) g0 h0
  obtain ⟨l1, h1, k1⟩ := bulks.open_parts hkb (by simp) (hval 1 23 v1 rfl rfl) g1
  clear hA0 hval0
  have hlt := hW'.lt
  refine (walk W (tabs_of_laid hL) v0 l0 h0 k0 v1 l1 h1 k1).mono fun e W' ⟨he, hb⟩ => ?_
  subst he
  have hargs : DataW.TrodAll enc Tryd.prog W' 0 (fun b => decide (b < W.heap.size)) true _ _ _ _ := (trodAll_cons_mk (Below.trod laidOut (by kernel_rfl) (of_decide_eq_true (by kernel_rfl)) g0 hb (fun x hx => hlt x (by simp [hx]))) (trodAll_cons_mk (Below.trod laidOut (by kernel_rfl) (of_decide_eq_true (by kernel_rfl)) g1 hb (fun x hx => hlt x (by simp [hx]))) trodAll_mk0))
  simp only [List.append_nil] at hW' hargs
  exact ⟨_, rfl, post_law hW' (trodAll_cons_mk (shut_bool Tryd.underlying4 _) trodAll_mk0) hargs rfl hb⟩

theorem over : Rows.hmacWritesUptoRow.holds Tryd.pinned (Rows.OpenSpec.upto Rows.hmacWritesSpec) :=
  OpenClaim.holds_of_cond 4 Tryd.f4 rfl rfl rfl rfl rfl rfl rfl ⟨rfl, rfl, rfl, rfl, rfl⟩ rfl rfl rfl rfl rfl (by kernel_rfl) Tryd.func4 (by kernel_rfl)
    (of_decide_eq_true (by kernel_rfl)) (by unfold Func.isWrapper; first | (rw [if_pos (by decide +kernel)]; kernel_rfl) | (rw [if_neg (by decide +kernel)]; exact ⟨rfl, rfl⟩))
    (fun os started H enc _ F => by rw [OpenClaim.pre_eq_preRow]; exact lifted os started H enc F)

/-- The given statement. -/
theorem proved : Rows.HmacWritesUptoCardSaid :=
  Claim7.holds_tied_plain_at .later [] _ _ _ _
    over (fun _ h => by cases h) (by kernel_rfl) (fun _ h => by cases h) hmacWritesUpto_row_tie rfl ⟨rfl, rfl⟩ (by kernel_rfl) rfl
    (fun f fn hf hfn => by
      obtain rfl : f = 4 := Option.some.inj ((show Tryd.prog.funcNamed "reliquary/reliquarylaw04.HmacWrites" = some 4 by kernel_rfl).symm.trans hf) |>.symm
      obtain rfl : fn = Tryd.f4 := (Option.some.inj (Tryd.func4.symm.trans hfn)).symm
      exact ⟨by kernel_rfl, fun j t ht => by
        rw [Tryd.params4] at ht
        have hm : t ∈ [22, 23] := by simpa using Array.mem_of_getElem? ht
        have hall : ([22, 23].all fun u => !Tryd.prog.wantsStandIn u) = true := by kernel_rfl
        exact (show Tryd.prog.wantsStandIn t = false by simpa using List.all_eq_true.1 hall t hm)⟩)
    (by kernel_rfl)
end Go.Proofs.YtllhljhbnopafaaDoor.hmacWritesUpto

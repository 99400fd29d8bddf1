/- DeviceAll: a Start that keeps all loose writes leaves what was seen, one that keeps none what was safe. No condition. -/
import Derived.Test.YtipdcocliefppaaRows
import Derived.Test.YtipdcocliefppaaDevWritten
import Derived.Test.YtipdcocliefppaaActsD
import Derived.WalkKit
import Derived.ProofKit
import Derived.OpenShut
import Derived.SizedLaws
import Derived.Carry
import Derived.Deep.DeepHandedRow
import Derived.Deep.DeepWitnessRowRef
namespace Go.Proofs.Ytipdcocliefppaa.deviceAll
open Go.ChangeShapes Go.WideShapes Go.ChangeAt Go.RowKit
theorem dv_turn {w w' : World} {d : Nat} {F R G : Nat → Prop} {S : DM.DS} (h : Dv w d F R S) (t : Turn G w w') (hG : ∀ k, R k → ¬ G k) : Dv w' d F R S := h.keep t.size (fun k hk => t.block k (h.sub.2 k hk) (hG k hk))
theorem own_turn {w w' : World} {base : Nat} {v : Value} {l : List Nat} {F : Nat → Prop} (h : Own w base v l) (t : Turn F w w') (hne : ∀ g, v.ownBlock = some g → ¬ F g) : Own w' base v l := by
  refine ⟨?_, h.2⟩
  have ho := h.1
  refine ⟨ho.1, ?_⟩
  rcases ho.2 with q | ⟨g, cap, cur, e, hB, hh, rest⟩
  · exact .inl q
  · refine .inr ⟨g, cap, cur, e, hB, ?_, rest⟩
    have hlt : g < w.heap.size := (World.ownsRow.lt ho g (by rw [e]; rfl)).2
    rw [t.block g hlt (hne g (by rw [e]; rfl))]; exact hh
theorem own : ownKnob Try.prog.godebug = none := by kernel_rfl
set_option linter.unusedVariables false in
set_option maxHeartbeats 4000000 in
set_option maxRecDepth 100000 in
theorem walk (w : World) (v0 : Value) (l0 : List AD) (h0 : ActsD w v0 l0) :
    Calls Try.prog 6 #[v0] w fun e w' => e = .returned (.bool true) ∧ Below w.heap.size w w' := by
  obtain ⟨ao, cap, rfl⟩ := h0.shape
  have HA := Lib.hid h0
  have HFW := Lib.hid (few_any _ l0 w h0)
  have AW := Lib.hid (dawake_any w)
  clear h0
  cases hfw : DM.few l0
  · rw [hfw] at HFW
    clear hfw
    go_enter Try.func6, Try.ntmps6
    go_wp2_with (first
      | (go_at_call 8; (with_reducible refine HFW.out.mono ?_); rintro e wz ⟨rfl, hq⟩; rw [hq]; clear hq wz)
      | (go_at_call 9; (with_reducible refine AW.out.mono ?_); rintro e w2 ⟨rfl, b2⟩; have B2 := Lib.hid b2; clear b2))
    go_ret
    exact ⟨rfl, B2.out⟩
  · rw [hfw] at HFW
    have HWR := Lib.hid (written_any _ l0 w HA.out hfw)
    have HL := Lib.hid (DM.few_len hfw)
    clear hfw
    obtain ⟨S, hS⟩ : ∃ S, S = DM.wrTo l0 l0.length := ⟨_, rfl⟩
    rw [← hS] at HWR
    clear hS
    go_enter Try.func6, Try.ntmps6
    go_upto_region 6 with (first
      | (go_at_call 8; (with_reducible refine HFW.out.mono ?_); rintro e wz ⟨rfl, hq⟩; rw [hq]; clear hq wz)
      | (go_at_call 29; (with_reducible refine HWR.out.mono ?_); rintro e w3 ⟨d, rfl, dv3, pl, b3⟩; obtain ⟨F, R, hd3, hF, _, _, _⟩ := dv3; have D3 := Lib.hid hd3; have HF := Lib.hid hF; have PL := Lib.hid pl; have TM := Lib.hid (pl.tameD (by have := HL.out; omega)); have B3 := Lib.hid b3; have HB := Lib.hid (dbytes_any d F R S w3 hd3 (pl.tameD (by have := HL.out; omega))); clear hd3 hF pl b3))
    obtain ⟨n, hn⟩ : ∃ n, n = S.loose.length := ⟨_, rfl⟩
    obtain ⟨m, hm⟩ : ∃ m, m = n / 8 + 1 := ⟨_, rfl⟩
    have hq : (n : Int) / 8 + 1 = (m : Int) := by omega
    have hnb : n ≤ 1000000 := by rw [hn]; exact TM.out.loose
    have HQ := Lib.hid hq
    have HN := Lib.hid hn
    have HM := Lib.hid hm
    clear hq hn hm
    go_wp2_with (first
      | (go_at_call 28; (with_reducible refine HB.out.mono ?_); rintro e w4 ⟨y, rfl, o4, b4⟩; obtain ⟨ya, yc, rfl, _⟩ := o4.rd.shape; have hstr := o4.rd.str; have D4 := Lib.hid (D3.out.keep b4.size (fun k hk => b4.block k (D3.out.sub.2 k hk))); have B4 := Lib.hid (B3.out.on b4); have Z34 := Lib.hid b4.size; have HLO := Lib.hid (dloose_any d F R S w4 D4.out TM.out); rw [← HN.out] at HLO; clear b4 o4 HB)
      | (go_at_call 26; (with_reducible refine HLO.out.mono ?_); rintro e wz ⟨rfl, hqz⟩; rw [hqz]; clear hqz wz HLO)
      | (refine wpList_make_bytes rfl _ _ rfl w4.heap.size m (by have := HM.out; omega) (congrArg (Value.int .i64) HQ.out) (congrArg (Value.int .i64) HQ.out) (Nat.le_refl _) ?_; intro w5 o5 b5; have O5 := Lib.hid o5; have D5 := Lib.hid (D4.out.keep b5.size (fun k hk => b5.block k (D4.out.sub.2 k hk))); have B5 := Lib.hid (B4.out.on b5); have ZZ5 := Lib.hid b5.size; have NR := Lib.hid (show ¬ R w4.heap.size from fun h => by have := D4.out.sub.2 _ h; omega); have ZW := Lib.hid (show w.heap.size ≤ w4.heap.size from B4.out.size); clear o5 b5))
    obtain ⟨g, hg⟩ : ∃ g, g = w4.heap.size := ⟨_, rfl⟩
    rw [← hg] at O5 NR ZW ⊢
    clear hg
    go_loopw [6] (fun i wr => ∃ k : Nat, k ≤ m ∧ i = .int .i64 (k : Int) ∧ Own wr g (.slice (some ⟨g, 0, none⟩) m m) (DM.fillC 255 m k) ∧ Dv wr d F R S ∧ w3.heap.size ≤ wr.heap.size ∧ Below w.heap.size w wr) (fun i _ => m - (intOf i).toNat)
    case atStart => exact ⟨0, Nat.zero_le _, rfl, by rw [DM.fillC_zero]; exact O5.out, D5.out, Nat.le_trans Z34.out ZZ5.out, B5.out⟩
    case round =>
      clear O5 D5 B5
      obtain ⟨k, hk, rfl, o, dv, hz3, bb⟩ := hrel
      have hl := DM.fillC_len 255 m k hk
      have hmb : m ≤ 1000000 := by have := HM.out; omega
      by_cases hk2 : k < m
      · have cu := o.cell hl.symm k (by rw [hl]; exact hk2)
        have fu := o.free hl.symm k
        have OO := Lib.hid o
        have DD := Lib.hid dv
        have BB := Lib.hid bb
        have HL2 := Lib.hid hl
        clear o dv bb hl
        go_wp2_with fail
        have hg1 := grownBy_cell wr g k (.int .u8 255)
        have o2 : Own (wr.setCell ⟨g, k, none⟩ (.int .u8 255)) g (.slice (some ⟨g, 0, none⟩) m m) (DM.fillC 255 m (k + 1)) := by
          have hl2 := HL2.out
          have h := OO.out
          have hst := DM.fillC_set 255 m k hk2
          obtain ⟨L, hL⟩ : ∃ L, L = DM.fillC 255 m k := ⟨_, rfl⟩
          rw [← hL] at h hl2 hst
          rw [← hst]
          clear hL hst
          subst hl2
          exact h.set k 255 (by omega) (by omega)
        exact ⟨⟨k + 1, by omega, by go_num, o2, DD.out.keep hg1.size (fun j hj => hg1.block j (DD.out.sub.2 j hj) (fun e => NR.out (by rw [← Option.some.inj e]; exact hj))), Nat.le_trans hz3 hg1.size, BB.out.setCell (p := ⟨g, k, none⟩) ZW.out _⟩, by simp [intOf]; omega⟩
      · obtain rfl : k = m := by omega
        rw [DM.fillC_all] at o
        have OO := Lib.hid o
        have BB := Lib.hid bb
        have HK := Lib.hid (dclone_any d F R S wr dv TM.out)
        have NRF := Lib.hid (show ¬ F g from fun h => NR.out (dv.sub.1 g h))
        have GR := Lib.hid (show g < wr.heap.size from (o.from g rfl).2)
        clear o dv bb hl
        -- the clone c, and what becomes of it
        go_upto_region 13 with ((go_at_call 13; (with_reducible refine HK.out.mono ?_); rintro e w6 ⟨c, F', R', G, Q, rfl, d6, c6, f1, r1, g1, q1, gr, fq, t6⟩; have D6 := Lib.hid d6; have C6 := Lib.hid c6; have HF6 := Lib.hid (show ∀ k, F' k → w.heap.size ≤ k from fun k hk => (f1 k hk).elim (HF.out k) (fun h => Nat.le_trans BB.out.size h)); have HG := Lib.hid g1; have HGR := Lib.hid gr; have HFQ := Lib.hid fq; have B6 := Lib.hid (show Below w.heap.size w w6 from by have h := t6.below BB.out.size HF.out; exact BB.out.trans h); have O6 := Lib.hid (own_turn OO.out t6 (fun x hx h => by rw [← Option.some.inj hx] at h; have := NRF.out; exact this h)); have Z6 := Lib.hid t6.size; clear d6 c6 f1 r1 g1 q1 gr fq t6 HK))
        have hgG : ¬ G g := fun q => by have := HG.out g q; have := GR.out; omega
        have HS1 := Lib.hid (dstart_any c G Q S w6 C6.out TM.out (.slice (some ⟨g, 0, none⟩) k k) (List.replicate k 255) O6.out.rd (fun _ x hx => by rw [← Option.some.inj hx]; exact hgG))
        clear hgG
        go_upto_region 14 with ((go_at_call 15; (with_reducible refine HS1.out.mono ?_); rintro e w7 ⟨rfl, G2, Q2, c7, g2, q2, t7⟩; have C7 := Lib.hid c7; have D7 := Lib.hid (dv_turn D6.out t7 (fun k hk h => HGR.out k h hk)); have HFQ7 := Lib.hid (show ∀ k, F' k → ¬ Q2 k from fun k hk h => (q2 k h).elim (HFQ.out k hk) (fun h2 => by have := D6.out.sub.2 k (D6.out.sub.1 k hk); omega)); have B7 := Lib.hid (show Below w.heap.size w w7 from B6.out.trans (t7.below B6.out.size (fun k hk => Nat.le_trans (Nat.le_trans BB.out.size (HG.out k hk)) (Nat.le_refl _)))); clear c7 g2 q2 t7 HS1))
        have HK2 := Lib.hid (dclone_any d F' R' S w7 D7.out TM.out)
        go_upto_region 15 with ((go_at_call 13; (with_reducible refine HK2.out.mono ?_); rintro e w8 ⟨c2, F2, R2, G3, Q3, rfl, d8, e8, f1, r1, g1, q1, gr, fq, t8⟩; have D8 := Lib.hid d8; have E8 := Lib.hid e8; have C8 := Lib.hid (dv_turn C7.out t8 (fun k hk h => HFQ7.out k h hk)); have HF8 := Lib.hid (show ∀ k, F2 k → w.heap.size ≤ k from fun k hk => (f1 k hk).elim (HF6.out k) (fun h => Nat.le_trans B7.out.size h)); have HG8 := Lib.hid g1; have HGR8 := Lib.hid gr; have HFQ8 := Lib.hid (show ∀ k, F2 k → ¬ Q2 k from fun k hk h => (f1 k hk).elim (fun h2 => HFQ7.out k h2 h) (fun h2 => by have := C7.out.sub.2 k h; omega)); have B8 := Lib.hid (show Below w.heap.size w w8 from B7.out.trans (t8.below B7.out.size HF6.out)); have CQ8 := Lib.hid (show ∀ k, G3 k → ¬ Q2 k from fun k hk h => by have := C7.out.sub.2 k h; have := g1 k hk; omega); clear d8 e8 f1 r1 g1 q1 gr fq t8 HK2))
        have HS2 := Lib.hid (dstart_any c2 G3 Q3 S w8 E8.out TM.out (.slice none 0 0) [] (Rd.none_ w8) (fun h => by cases h))
        go_upto_region 16 with ((go_at_call 15; (with_reducible refine HS2.out.mono ?_); rintro e w9 ⟨rfl, G4, Q4, e9, g4, q4, t9⟩; have E9 := Lib.hid e9; have D9 := Lib.hid (dv_turn D8.out t9 (fun k hk h => HGR8.out k h hk)); have C9 := Lib.hid (dv_turn C8.out t9 (fun k hk h => CQ8.out k h hk)); have B9 := Lib.hid (show Below w.heap.size w w9 from B8.out.trans (t9.below B8.out.size (fun k hk => Nat.le_trans B7.out.size (HG8.out k hk)))); clear e9 g4 q4 t9 HS2))
        have HB2 := Lib.hid (dbytes_any c2 G4 Q4 (DM.start S []) w9 E9.out (tame_start TM.out []))
        go_upto_region 17 with ((go_at_call 28; (with_reducible refine HB2.out.mono ?_); rintro e w10 ⟨y2, rfl, o10, b10⟩; obtain ⟨za, zc, rfl, _⟩ := o10.rd.shape; have hstr2 := o10.rd.str; have D10 := Lib.hid (D9.out.keep b10.size (fun k hk => b10.block k (D9.out.sub.2 k hk))); have C10 := Lib.hid (C9.out.keep b10.size (fun k hk => b10.block k (C9.out.sub.2 k hk))); have B10 := Lib.hid (B9.out.on b10); clear o10 b10 HB2))
        have HY := Lib.hid (dsync_any d F2 R2 S w10 D10.out TM.out)
        go_upto_region 18 with ((go_at_call 20; (with_reducible refine HY.out.mono ?_); rintro e w11 ⟨rfl, F3, R3, d11, f3, r3, t11⟩; have D11 := Lib.hid d11; have C11 := Lib.hid (dv_turn C10.out t11 (fun k hk h => HFQ8.out k h hk)); have HF11 := Lib.hid (show ∀ k, F3 k → w.heap.size ≤ k from fun k hk => (f3 k hk).elim (HF8.out k) (fun h => Nat.le_trans B10.out.size h)); have HFQ11 := Lib.hid (show ∀ k, F3 k → ¬ Q2 k from fun k hk h => (f3 k hk).elim (fun h2 => HFQ8.out k h2 h) (fun h2 => by have := C10.out.sub.2 k h; omega)); have B11 := Lib.hid (show Below w.heap.size w w11 from B10.out.trans (t11.below B10.out.size HF8.out)); have TY := Lib.hid (show Tame (DM.sync S).1 from PL.out.sync.tameD (by have := HL.out; omega)); clear d11 f3 r3 t11 HY))
        have HS3 := Lib.hid (dstart_any d F3 R3 (DM.sync S).1 w11 D11.out TY.out (.slice none 0 0) [] (Rd.none_ w11) (fun h => by cases h))
        go_upto_region 19 with ((go_at_call 15; (with_reducible refine HS3.out.mono ?_); rintro e w12 ⟨rfl, F4, R4, d12, f4, r4, t12⟩; have D12 := Lib.hid d12; have C12 := Lib.hid (dv_turn C11.out t12 (fun k hk h => HFQ11.out k h hk)); have B12 := Lib.hid (show Below w.heap.size w w12 from B11.out.trans (t12.below B11.out.size HF11.out)); clear d12 f4 r4 t12 HS3))
        have e1 : (DM.start S (List.replicate k 255)).seen = S.seen := by
          show DM.layTo _ S.loose S.safe S.loose.length = _
          rw [DM.layTo_all _ _ _ (fun i hi => DM.bit_ones k i (by have := HM.out; have := HN.out; omega)) _ (Nat.le_refl _), List.take_length]
          exact PL.out.all
        have e2 : (DM.start S []).seen = S.safe := DM.layTo_none [] S.loose S.safe (fun i _ => DM.bit_nil i) _ (Nat.le_refl _)
        have e3 : (DM.start (DM.sync S).1 []).seen = S.seen := by
          have hs : (DM.sync S).1.safe = S.seen := by unfold DM.sync; rw [if_neg (by rw [PL.out.down]; decide), DM.step_plain _ _ PL.out.told]
          show DM.layTo [] (DM.sync S).1.loose (DM.sync S).1.safe _ = _
          rw [DM.layTo_none [] (DM.sync S).1.loose (DM.sync S).1.safe (fun i _ => DM.bit_nil i) _ (Nat.le_refl _), hs]
        have hb1 := dbytes_any c G2 Q2 _ w12 C12.out (tame_start TM.out (List.replicate k 255))
        rw [e1] at hb1
        have HC := Lib.hid hb1
        have hz1 := bstr_size S.seen
        have hz2 := bstr_size S.safe
        have hle : (S.safe.length : Int) ≤ (S.seen.length : Int) := by have := PL.out.less; omega
        have HE3 := Lib.hid e3
        rw [e2]
        clear hb1 e1 e2 e3 hstr hstr2
        go_wp2_with (first
          | (go_at_call 28; (with_reducible refine HC.out.mono ?_); rintro e w13 ⟨y, rfl, o13, b13⟩; obtain ⟨ua, uc, rfl, _⟩ := o13.rd.shape; have hstr13 := o13.rd.str; have D13 := Lib.hid (D12.out.keep b13.size (fun k hk => b13.block k (D12.out.sub.2 k hk))); have B13 := Lib.hid (B12.out.on b13); have hb2 := dbytes_any d F4 R4 _ w13 D13.out (tame_start TY.out []); rewrite [HE3.out] at hb2; have HD := Lib.hid hb2; clear hb2 o13 b13 HC)
          | (go_at_call 28; (with_reducible refine HD.out.mono ?_); rintro e w14 ⟨y, rfl, o14, b14⟩; obtain ⟨va, vc, rfl, _⟩ := o14.rd.shape; have hstr14 := o14.rd.str; have B14 := Lib.hid (B13.out.on b14); clear o14 b14 HD)
          | (go_at_call 9; (with_reducible refine (dawake_any w14).mono ?_); rintro e w15 ⟨rfl, b15⟩; have B15 := Lib.hid (B14.out.on b15); clear b15))
        go_ret
        exact ⟨rfl, B15.out⟩
set_option linter.unusedVariables false in
set_option maxHeartbeats 400000 in
set_option maxRecDepth 100000 in
theorem lifted (os : Os) (started : os.Started) (H : Type) (enc : TypeId × Value → H) :
    ReturnsInHanded {} Try.checked os 6 .any (Rows.deviceAllSpec.pre6 enc Try.prog Try.f6 Rows.deviceAllRow.domain false) (Rows.deviceAllSpec.post enc Try.prog Try.f6 false true false false) := by
  refine returnsInHanded_of_change_sized (C := Try.checked) own started (by kernel_rfl) Try.func6
    (ChangeSpec.witness6 (enc := enc) (C := Try.checked) false ⟨#[], #[.slice none 0 0], []⟩ 8 (by kernel_rfl) (by kernel_rfl) (by kernel_rfl) (by kernel_rfl)) ?_
  intro W base args ds gs before hval0 hW _ hsz0 _
  have hsz : (DataW.weightsEach Try.prog (Try.f6.params.toList ++ Rows.deviceAllSpec.plain.varTypes Try.prog) (ds ++ gs)).all (· ≤ reachBytes) = true := hsz0
  clear hsz0
  have hval : ∀ (j : Nat) t v, Try.f6.params[j]? = some t → args[j]? = some v → Value.okWide Try.prog W .any base t v := hval0
  have hW' := hW
  obtain ⟨p, q, hA0, hV, rfl, _, _⟩ := hW
  have hA : DataW.TrodAll enc Try.prog W 0 (fun _ => true) true Try.f6.params.toList args.toList ds p := hA0
  rw [Try.params6] at hA hval hsz
  obtain ⟨v0, vs0, d0, ds0, p0, q0, hargs, rfl, rfl, g0, r0⟩ := trodAll_cons hA
  obtain ⟨rfl, rfl, rfl⟩ := trodAll_nil r0
  obtain rfl : args = #[v0] := by cases args; simp_all
  obtain ⟨rfl, rfl⟩ := trodVars_none hV
  obtain ⟨l0, h0⟩ := open_actsd (hval 0 22 v0 rfl rfl) g0 (fun n hn => by simpa using List.all_eq_true.1 hsz n (DataW.weights_mem_each (j := 0) (t := 22) rfl rfl n hn))
  clear hA0 hval0
  have hlt := hW'.lt
  refine (walk W v0 l0 h0).mono fun e W' ⟨he, hb⟩ => ?_
  subst he
  have hargs : DataW.TrodAll enc Try.prog W' 0 (fun b => decide (b < W.heap.size)) true _ _ _ _ := (trodAll_cons_mk (Below.trod laidOut (by kernel_rfl) (of_decide_eq_true (by kernel_rfl)) g0 hb (fun x hx => hlt x (by simp [hx]))) trodAll_mk0)
  simp only [List.append_nil] at hW' hargs
  exact ⟨_, rfl, post_law hW' (trodAll_cons_mk (shut_bool Try.underlying4 _) trodAll_mk0) hargs rfl hb⟩
theorem over : Rows.deviceAllRow.holds Try.pinned (OpenSpec.ofChange Rows.deviceAllSpec) :=
  OpenClaim.holds_of_wide 6 Try.f6 rfl rfl rfl rfl rfl rfl rfl ⟨rfl, rfl, rfl, rfl, rfl⟩ rfl rfl rfl rfl rfl (by kernel_rfl) Try.func6 (by kernel_rfl)
    (of_decide_eq_true (by kernel_rfl)) (by unfold Func.isWrapper; first | (rw [if_pos (by decide +kernel)]; kernel_rfl) | (rw [if_neg (by decide +kernel)]; exact ⟨rfl, rfl⟩))
    (fun os started H enc _ => lifted os started H enc)

/-- The given statement. -/
theorem proved : Rows.DeviceAllSaid := over
end Go.Proofs.Ytipdcocliefppaa.deviceAll

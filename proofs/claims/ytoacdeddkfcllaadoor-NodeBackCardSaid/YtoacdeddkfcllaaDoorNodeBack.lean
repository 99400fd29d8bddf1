/- NodeBack: a node that is laid is read as it was, if its refs may be, and not otherwise; what is read is laid so, what is not is told to be none; a node is empty just if no ref leads anywhere; and the law's closed case holds. No condition. -/
import Derived.Test.YtoacdeddkfcllaaDoorRows
import Derived.Test.YtoacdeddkfcllaaDoorNdAwake
import Derived.Test.YtoacdeddkfcllaaDoorNdEq
import Derived.Test.YtoacdeddkfcllaaDoorMark
import Derived.Test.YtoacdeddkfcllaaDoorShaD
import Derived.Test.YtoacdeddkfcllaaDoorSkipU
import Derived.Test.YtoacdeddkfcllaaDoorShaC
import Derived.Test.YtoacdeddkfcllaaDoorTie
import Derived.Test.YtoacdeddkfcllaaDoorCards
import Derived.SevenTiedAt
import Derived.Test.YtoacdeddkfcllaaDoorMem
import Derived.Test.YtoacdeddkfcllaaDoorNdArg
import Derived.WalkKit
import Derived.ProofKit
import Derived.OpenShut
import Derived.SizedLaws
import Derived.Carry
import Derived.Deep.DeepHandedRow
import Derived.Deep.DeepWitnessRowRef
namespace Go.Proofs.YtoacdeddkfcllaaDoor.nodeBack
open Go.ChangeShapes Go.WideShapes Go.ChangeAt Go.RowKit
open RT
theorem may_take {ns : List Pg} {k : Nat} (hk : k < ns.length) : ND.may (ns.take (k + 1)) = (ND.may (ns.take k) && (decide (ns[k].at_ ≠ 0) || pgEq ns[k] ND.zp)) := by
  unfold ND.may
  rw [List.take_add_one, List.getElem?_eq_getElem hk, List.all_append]
  simp [ND.mayP]
theorem empty_take {ns : List Pg} {k : Nat} (hk : k < ns.length) : ND.empty (ns.take (k + 1)) = (ND.empty (ns.take k) && decide (ns[k].at_ = 0)) := by
  unfold ND.empty
  rw [List.take_add_one, List.getElem?_eq_getElem hk, List.all_append]
  simp
theorem own : ownKnob Tryd.prog.godebug = none := by kernel_rfl
set_option linter.unusedVariables false in
set_option maxRecDepth 100000 in
set_option maxHeartbeats 4000000 in
theorem walk (w : World) (ht : TabP w) (n0 : List RT.Pg) (h0 : ND.Nok n0) (v1 : Value) (l1 : List Nat) (h1 : Rd w v1 l1) :
    Calls Tryd.prog 6 #[.agg (RT.pcs n0).toArray, v1] w fun e w' => e = .returned (.bool true) ∧ Below w.heap.size w w' := by
  obtain ⟨va, vc, rfl, _⟩ := h1.shape
  obtain ⟨bl, hbl⟩ : ∃ n, n = l1.length := ⟨_, rfl⟩
  have HT := Lib.hid ht
  obtain ⟨Z0, hZ0⟩ : ∃ L, L = pcs ND.zn := ⟨_, rfl⟩
  have hz : ∀ w, (zeroValue 28).run Tryd.prog w = .ok (.agg Z0.toArray) w := by rw [hZ0]; exact zeroNdP
  have hbz : Tryd.prog.built 28 [] = some Z0.toArray := by rw [hZ0]; exact builtNdP
  have hbr := builtRfP
  have Z264 := Lib.hid (show Z0.length = 264 by rw [hZ0]; exact ND.pcs_len8 ND.zn_ok)
  have ZQ := Lib.hid (fun W => (show (binOp .neq 28 (.agg Z0.toArray) (.agg Z0.toArray)).run Tryd.prog W = .ok (.bool false) W by rw [hZ0, run_neq_node ND.zn_ok ND.zn_ok, (ndEq_iff ND.zn_ok ND.zn_ok).2 rfl]; rfl))
  have HG := Lib.hid (fun W v (hv : Rd W v l1) => npget_any l1 v W hv)
  have GOK := Lib.hid (ND.got_ok h1.byte)
  have HPM := Lib.hid (fun W => npput_any (ND.got l1) GOK.out W)
  have HPN := Lib.hid (fun W => npput_any n0 h0 W)
  have HGN := Lib.hid (fun W v (hv : Rd W v (ones n0)) => npget_any (ones n0) v W hv)
  have HEM := Lib.hid (fun W => npempty_any n0 h0 W)
  have HLQ := Lib.hid (fun W => (show (binOp .eql 28 (.agg (pcs n0).toArray) (.agg (pcs n0).toArray)).run Tryd.prog W = .ok (.bool true) W by rw [run_eql_node h0 h0, (ndEq_iff h0 h0).2 rfl]))
  have HGL := Lib.hid (ND.got_lay h0)
  have N8 := Lib.hid h0.len
  have HPK := Lib.hid h0.ok
  have HLC := Lib.hid (fun k (hk : k < n0.length) => ND.pcs_at h0.ok (k := k) hk)
  have HRG := Lib.hid (fun W (h : Blk W w.heap.size 28 (pcs n0)) k (hk : k < n0.length) => (show W.rangeAt w.heap.size (k * 33) (pc n0[k]) from range_part h (k * 33) (pc n0[k]) fun j u hu => by
    have hj : j < 33 := by
      rw [← pc_len (h0.ok _ (List.getElem_mem hk))]
      rcases Nat.lt_or_ge j (pc n0[k]).length with q | q
      · exact q
      · rw [List.getElem?_eq_none q] at hu; cases hu
    rw [pcs_get h0.ok hk hj]; exact hu))
  obtain ⟨L, hL⟩ : ∃ L, L = pcs n0 := ⟨_, rfl⟩
  have L264 := Lib.hid (show L.length = 264 by rw [hL]; exact ND.pcs_len8 h0)
  have L1 := Lib.hid (show L.toArray.all (·.oneCell') = true by rw [hL, List.all_toArray, List.all_eq_true]; exact pcs_one' _)
  have Z1 := Lib.hid (show Z0.toArray.all (·.oneCell') = true by rw [hZ0, List.all_toArray, List.all_eq_true]; exact pcs_one' _)
  obtain ⟨RC, hRC⟩ : ∃ L, L = pcs (ND.got l1) := ⟨_, rfl⟩
  have RC264 := Lib.hid (show RC.length = 264 by rw [hRC]; exact ND.pcs_len8 GOK.out)
  have RC1 := Lib.hid (show RC.toArray.all (·.oneCell') = true by rw [hRC, List.all_toArray, List.all_eq_true]; exact pcs_one' _)
  have HGC := Lib.hid (show ND.okN l1 = false → RC = Z0 from fun h => by rw [hRC, hZ0, (ND.got_no h).1])
  have HB288 := Lib.hid (show ND.okN l1 = true → ones (ND.got l1) = l1 from fun h => by
    rw [(ND.got_yes h).1]
    refine ND.ones_reads ⟨?_, h1.byte⟩
    unfold ND.okN at h
    rw [Bool.and_eq_true, decide_eq_true_iff] at h
    exact h.1)
  have HNE := Lib.hid (fun W => (show (binOp .neq 9 (.string (bstr l1)) (.string (bstr l1))).run Tryd.prog W = .ok (.bool false) W by rw [run_neq_str, decide_eq_true rfl]; rfl))
  rw [← hL] at HPN HEM HLQ HLC HRG
  rw [← hRC] at HG HPM
  rw [← hL]
  have HZ0 := Lib.hid hZ0
  have HL := Lib.hid hL
  obtain ⟨w1, hw1⟩ : ∃ x, x = w.alloc (.cells L.toArray 28) := ⟨_, rfl⟩
  have W1 := Lib.hid (show Below w.heap.size w w1 by rw [hw1]; exact (Below.refl w.heap.size w).alloc (Nat.le_refl _) _)
  have X1 := Lib.hid (show Blk w1 w.heap.size 28 L by rw [hw1]; exact Blk.new w 28 L _ rfl)
  have V1 := Lib.hid (h1.below W1.out)
  rw [← hbl] at V1 ⊢
  clear hL hRC hZ0 hbl h0 h1 ht
  go_enter Tryd.func6, Tryd.ntmps6
  go_upto_region 1 with fail
  rw [← hw1]
  clear hw1
  go_upto_region 2 with (first
    | (go_at_call 13; (with_reducible refine (HG.out _ _ V1.out).mono ?_); rintro e w2 ⟨rfl, b2⟩; have X2 := Lib.hid (X1.out.below b2 X1.out.lt); have V2 := Lib.hid (V1.out.below b2); have W2 := Lib.hid (W1.out.on b2); clear b2)
    | ((with_reducible show wpList _ _ _ (Oper.mk _ (.store _ (.tmp 5) (.tmp 15)) _ _ _ _ :: _) _ _); refine wpList_store_blk rfl 28 (.tmp 5) (.tmp 15) rfl w2.heap.size 0 RC rfl rfl 28 Z0 (Blk.new w2 28 Z0 _ rfl) (by have := RC264.out; have := Z264.out; omega) (by rw [RC264.out]; exact infoNdP) RC1.out ?_; intro w3 b' g'; rw [splice_all _ _ (by have := RC264.out; have := Z264.out; omega)] at b'; have bb := alloc_turn (Below.refl _ _) g'; have M3 := Lib.hid b'; have X3 := Lib.hid (X2.out.below bb X2.out.lt); have V3 := Lib.hid (V2.out.below bb); have W3 := Lib.hid (W2.out.on bb); clear b' g' bb))
  obtain ⟨mb, hmb⟩ : ∃ x, x = w2.heap.size := ⟨_, rfl⟩
  rw [← hmb] at M3 ⊢
  clear hmb X1 V1 W1 X2 V2 W2 HG RC1
  cases hok : ND.okN l1 with
  | true =>
    have g1 := ND.got_yes hok
    have hpm := HPM.out
    rw [HB288.out hok] at hpm
    have HPM := Lib.hid hpm
    rw [g1.2]
    clear g1 hpm hok HB288 HGC GOK
    refine wp_region_g (by kernel_rfl) 23 (by decide) (by kernel_rfl) (by kernel_rfl) (by kernel_rfl) (w3.heap.size) (Nat.le_refl _) [.val (.int .i64 0), .val (.bool true), .val (.bool true), .val (.agg RC.toArray), .rd (l1), .val (.string (bstr l1)), .val (.slice va bl vc), .val (.string (bstr l1)), .val (.bool false), .val (.bool false), .val (.bool false), .val (.int .i64 0), .val (.bool false), .val (.bool false), .val undef, .val undef, .val undef, .val undef, .val undef, .val undef, .val undef, .val (.bool false), .val (.bool false)] (fun _ => 23) ?_ ?_
    · refine ⟨?_, ?_, ?_, ?_, ?_, ?_, ?_, ?_, ?_, ?_, ?_, ?_, ?_, ?_, ?_, ?_, ?_, ?_, ?_, ?_, ?_, ?_, ?_, trivial⟩
      · intro a w' hF hB hd
        have e6 : a.eval (.tmp 6) = .int .i64 0 := hF 6 (by decide +kernel)
        exact doesG_val rfl (ex_move rfl e6) rfl rfl
      · intro a w' hF hB hd
        have e17 : a.eval (.tmp 17) = .int .i64 0 := hd 0 (by decide +kernel) (.inr (by decide))
        exact doesG_val rfl (ex_binOp rfl e17 rfl (by go_simp) (by go_simp)) rfl rfl
      · intro a w' hF hB hd
        have e18 : a.eval (.tmp 18) = .bool true := hd 1 (by decide +kernel) (.inr (by decide))
        exact doesG_val rfl (ex_move rfl e18) rfl rfl
      · intro a w' hF hB hd
        have e19 : a.eval (.tmp 19) = .bool true := hd 2 (by decide +kernel) (.inr (by decide))
        have e5 : a.eval (.tmp 5) = .pointer (some ⟨mb, 0, none⟩) := hF 5 (by decide +kernel)
        exact doesG_val (wanted_of rfl (yielded_of rfl e19)) (v := .agg RC.toArray) (ex_load_part 28 (.tmp 5) rfl mb 0 e5 RC _ (M3.out.below hB M3.out.lt).range Tryd.underlying28 rfl (by rw [RC264.out]; exact infoNdP)) rfl rfl
      · intro a w' hF hB hd
        have e19 : a.eval (.tmp 19) = .bool true := hd 2 (by decide +kernel) (.inr (by decide))
        have e20 : a.eval (.tmp 20) = .agg RC.toArray := hd 3 (by decide +kernel) (.inr (by decide))
        exact doesG_made (wanted_of rfl (yielded_of rfl e19)) (ex_call (vs := #[.agg RC.toArray]) rfl (by simp only [List.map_toArray, List.map_cons, List.map_nil, e20]) (by go_simp)) ((HPM.out w').mono fun e w2 hh => by obtain ⟨v, he, ho, hb⟩ := hh; exact ⟨v, he, ho.rd, hb, own_from ho⟩)
      · intro a w' hF hB hd
        have e19 : a.eval (.tmp 19) = .bool true := hd 2 (by decide +kernel) (.inr (by decide))
        have e21 : Rd w' (a.eval (.tmp 21)) (l1) := hd 4 (by decide +kernel) (.inr (by decide))
        exact doesG_val (wanted_of rfl (yielded_of rfl e19)) (ex_convert rfl rfl e21.str) rfl rfl
      · intro a w' hF hB hd
        have e19 : a.eval (.tmp 19) = .bool true := hd 2 (by decide +kernel) (.inr (by decide))
        have e1 : a.eval (.tmp 1) = .slice va bl vc := hF 1 (by decide +kernel)
        exact doesG_val (wanted_of rfl (yielded_of rfl e19)) (ex_move rfl e1) rfl rfl
      · intro a w' hF hB hd
        have e19 : a.eval (.tmp 19) = .bool true := hd 2 (by decide +kernel) (.inr (by decide))
        have e23 : a.eval (.tmp 23) = .slice va bl vc := hd 6 (by decide +kernel) (.inr (by decide))
        exact doesG_val (wanted_of rfl (yielded_of rfl e19)) (ex_convert rfl e23 ((V3.out.below hB).str)) rfl rfl
      · intro a w' hF hB hd
        have e19 : a.eval (.tmp 19) = .bool true := hd 2 (by decide +kernel) (.inr (by decide))
        have e22 : a.eval (.tmp 22) = .string (bstr l1) := hd 5 (by decide +kernel) (.inr (by decide))
        have e24 : a.eval (.tmp 24) = .string (bstr l1) := hd 7 (by decide +kernel) (.inr (by decide))
        exact doesG_val (wanted_of rfl (yielded_of rfl e19)) (ex_binOp rfl e22 e24 (by go_simp) (HNE.out w')) rfl rfl
      · intro a w' hF hB hd
        have e19 : a.eval (.tmp 19) = .bool true := hd 2 (by decide +kernel) (.inr (by decide))
        have e25 : a.eval (.tmp 25) = .bool false := hd 8 (by decide +kernel) (.inr (by decide))
        exact doesG_val rfl (ex_pick rfl e19 (by simp [e25])) rfl rfl
      · intro a w' hF hB hd
        have e26 : a.eval (.tmp 26) = .bool false := hd 9 (by decide +kernel) (.inr (by decide))
        exact doesG_val rfl (ex_move rfl e26) rfl rfl
      · intro a w' hF hB hd
        have e27 : a.eval (.tmp 27) = .bool false := hd 10 (by decide +kernel) (.inr (by decide))
        have e6 : a.eval (.tmp 6) = .int .i64 0 := hF 6 (by decide +kernel)
        exact doesG_val (wanted_of rfl (yielded_of rfl e27)) (ex_move rfl e6) rfl rfl
      · intro a w' hF hB hd
        have e27 : a.eval (.tmp 27) = .bool false := hd 10 (by decide +kernel) (.inr (by decide))
        have e28 : a.eval (.tmp 28) = .int .i64 0 := hd 11 (by decide +kernel) (.inr (by decide))
        exact doesG_val (wanted_of rfl (yielded_of rfl e27)) (ex_binOp rfl e28 rfl (by go_simp) (by go_simp)) rfl rfl
      · intro a w' hF hB hd
        have e27 : a.eval (.tmp 27) = .bool false := hd 10 (by decide +kernel) (.inr (by decide))
        have e29 : a.eval (.tmp 29) = .bool false := hd 12 (by decide +kernel) (.inr (by decide))
        exact doesG_val (wanted_of rfl (yielded_of rfl e27)) (ex_move rfl e29) rfl rfl
      · intro a w' hF hB hd
        have e30 : a.eval (.tmp 30) = .bool false := hd 13 (by decide +kernel) (.inr (by decide))
        exact doesG_skip (unwanted_of rfl (yielded_of rfl e30) (by decide)) rfl
      · intro a w' hF hB hd
        have e30 : a.eval (.tmp 30) = .bool false := hd 13 (by decide +kernel) (.inr (by decide))
        exact doesG_skip (unwanted_of rfl (yielded_of rfl e30) (by decide)) rfl
      · intro a w' hF hB hd
        have e30 : a.eval (.tmp 30) = .bool false := hd 13 (by decide +kernel) (.inr (by decide))
        exact doesG_skip (unwanted_of rfl (yielded_of rfl e30) (by decide)) rfl
      · intro a w' hF hB hd
        have e33 : a.eval (.tmp 33) = undef := hd 16 (by decide +kernel) (.inr (by decide))
        exact doesG_skip (unwanted_undef rfl (yielded_undef rfl e33)) rfl
      · intro a w' hF hB hd
        have e33 : a.eval (.tmp 33) = undef := hd 16 (by decide +kernel) (.inr (by decide))
        exact doesG_skip (unwanted_undef rfl (yielded_undef rfl e33)) rfl
      · intro a w' hF hB hd
        have e33 : a.eval (.tmp 33) = undef := hd 16 (by decide +kernel) (.inr (by decide))
        exact doesG_skip (unwanted_undef rfl (yielded_undef rfl e33)) rfl
      · intro a w' hF hB hd
        have e30 : a.eval (.tmp 30) = .bool false := hd 13 (by decide +kernel) (.inr (by decide))
        exact doesG_skip (unwanted_of rfl (yielded_of rfl e30) (by decide)) rfl
      · intro a w' hF hB hd
        have e27 : a.eval (.tmp 27) = .bool false := hd 10 (by decide +kernel) (.inr (by decide))
        have e30 : a.eval (.tmp 30) = .bool false := hd 13 (by decide +kernel) (.inr (by decide))
        exact doesG_val (wanted_of rfl (yielded_of rfl e27)) (ex_pick rfl e30 (rfl)) rfl rfl
      · intro a w' hF hB hd
        have e27 : a.eval (.tmp 27) = .bool false := hd 10 (by decide +kernel) (.inr (by decide))
        have e38 : a.eval (.tmp 38) = .bool false := hd 21 (by decide +kernel) (.inr (by decide))
        exact doesG_val rfl (ex_pick rfl e27 (by simp [e38])) rfl rfl
    · intro vs w4 hb hv hap
      have e39 : vs 22 = .bool false := hv 22 (by decide) (by decide)
      simp only [List.take_succ_cons, List.take_zero, List.drop_succ_cons, List.drop_zero, putOps, Act.put, List.setIfInBounds_toArray, List.set_cons_zero, List.set_cons_succ, e39]
      have W4 := Lib.hid (W3.out.on hb)
      have X4 := Lib.hid (X3.out.below hb X3.out.lt)
      clear hv hap e39 hb W3 X3 V3 M3
      generalize vs 0 = y0
      generalize vs 1 = y1
      generalize vs 2 = y2
      generalize vs 3 = y3
      generalize vs 4 = y4
      generalize vs 5 = y5
      generalize vs 6 = y6
      generalize vs 7 = y7
      generalize vs 8 = y8
      generalize vs 9 = y9
      generalize vs 10 = y10
      generalize vs 11 = y11
      generalize vs 12 = y12
      generalize vs 13 = y13
      generalize vs 14 = y14
      generalize vs 15 = y15
      generalize vs 16 = y16
      generalize vs 17 = y17
      generalize vs 18 = y18
      generalize vs 19 = y19
      generalize vs 20 = y20
      generalize vs 21 = y21
      go_wp2_with fail
      go_loopw [7, 8, 9] (fun a b i wr => ∃ k : Nat, k ≤ 8 ∧ i = .int .i64 (k : Int) ∧ a = .bool (ND.may (n0.take k)) ∧ b = .bool (ND.empty (n0.take k)) ∧ Blk wr w.heap.size 28 L ∧ Below w.heap.size w wr) (fun _ _ i _ => 8 - (intOf i).toNat)
      case atStart => exact ⟨0, by decide, rfl, rfl, rfl, X4.out, W4.out⟩
      case round =>
        clear X4 W4
        obtain ⟨k, hk, rfl, rfl, rfl, hx, hw⟩ := hrel
        have X5 := Lib.hid hx
        have W5 := Lib.hid hw
        obtain ⟨A, hA⟩ : ∃ A, A = ND.may (n0.take k) := ⟨_, rfl⟩
        obtain ⟨E, hE⟩ : ∃ E, E = ND.empty (n0.take k) := ⟨_, rfl⟩
        rw [← hA, ← hE]
        by_cases hlt : k < 8
        · have hkp : k < n0.length := by rw [N8.out]; exact hlt
          have hklt : (k : Int) < 8 := by omega
          have hk0 : (0 : Int) ≤ (k : Int) := by omega
          have hkt : ((k : Int)).toNat = k := Int.toNat_natCast k
          have HA2 := Lib.hid (may_take hkp)
          have HE2 := Lib.hid (empty_take hkp)
          rw [← hA] at HA2
          rw [← hE] at HE2
          have ck := X5.out.cell (k * 33) _ (HLC.out k hkp)
          have RG := Lib.hid (HRG.out _ X5.out k hkp)
          have PL := Lib.hid (pc_len (HPK.out _ (List.getElem_mem hkp)))
          have HC := Lib.hid (fun W => run_eql_ref (HPK.out _ (List.getElem_mem hkp)) ND.zp_ok W)
          obtain ⟨Zc, hZc⟩ : ∃ Z, Z = pc ND.zp := ⟨_, rfl⟩
          have hbr2 := hbr
          rw [← hZc] at HC hbr2
          have HBR := Lib.hid hbr2
          obtain ⟨PG, hPG⟩ : ∃ x, x = pc n0[k] := ⟨_, rfl⟩
          obtain ⟨x, hxx⟩ : ∃ x, x = n0[k].at_ := ⟨_, rfl⟩
          obtain ⟨Q, hQ⟩ : ∃ x, x = pgEq n0[k] ND.zp := ⟨_, rfl⟩
          rw [← hPG] at RG PL HC
          rw [← hQ] at HC HA2
          rw [← hxx] at ck HA2 HE2
          clear hZc hbr2 hPG hxx hQ hA hE hx hw hbr hbz hz HLC HRG
          by_cases hx0 : x = 0
          · subst hx0
            have HA3 := HA2.out
            have HE3 := HE2.out
            rw [show decide ((0 : Nat) ≠ 0) = false from rfl, Bool.false_or] at HA3
            rw [show decide ((0 : Nat) = 0) = true from rfl, Bool.and_true] at HE3
            have HA4 := Lib.hid HA3
            have HE4 := Lib.hid HE3
            clear HA2 HE2 HA3 HE3
            cases A <;> cases E <;>
              (go_wp2_with ((fail_if_success (with_reducible show bodyPost _ _ _ _ _ _)); first
                 | ((with_reducible show wpList _ _ _ (Oper.mk _ (.load _ (.tmp 53)) _ _ _ _ :: _) _ _); refine wpList_loadW 26 (.tmp 53) rfl w.heap.size (k * 33) rfl PG _ RG.out Tryd.underlying26 rfl (by rw [PL.out]; exact infoRf) rfl ?_)
                 | ((with_reducible show wpList _ _ _ (Oper.mk (some 55) (.build _ _) _ _ _ _ :: _) _ _); refine wpList_wanted rfl (.agg Zc.toArray) (ex_build0 rfl HBR.out) ?_)
                 | ((with_reducible show wpList _ _ _ (Oper.mk _ (.binOp _ _ (.tmp 54) (.tmp 55) _) _ _ _ _ :: _) _ _); refine wpList_binW (.tmp 54) (.tmp 55) .eql 26 26 rfl (.agg PG.toArray) (.agg Zc.toArray) _ rfl rfl (run_eqGuard_agg (P := Tryd.prog) (w := _) .eql 26 _ _ _ _ eqTypeRf) (HC.out _) rfl ?_))
               refine ⟨⟨k + 1, by omega, by go_num, ?_, ?_, X5.out, W5.out⟩, by simp [intOf]; omega⟩
               · rw [HA4.out]; rfl
               · rw [HE4.out])
          · have HA3 := HA2.out
            have HE3 := HE2.out
            rw [decide_eq_true hx0, Bool.true_or, Bool.and_true] at HA3
            rw [decide_eq_false hx0, Bool.and_false] at HE3
            have HA4 := Lib.hid HA3
            have HE4 := Lib.hid HE3
            have hxe : ((x : Int) == 0) = false := by simpa using hx0
            clear HA2 HE2 HA3 HE3
            cases A <;> cases E <;>
              (go_wp2_with ((fail_if_success (with_reducible show bodyPost _ _ _ _ _ _)); first
                 | ((with_reducible show wpList _ _ _ (Oper.mk _ (.load _ (.tmp 53)) _ _ _ _ :: _) _ _); refine wpList_loadW 26 (.tmp 53) rfl w.heap.size (k * 33) rfl PG _ RG.out Tryd.underlying26 rfl (by rw [PL.out]; exact infoRf) rfl ?_)
                 | ((with_reducible show wpList _ _ _ (Oper.mk (some 55) (.build _ _) _ _ _ _ :: _) _ _); refine wpList_wanted rfl (.agg Zc.toArray) (ex_build0 rfl HBR.out) ?_)
                 | ((with_reducible show wpList _ _ _ (Oper.mk _ (.binOp _ _ (.tmp 54) (.tmp 55) _) _ _ _ _ :: _) _ _); refine wpList_binW (.tmp 54) (.tmp 55) .eql 26 26 rfl (.agg PG.toArray) (.agg Zc.toArray) _ rfl rfl (run_eqGuard_agg (P := Tryd.prog) (w := _) .eql 26 _ _ _ _ eqTypeRf) (HC.out _) rfl ?_))
               refine ⟨⟨k + 1, by omega, by go_num, ?_, ?_, X5.out, W5.out⟩, by simp [intOf]; omega⟩
               · rw [HA4.out]
               · rw [HE4.out])
        · obtain rfl : k = 8 := by omega
          rw [List.take_of_length_le (by rw [N8.out]; exact Nat.le_refl _)] at hA hE
          have HPN5 := Lib.hid HPN.out
          clear hx hw hbr HLC HRG HPM
          cases A with
          | true =>
            have g1 := (HGL.out.1 hA.symm)
            have hgn := HGN.out
            rw [g1.1, g1.2, ← HL.out] at hgn
            have HGN2 := Lib.hid hgn
            have hem := HEM.out
            rw [← hE] at hem
            have HEM2 := Lib.hid hem
            clear hgn hem g1 HGL HGN HEM hA hE
            go_upto_region 11 with (first
              | ((with_reducible show wpList _ _ _ (Oper.mk _ (.load _ (.tmp 2)) _ _ _ _ :: _) _ _); refine wpList_load_mid rfl 28 (.tmp 2) rfl w.heap.size 0 rfl L _ X5.out.range Tryd.underlying28 rfl (by rw [L264.out]; exact infoNdP) ?_)
              | (go_at_call 8; (with_reducible refine (HPN5.out _).mono ?_); rintro e w6 ⟨u6, rfl, o6, b6⟩; have R6 := Lib.hid o6.rd; have X6 := Lib.hid (X5.out.below b6 X5.out.lt); have W6 := Lib.hid (W5.out.on b6); clear o6 b6)
              | (go_at_call 13; (with_reducible refine (HGN2.out _ _ R6.out).mono ?_); rintro e w7 ⟨rfl, b7⟩; have X7 := Lib.hid (X6.out.below b7 X6.out.lt); have W7 := Lib.hid (W6.out.on b7); clear b7)
              | ((with_reducible show wpList _ _ _ (Oper.mk _ (.store _ (.tmp 10) (.tmp 71)) _ _ _ _ :: _) _ _); refine wpList_store_blk rfl 28 (.tmp 10) (.tmp 71) rfl w7.heap.size 0 L rfl rfl 28 Z0 (Blk.new w7 28 Z0 _ rfl) (by have := L264.out; have := Z264.out; omega) (by rw [L264.out]; exact infoNdP) L1.out ?_; intro w8 b' g'; rw [splice_all _ _ (by have := L264.out; have := Z264.out; omega)] at b'; have bb := alloc_turn (Below.refl _ _) g'; have G8 := Lib.hid b'; have X8 := Lib.hid (X7.out.below bb X7.out.lt); have W8 := Lib.hid (W7.out.on bb); clear b' g' bb))
            clear X5 W5 X6 W6 R6 X7 W7
            go_wp2_with ((fail_if_success (with_reducible show bodyPost _ _ _ _ _ _)); first
              | ((with_reducible show wpList _ _ _ (Oper.mk _ (.load _ (.tmp 10)) _ _ _ _ :: _) _ _); refine wpList_loadW 28 (.tmp 10) rfl w7.heap.size 0 rfl L _ G8.out.range Tryd.underlying28 rfl (by rw [L264.out]; exact infoNdP) rfl ?_)
              | ((with_reducible show wpList _ _ _ (Oper.mk _ (.binOp _ _ (.tmp 81) (.tmp 82) _) _ _ _ _ :: _) _ _); refine wpList_binW (.tmp 81) (.tmp 82) .eql 28 28 rfl (.agg L.toArray) (.agg L.toArray) _ rfl rfl (run_eqGuard_agg (P := Tryd.prog) (w := _) .eql 28 _ _ _ _ eqTypeNd) (HLQ.out _) rfl ?_)
              | ((with_reducible show wpList _ _ _ (Oper.mk _ (.load _ (.tmp 2)) _ _ _ _ :: _) _ _); refine wpList_loadW 28 (.tmp 2) rfl w.heap.size 0 rfl L _ X8.out.range Tryd.underlying28 rfl (by rw [L264.out]; exact infoNdP) rfl ?_)
              | (go_at_call 10; (with_reducible refine (HEM2.out _).mono ?_); rintro e w9 ⟨rfl, b9⟩; have W9 := Lib.hid (W8.out.on b9); clear b9)
              | (go_at_call 12; (with_reducible refine (ndawake_any _ (HT.out.below W9.out)).mono ?_); rintro e w10 ⟨rfl, b9⟩; have W10 := Lib.hid (W9.out.on b9); clear b9))
            go_ret
            exact ⟨rfl, W10.out⟩
          | false =>
            have g1 := (HGL.out.2 hA.symm)
            have hgn := HGN.out
            rw [g1.1, g1.2, ← HZ0.out] at hgn
            have HGN2 := Lib.hid hgn
            have hem := HEM.out
            rw [← hE] at hem
            have HEM2 := Lib.hid hem
            clear hgn hem g1 HGL HGN HEM hA hE
            go_upto_region 11 with (first
              | ((with_reducible show wpList _ _ _ (Oper.mk _ (.load _ (.tmp 2)) _ _ _ _ :: _) _ _); refine wpList_load_mid rfl 28 (.tmp 2) rfl w.heap.size 0 rfl L _ X5.out.range Tryd.underlying28 rfl (by rw [L264.out]; exact infoNdP) ?_)
              | (go_at_call 8; (with_reducible refine (HPN5.out _).mono ?_); rintro e w6 ⟨u6, rfl, o6, b6⟩; have R6 := Lib.hid o6.rd; have X6 := Lib.hid (X5.out.below b6 X5.out.lt); have W6 := Lib.hid (W5.out.on b6); clear o6 b6)
              | (go_at_call 13; (with_reducible refine (HGN2.out _ _ R6.out).mono ?_); rintro e w7 ⟨rfl, b7⟩; have X7 := Lib.hid (X6.out.below b7 X6.out.lt); have W7 := Lib.hid (W6.out.on b7); clear b7)
              | ((with_reducible show wpList _ _ _ (Oper.mk _ (.store _ (.tmp 10) (.tmp 71)) _ _ _ _ :: _) _ _); refine wpList_store_blk rfl 28 (.tmp 10) (.tmp 71) rfl w7.heap.size 0 Z0 rfl rfl 28 Z0 (Blk.new w7 28 Z0 _ rfl) (by have := Z264.out; have := Z264.out; omega) (by rw [Z264.out]; exact infoNdP) Z1.out ?_; intro w8 b' g'; rw [splice_all _ _ (by have := Z264.out; have := Z264.out; omega)] at b'; have bb := alloc_turn (Below.refl _ _) g'; have G8 := Lib.hid b'; have X8 := Lib.hid (X7.out.below bb X7.out.lt); have W8 := Lib.hid (W7.out.on bb); clear b' g' bb))
            clear X5 W5 X6 W6 R6 X7 W7
            go_wp2_with ((fail_if_success (with_reducible show bodyPost _ _ _ _ _ _)); first
              | ((with_reducible show wpList _ _ _ (Oper.mk _ (.load _ (.tmp 2)) _ _ _ _ :: _) _ _); refine wpList_loadW 28 (.tmp 2) rfl w.heap.size 0 rfl L _ X8.out.range Tryd.underlying28 rfl (by rw [L264.out]; exact infoNdP) rfl ?_)
              | (go_at_call 10; (with_reducible refine (HEM2.out _).mono ?_); rintro e w9 ⟨rfl, b9⟩; have W9 := Lib.hid (W8.out.on b9); clear b9)
              | (go_at_call 12; (with_reducible refine (ndawake_any _ (HT.out.below W9.out)).mono ?_); rintro e w10 ⟨rfl, b9⟩; have W10 := Lib.hid (W9.out.on b9); clear b9))
            go_ret
            exact ⟨rfl, W10.out⟩
  | false =>
    have g1 := ND.got_no hok
    have hrc := (HGC.out hok).symm
    subst hrc
    rw [g1.2]
    have HBZ := Lib.hid hbz
    clear g1 hok HB288 HGC GOK HPM
    refine wp_region_g (by kernel_rfl) 23 (by decide) (by kernel_rfl) (by kernel_rfl) (by kernel_rfl) (w3.heap.size) (Nat.le_refl _) [.val (.int .i64 4), .val (.bool false), .val (.bool false), .val undef, .val undef, .val undef, .val undef, .val undef, .val undef, .val (.bool false), .val (.bool false), .val (.int .i64 4), .val (.bool true), .val (.bool true), .val (.int .i64 4), .val (.bool false), .val (.bool false), .val (.agg Z0.toArray), .val (.agg Z0.toArray), .val (.bool false), .val (.bool false), .val (.bool false), .val (.bool false)] (fun _ => 23) ?_ ?_
    · refine ⟨?_, ?_, ?_, ?_, ?_, ?_, ?_, ?_, ?_, ?_, ?_, ?_, ?_, ?_, ?_, ?_, ?_, ?_, ?_, ?_, ?_, ?_, ?_, trivial⟩
      · intro a w' hF hB hd
        have e6 : a.eval (.tmp 6) = .int .i64 4 := hF 6 (by decide +kernel)
        exact doesG_val rfl (ex_move rfl e6) rfl rfl
      · intro a w' hF hB hd
        have e17 : a.eval (.tmp 17) = .int .i64 4 := hd 0 (by decide +kernel) (.inr (by decide))
        exact doesG_val rfl (ex_binOp rfl e17 rfl (by go_simp) (by go_simp)) rfl rfl
      · intro a w' hF hB hd
        have e18 : a.eval (.tmp 18) = .bool false := hd 1 (by decide +kernel) (.inr (by decide))
        exact doesG_val rfl (ex_move rfl e18) rfl rfl
      · intro a w' hF hB hd
        have e19 : a.eval (.tmp 19) = .bool false := hd 2 (by decide +kernel) (.inr (by decide))
        exact doesG_skip (unwanted_of rfl (yielded_of rfl e19) (by decide)) rfl
      · intro a w' hF hB hd
        have e19 : a.eval (.tmp 19) = .bool false := hd 2 (by decide +kernel) (.inr (by decide))
        exact doesG_skip (unwanted_of rfl (yielded_of rfl e19) (by decide)) rfl
      · intro a w' hF hB hd
        have e19 : a.eval (.tmp 19) = .bool false := hd 2 (by decide +kernel) (.inr (by decide))
        exact doesG_skip (unwanted_of rfl (yielded_of rfl e19) (by decide)) rfl
      · intro a w' hF hB hd
        have e19 : a.eval (.tmp 19) = .bool false := hd 2 (by decide +kernel) (.inr (by decide))
        exact doesG_skip (unwanted_of rfl (yielded_of rfl e19) (by decide)) rfl
      · intro a w' hF hB hd
        have e19 : a.eval (.tmp 19) = .bool false := hd 2 (by decide +kernel) (.inr (by decide))
        exact doesG_skip (unwanted_of rfl (yielded_of rfl e19) (by decide)) rfl
      · intro a w' hF hB hd
        have e19 : a.eval (.tmp 19) = .bool false := hd 2 (by decide +kernel) (.inr (by decide))
        exact doesG_skip (unwanted_of rfl (yielded_of rfl e19) (by decide)) rfl
      · intro a w' hF hB hd
        have e19 : a.eval (.tmp 19) = .bool false := hd 2 (by decide +kernel) (.inr (by decide))
        exact doesG_val rfl (ex_pick rfl e19 (rfl)) rfl rfl
      · intro a w' hF hB hd
        have e26 : a.eval (.tmp 26) = .bool false := hd 9 (by decide +kernel) (.inr (by decide))
        exact doesG_val rfl (ex_move rfl e26) rfl rfl
      · intro a w' hF hB hd
        have e27 : a.eval (.tmp 27) = .bool false := hd 10 (by decide +kernel) (.inr (by decide))
        have e6 : a.eval (.tmp 6) = .int .i64 4 := hF 6 (by decide +kernel)
        exact doesG_val (wanted_of rfl (yielded_of rfl e27)) (ex_move rfl e6) rfl rfl
      · intro a w' hF hB hd
        have e27 : a.eval (.tmp 27) = .bool false := hd 10 (by decide +kernel) (.inr (by decide))
        have e28 : a.eval (.tmp 28) = .int .i64 4 := hd 11 (by decide +kernel) (.inr (by decide))
        exact doesG_val (wanted_of rfl (yielded_of rfl e27)) (ex_binOp rfl e28 rfl (by go_simp) (by go_simp)) rfl rfl
      · intro a w' hF hB hd
        have e27 : a.eval (.tmp 27) = .bool false := hd 10 (by decide +kernel) (.inr (by decide))
        have e29 : a.eval (.tmp 29) = .bool true := hd 12 (by decide +kernel) (.inr (by decide))
        exact doesG_val (wanted_of rfl (yielded_of rfl e27)) (ex_move rfl e29) rfl rfl
      · intro a w' hF hB hd
        have e30 : a.eval (.tmp 30) = .bool true := hd 13 (by decide +kernel) (.inr (by decide))
        have e6 : a.eval (.tmp 6) = .int .i64 4 := hF 6 (by decide +kernel)
        exact doesG_val (wanted_of rfl (yielded_of rfl e30)) (ex_move rfl e6) rfl rfl
      · intro a w' hF hB hd
        have e30 : a.eval (.tmp 30) = .bool true := hd 13 (by decide +kernel) (.inr (by decide))
        have e31 : a.eval (.tmp 31) = .int .i64 4 := hd 14 (by decide +kernel) (.inr (by decide))
        exact doesG_val (wanted_of rfl (yielded_of rfl e30)) (ex_binOp rfl e31 rfl (by go_simp) (by go_simp)) rfl rfl
      · intro a w' hF hB hd
        have e30 : a.eval (.tmp 30) = .bool true := hd 13 (by decide +kernel) (.inr (by decide))
        have e32 : a.eval (.tmp 32) = .bool false := hd 15 (by decide +kernel) (.inr (by decide))
        exact doesG_val (wanted_of rfl (yielded_of rfl e30)) (ex_move rfl e32) rfl rfl
      · intro a w' hF hB hd
        have e33 : a.eval (.tmp 33) = .bool false := hd 16 (by decide +kernel) (.inr (by decide))
        have e5 : a.eval (.tmp 5) = .pointer (some ⟨mb, 0, none⟩) := hF 5 (by decide +kernel)
        exact doesG_val (wanted_of rfl (yielded_of rfl e33)) (v := .agg Z0.toArray) (ex_load_part 28 (.tmp 5) rfl mb 0 e5 Z0 _ (M3.out.below hB M3.out.lt).range Tryd.underlying28 rfl (by rw [Z264.out]; exact infoNdP)) rfl rfl
      · intro a w' hF hB hd
        have e33 : a.eval (.tmp 33) = .bool false := hd 16 (by decide +kernel) (.inr (by decide))
        exact doesG_val (wanted_of rfl (yielded_of rfl e33)) (v := .agg Z0.toArray) (ex_build0 rfl HBZ.out) rfl rfl
      · intro a w' hF hB hd
        have e33 : a.eval (.tmp 33) = .bool false := hd 16 (by decide +kernel) (.inr (by decide))
        have e34 : a.eval (.tmp 34) = .agg Z0.toArray := hd 17 (by decide +kernel) (.inr (by decide))
        have e35 : a.eval (.tmp 35) = .agg Z0.toArray := hd 18 (by decide +kernel) (.inr (by decide))
        exact doesG_val (wanted_of rfl (yielded_of rfl e33)) (ex_binOp rfl e34 e35 (run_eqGuard_agg (P := Tryd.prog) (w := w') .neq 28 _ _ _ _ eqTypeNd) (ZQ.out w')) rfl rfl
      · intro a w' hF hB hd
        have e30 : a.eval (.tmp 30) = .bool true := hd 13 (by decide +kernel) (.inr (by decide))
        have e33 : a.eval (.tmp 33) = .bool false := hd 16 (by decide +kernel) (.inr (by decide))
        have e36 : a.eval (.tmp 36) = .bool false := hd 19 (by decide +kernel) (.inr (by decide))
        exact doesG_val (wanted_of rfl (yielded_of rfl e30)) (ex_pick rfl e33 (by simp [e36])) rfl rfl
      · intro a w' hF hB hd
        have e27 : a.eval (.tmp 27) = .bool false := hd 10 (by decide +kernel) (.inr (by decide))
        have e30 : a.eval (.tmp 30) = .bool true := hd 13 (by decide +kernel) (.inr (by decide))
        have e37 : a.eval (.tmp 37) = .bool false := hd 20 (by decide +kernel) (.inr (by decide))
        exact doesG_val (wanted_of rfl (yielded_of rfl e27)) (ex_pick rfl e30 (by simp [e37])) rfl rfl
      · intro a w' hF hB hd
        have e27 : a.eval (.tmp 27) = .bool false := hd 10 (by decide +kernel) (.inr (by decide))
        have e38 : a.eval (.tmp 38) = .bool false := hd 21 (by decide +kernel) (.inr (by decide))
        exact doesG_val rfl (ex_pick rfl e27 (by simp [e38])) rfl rfl
    · intro vs w4 hb hv hap
      have e39 : vs 22 = .bool false := hv 22 (by decide) (by decide)
      simp only [List.take_succ_cons, List.take_zero, List.drop_succ_cons, List.drop_zero, putOps, Act.put, List.setIfInBounds_toArray, List.set_cons_zero, List.set_cons_succ, e39]
      have W4 := Lib.hid (W3.out.on hb)
      have X4 := Lib.hid (X3.out.below hb X3.out.lt)
      clear hv hap e39 hb W3 X3 V3 M3
      generalize vs 0 = y0
      generalize vs 1 = y1
      generalize vs 2 = y2
      generalize vs 3 = y3
      generalize vs 4 = y4
      generalize vs 5 = y5
      generalize vs 6 = y6
      generalize vs 7 = y7
      generalize vs 8 = y8
      generalize vs 9 = y9
      generalize vs 10 = y10
      generalize vs 11 = y11
      generalize vs 12 = y12
      generalize vs 13 = y13
      generalize vs 14 = y14
      generalize vs 15 = y15
      generalize vs 16 = y16
      generalize vs 17 = y17
      generalize vs 18 = y18
      generalize vs 19 = y19
      generalize vs 20 = y20
      generalize vs 21 = y21
      go_wp2_with fail
      go_loopw [7, 8, 9] (fun a b i wr => ∃ k : Nat, k ≤ 8 ∧ i = .int .i64 (k : Int) ∧ a = .bool (ND.may (n0.take k)) ∧ b = .bool (ND.empty (n0.take k)) ∧ Blk wr w.heap.size 28 L ∧ Below w.heap.size w wr) (fun _ _ i _ => 8 - (intOf i).toNat)
      case atStart => exact ⟨0, by decide, rfl, rfl, rfl, X4.out, W4.out⟩
      case round =>
        clear X4 W4
        obtain ⟨k, hk, rfl, rfl, rfl, hx, hw⟩ := hrel
        have X5 := Lib.hid hx
        have W5 := Lib.hid hw
        obtain ⟨A, hA⟩ : ∃ A, A = ND.may (n0.take k) := ⟨_, rfl⟩
        obtain ⟨E, hE⟩ : ∃ E, E = ND.empty (n0.take k) := ⟨_, rfl⟩
        rw [← hA, ← hE]
        by_cases hlt : k < 8
        · have hkp : k < n0.length := by rw [N8.out]; exact hlt
          have hklt : (k : Int) < 8 := by omega
          have hk0 : (0 : Int) ≤ (k : Int) := by omega
          have hkt : ((k : Int)).toNat = k := Int.toNat_natCast k
          have HA2 := Lib.hid (may_take hkp)
          have HE2 := Lib.hid (empty_take hkp)
          rw [← hA] at HA2
          rw [← hE] at HE2
          have ck := X5.out.cell (k * 33) _ (HLC.out k hkp)
          have RG := Lib.hid (HRG.out _ X5.out k hkp)
          have PL := Lib.hid (pc_len (HPK.out _ (List.getElem_mem hkp)))
          have HC := Lib.hid (fun W => run_eql_ref (HPK.out _ (List.getElem_mem hkp)) ND.zp_ok W)
          obtain ⟨Zc, hZc⟩ : ∃ Z, Z = pc ND.zp := ⟨_, rfl⟩
          have hbr2 := hbr
          rw [← hZc] at HC hbr2
          have HBR := Lib.hid hbr2
          obtain ⟨PG, hPG⟩ : ∃ x, x = pc n0[k] := ⟨_, rfl⟩
          obtain ⟨x, hxx⟩ : ∃ x, x = n0[k].at_ := ⟨_, rfl⟩
          obtain ⟨Q, hQ⟩ : ∃ x, x = pgEq n0[k] ND.zp := ⟨_, rfl⟩
          rw [← hPG] at RG PL HC
          rw [← hQ] at HC HA2
          rw [← hxx] at ck HA2 HE2
          clear hZc hbr2 hPG hxx hQ hA hE hx hw hbr hbz hz HLC HRG
          by_cases hx0 : x = 0
          · subst hx0
            have HA3 := HA2.out
            have HE3 := HE2.out
            rw [show decide ((0 : Nat) ≠ 0) = false from rfl, Bool.false_or] at HA3
            rw [show decide ((0 : Nat) = 0) = true from rfl, Bool.and_true] at HE3
            have HA4 := Lib.hid HA3
            have HE4 := Lib.hid HE3
            clear HA2 HE2 HA3 HE3
            cases A <;> cases E <;>
              (go_wp2_with ((fail_if_success (with_reducible show bodyPost _ _ _ _ _ _)); first
                 | ((with_reducible show wpList _ _ _ (Oper.mk _ (.load _ (.tmp 53)) _ _ _ _ :: _) _ _); refine wpList_loadW 26 (.tmp 53) rfl w.heap.size (k * 33) rfl PG _ RG.out Tryd.underlying26 rfl (by rw [PL.out]; exact infoRf) rfl ?_)
                 | ((with_reducible show wpList _ _ _ (Oper.mk (some 55) (.build _ _) _ _ _ _ :: _) _ _); refine wpList_wanted rfl (.agg Zc.toArray) (ex_build0 rfl HBR.out) ?_)
                 | ((with_reducible show wpList _ _ _ (Oper.mk _ (.binOp _ _ (.tmp 54) (.tmp 55) _) _ _ _ _ :: _) _ _); refine wpList_binW (.tmp 54) (.tmp 55) .eql 26 26 rfl (.agg PG.toArray) (.agg Zc.toArray) _ rfl rfl (run_eqGuard_agg (P := Tryd.prog) (w := _) .eql 26 _ _ _ _ eqTypeRf) (HC.out _) rfl ?_))
               refine ⟨⟨k + 1, by omega, by go_num, ?_, ?_, X5.out, W5.out⟩, by simp [intOf]; omega⟩
               · rw [HA4.out]; rfl
               · rw [HE4.out])
          · have HA3 := HA2.out
            have HE3 := HE2.out
            rw [decide_eq_true hx0, Bool.true_or, Bool.and_true] at HA3
            rw [decide_eq_false hx0, Bool.and_false] at HE3
            have HA4 := Lib.hid HA3
            have HE4 := Lib.hid HE3
            have hxe : ((x : Int) == 0) = false := by simpa using hx0
            clear HA2 HE2 HA3 HE3
            cases A <;> cases E <;>
              (go_wp2_with ((fail_if_success (with_reducible show bodyPost _ _ _ _ _ _)); first
                 | ((with_reducible show wpList _ _ _ (Oper.mk _ (.load _ (.tmp 53)) _ _ _ _ :: _) _ _); refine wpList_loadW 26 (.tmp 53) rfl w.heap.size (k * 33) rfl PG _ RG.out Tryd.underlying26 rfl (by rw [PL.out]; exact infoRf) rfl ?_)
                 | ((with_reducible show wpList _ _ _ (Oper.mk (some 55) (.build _ _) _ _ _ _ :: _) _ _); refine wpList_wanted rfl (.agg Zc.toArray) (ex_build0 rfl HBR.out) ?_)
                 | ((with_reducible show wpList _ _ _ (Oper.mk _ (.binOp _ _ (.tmp 54) (.tmp 55) _) _ _ _ _ :: _) _ _); refine wpList_binW (.tmp 54) (.tmp 55) .eql 26 26 rfl (.agg PG.toArray) (.agg Zc.toArray) _ rfl rfl (run_eqGuard_agg (P := Tryd.prog) (w := _) .eql 26 _ _ _ _ eqTypeRf) (HC.out _) rfl ?_))
               refine ⟨⟨k + 1, by omega, by go_num, ?_, ?_, X5.out, W5.out⟩, by simp [intOf]; omega⟩
               · rw [HA4.out]
               · rw [HE4.out])
        · obtain rfl : k = 8 := by omega
          rw [List.take_of_length_le (by rw [N8.out]; exact Nat.le_refl _)] at hA hE
          have HPN5 := Lib.hid HPN.out
          clear hx hw hbr HLC HRG
          cases A with
          | true =>
            have g1 := (HGL.out.1 hA.symm)
            have hgn := HGN.out
            rw [g1.1, g1.2, ← HL.out] at hgn
            have HGN2 := Lib.hid hgn
            have hem := HEM.out
            rw [← hE] at hem
            have HEM2 := Lib.hid hem
            clear hgn hem g1 HGL HGN HEM hA hE
            go_upto_region 11 with (first
              | ((with_reducible show wpList _ _ _ (Oper.mk _ (.load _ (.tmp 2)) _ _ _ _ :: _) _ _); refine wpList_load_mid rfl 28 (.tmp 2) rfl w.heap.size 0 rfl L _ X5.out.range Tryd.underlying28 rfl (by rw [L264.out]; exact infoNdP) ?_)
              | (go_at_call 8; (with_reducible refine (HPN5.out _).mono ?_); rintro e w6 ⟨u6, rfl, o6, b6⟩; have R6 := Lib.hid o6.rd; have X6 := Lib.hid (X5.out.below b6 X5.out.lt); have W6 := Lib.hid (W5.out.on b6); clear o6 b6)
              | (go_at_call 13; (with_reducible refine (HGN2.out _ _ R6.out).mono ?_); rintro e w7 ⟨rfl, b7⟩; have X7 := Lib.hid (X6.out.below b7 X6.out.lt); have W7 := Lib.hid (W6.out.on b7); clear b7)
              | ((with_reducible show wpList _ _ _ (Oper.mk _ (.store _ (.tmp 10) (.tmp 71)) _ _ _ _ :: _) _ _); refine wpList_store_blk rfl 28 (.tmp 10) (.tmp 71) rfl w7.heap.size 0 L rfl rfl 28 Z0 (Blk.new w7 28 Z0 _ rfl) (by have := L264.out; have := Z264.out; omega) (by rw [L264.out]; exact infoNdP) L1.out ?_; intro w8 b' g'; rw [splice_all _ _ (by have := L264.out; have := Z264.out; omega)] at b'; have bb := alloc_turn (Below.refl _ _) g'; have G8 := Lib.hid b'; have X8 := Lib.hid (X7.out.below bb X7.out.lt); have W8 := Lib.hid (W7.out.on bb); clear b' g' bb))
            clear X5 W5 X6 W6 R6 X7 W7
            go_wp2_with ((fail_if_success (with_reducible show bodyPost _ _ _ _ _ _)); first
              | ((with_reducible show wpList _ _ _ (Oper.mk _ (.load _ (.tmp 10)) _ _ _ _ :: _) _ _); refine wpList_loadW 28 (.tmp 10) rfl w7.heap.size 0 rfl L _ G8.out.range Tryd.underlying28 rfl (by rw [L264.out]; exact infoNdP) rfl ?_)
              | ((with_reducible show wpList _ _ _ (Oper.mk _ (.binOp _ _ (.tmp 81) (.tmp 82) _) _ _ _ _ :: _) _ _); refine wpList_binW (.tmp 81) (.tmp 82) .eql 28 28 rfl (.agg L.toArray) (.agg L.toArray) _ rfl rfl (run_eqGuard_agg (P := Tryd.prog) (w := _) .eql 28 _ _ _ _ eqTypeNd) (HLQ.out _) rfl ?_)
              | ((with_reducible show wpList _ _ _ (Oper.mk _ (.load _ (.tmp 2)) _ _ _ _ :: _) _ _); refine wpList_loadW 28 (.tmp 2) rfl w.heap.size 0 rfl L _ X8.out.range Tryd.underlying28 rfl (by rw [L264.out]; exact infoNdP) rfl ?_)
              | (go_at_call 10; (with_reducible refine (HEM2.out _).mono ?_); rintro e w9 ⟨rfl, b9⟩; have W9 := Lib.hid (W8.out.on b9); clear b9)
              | (go_at_call 12; (with_reducible refine (ndawake_any _ (HT.out.below W9.out)).mono ?_); rintro e w10 ⟨rfl, b9⟩; have W10 := Lib.hid (W9.out.on b9); clear b9))
            go_ret
            exact ⟨rfl, W10.out⟩
          | false =>
            have g1 := (HGL.out.2 hA.symm)
            have hgn := HGN.out
            rw [g1.1, g1.2, ← HZ0.out] at hgn
            have HGN2 := Lib.hid hgn
            have hem := HEM.out
            rw [← hE] at hem
            have HEM2 := Lib.hid hem
            clear hgn hem g1 HGL HGN HEM hA hE
            go_upto_region 11 with (first
              | ((with_reducible show wpList _ _ _ (Oper.mk _ (.load _ (.tmp 2)) _ _ _ _ :: _) _ _); refine wpList_load_mid rfl 28 (.tmp 2) rfl w.heap.size 0 rfl L _ X5.out.range Tryd.underlying28 rfl (by rw [L264.out]; exact infoNdP) ?_)
              | (go_at_call 8; (with_reducible refine (HPN5.out _).mono ?_); rintro e w6 ⟨u6, rfl, o6, b6⟩; have R6 := Lib.hid o6.rd; have X6 := Lib.hid (X5.out.below b6 X5.out.lt); have W6 := Lib.hid (W5.out.on b6); clear o6 b6)
              | (go_at_call 13; (with_reducible refine (HGN2.out _ _ R6.out).mono ?_); rintro e w7 ⟨rfl, b7⟩; have X7 := Lib.hid (X6.out.below b7 X6.out.lt); have W7 := Lib.hid (W6.out.on b7); clear b7)
              | ((with_reducible show wpList _ _ _ (Oper.mk _ (.store _ (.tmp 10) (.tmp 71)) _ _ _ _ :: _) _ _); refine wpList_store_blk rfl 28 (.tmp 10) (.tmp 71) rfl w7.heap.size 0 Z0 rfl rfl 28 Z0 (Blk.new w7 28 Z0 _ rfl) (by have := Z264.out; have := Z264.out; omega) (by rw [Z264.out]; exact infoNdP) Z1.out ?_; intro w8 b' g'; rw [splice_all _ _ (by have := Z264.out; have := Z264.out; omega)] at b'; have bb := alloc_turn (Below.refl _ _) g'; have G8 := Lib.hid b'; have X8 := Lib.hid (X7.out.below bb X7.out.lt); have W8 := Lib.hid (W7.out.on bb); clear b' g' bb))
            clear X5 W5 X6 W6 R6 X7 W7
            go_wp2_with ((fail_if_success (with_reducible show bodyPost _ _ _ _ _ _)); first
              | ((with_reducible show wpList _ _ _ (Oper.mk _ (.load _ (.tmp 2)) _ _ _ _ :: _) _ _); refine wpList_loadW 28 (.tmp 2) rfl w.heap.size 0 rfl L _ X8.out.range Tryd.underlying28 rfl (by rw [L264.out]; exact infoNdP) rfl ?_)
              | (go_at_call 10; (with_reducible refine (HEM2.out _).mono ?_); rintro e w9 ⟨rfl, b9⟩; have W9 := Lib.hid (W8.out.on b9); clear b9)
              | (go_at_call 12; (with_reducible refine (ndawake_any _ (HT.out.below W9.out)).mono ?_); rintro e w10 ⟨rfl, b9⟩; have W10 := Lib.hid (W9.out.on b9); clear b9))
            go_ret
            exact ⟨rfl, W10.out⟩
set_option maxRecDepth 100000 in
theorem reads (os : Os) {H : Type} (enc : TypeId × Value → H) : ∃ places, DataW.whole enc Tryd.prog ((World.doorLaid Tryd.prog 400 os).forCall (fun _ _ => 0) ⟨#[], #[.agg (RT.pcs ND.zn).toArray, .slice none 0 0], []⟩).memory Tryd.f6.params.toList Rows.nodeBackSpec.vars false (#[.agg (RT.pcs ND.zn).toArray, .slice none 0 0] : Array Value).toList 8 = some ([litNd, .nil], [], places) :=
  ⟨[], by kernel_rfl⟩
set_option maxRecDepth 100000 in
theorem wok (os : Os) : Input.okWideB Tryd.prog ((World.doorLaid Tryd.prog 400 os).forCall (fun _ _ => 0) ⟨#[], #[.agg (RT.pcs ND.zn).toArray, .slice none 0 0], []⟩) 6 ⟨#[], #[.agg (RT.pcs ND.zn).toArray, .slice none 0 0], []⟩ = true := by kernel_rfl
set_option linter.unusedVariables false in
set_option maxHeartbeats 1000000 in
set_option maxRecDepth 100000 in
theorem lifted (os : Os) (started : os.Started) (H : Type) (enc : TypeId × Value → H) (F : Stop.Interp) :
    ReturnsInHanded {} Tryd.checked os 6 .any ((OpenSpec.ofChange Rows.nodeBackSpec).preRow enc Tryd.prog Tryd.f6 Rows.nodeBackRow.domain false laidP) (((OpenSpec.ofChange Rows.nodeBackSpec).at F).post enc Tryd.prog Tryd.f6 false true false false) := by
  obtain ⟨places, hx⟩ := reads os enc
  refine returnsInHanded_of_row (C := Tryd.checked) (s := OpenSpec.ofChange Rows.nodeBackSpec) own started (by kernel_rfl) Tryd.func6
    (witness_row_atRef (enc := enc) (C := Tryd.checked) false (World.doorLaid Tryd.prog 400 os) #[.agg (RT.pcs ND.zn).toArray, .slice none 0 0] rfl (by kernel_rfl) (by kernel_rfl) (wok os)
      (OpenSpec.preRow_of_cond 8 hx (by kernel_rfl) (fun k hk => by cases hk) (by kernel_rfl) (doorP_met os _))) ?_
  intro W base args ds gs before hval0 hW _ hcond hsz0 hL _ _
  have hsz : (DataW.weightsEach Tryd.prog (Tryd.f6.params.toList ++ Rows.nodeBackSpec.plain.varTypes Tryd.prog) (ds ++ gs)).all (· ≤ reachBytes) = true := hsz0
  clear hsz0
  have hval : ∀ (j : Nat) t v, Tryd.f6.params[j]? = some t → args[j]? = some v → Value.okWide Tryd.prog W .any base t v := hval0
  have hW' := hW
  obtain ⟨p, q, hA0, hV, rfl, _, _⟩ := hW
  have hA : DataW.TrodAll enc Tryd.prog W 0 (fun _ => true) true Tryd.f6.params.toList args.toList ds p := hA0
  rw [Tryd.params6] at hA hval hsz
  obtain ⟨v0, vs0, d0, ds0, p0, q0, hargs, rfl, rfl, g0, r0⟩ := trodAll_cons hA
  obtain ⟨v1, vs1, d1, ds1, p1, q1, rfl, rfl, rfl, g1, r1⟩ := trodAll_cons r0
  obtain ⟨rfl, rfl, rfl⟩ := trodAll_nil r1
  obtain rfl : args = #[v0, v1] := by cases args; simp_all
  obtain ⟨rfl, rfl⟩ := trodVars_none hV
  obtain ⟨nn0, hh0, rfl⟩ := open_node (hval 0 28 v0 rfl rfl) g0
  obtain ⟨l1, h1⟩ := open_bytes (hval 1 29 v1 rfl rfl) g1 (fun elems spare e => sized_slice hsz (j := 1) (t := 29) (e := 5) rfl (by rw [← e]; rfl) Tryd.underlying29)
  clear hA0 hval0
  have hlt := hW'.lt
  refine (walk W (tabP_of_laid hL) nn0 hh0 v1 l1 h1).mono fun e W' ⟨he, hb⟩ => ?_
  subst he
  have hargs : DataW.TrodAll enc Tryd.prog W' 0 (fun b => decide (b < W.heap.size)) true _ _ _ _ := (trodAll_cons_mk (Below.trod laidOut (by kernel_rfl) (of_decide_eq_true (by kernel_rfl)) g0 hb (fun x hx => hlt x (by simp [hx]))) (trodAll_cons_mk (Below.trod laidOut (by kernel_rfl) (of_decide_eq_true (by kernel_rfl)) g1 hb (fun x hx => hlt x (by simp [hx]))) trodAll_mk0))
  simp only [List.append_nil] at hW' hargs
  exact ⟨_, rfl, post_law hW' (trodAll_cons_mk (shut_bool Tryd.underlying4 _) trodAll_mk0) hargs rfl hb⟩
theorem over : Rows.nodeBackRow.holds Tryd.pinned (OpenSpec.ofChange Rows.nodeBackSpec) :=
  OpenClaim.holds_of_cond 6 Tryd.f6 rfl rfl rfl rfl rfl rfl rfl ⟨rfl, rfl, rfl, rfl, rfl⟩ rfl rfl rfl rfl rfl (by kernel_rfl) Tryd.func6 (by kernel_rfl)
    (of_decide_eq_true (by kernel_rfl)) (by unfold Func.isWrapper; first | (rw [if_pos (by decide +kernel)]; kernel_rfl) | (rw [if_neg (by decide +kernel)]; exact ⟨rfl, rfl⟩))
    (fun os started H enc _ F => by rw [OpenClaim.pre_eq_preRow]; exact lifted os started H enc F)

/-- The given statement. -/
theorem proved : Rows.NodeBackCardSaid :=
  Claim7.holds_tied_plain_at .later [] _ _ _ _
    over (fun _ h => by cases h) (by kernel_rfl) (fun _ h => by cases h) nodeBack_row_tie rfl ⟨rfl, rfl⟩ (by kernel_rfl) rfl
    (fun f fn hf hfn => by
      obtain rfl : f = 6 := Option.some.inj ((show Tryd.prog.funcNamed "reliquary/reliquarylaw15.NodeBack" = some 6 by kernel_rfl).symm.trans hf) |>.symm
      obtain rfl : fn = Tryd.f6 := (Option.some.inj (Tryd.func6.symm.trans hfn)).symm
      exact ⟨by kernel_rfl, fun j t ht => by
        rw [Tryd.params6] at ht
        have hm : t ∈ [28, 29] := by simpa using Array.mem_of_getElem? ht
        have hall : ([28, 29].all fun u => !Tryd.prog.wantsStandIn u) = true := by kernel_rfl
        exact (show Tryd.prog.wantsStandIn t = false by simpa using List.all_eq_true.1 hall t hm)⟩)
    (by kernel_rfl)
end Go.Proofs.YtoacdeddkfcllaaDoor.nodeBack

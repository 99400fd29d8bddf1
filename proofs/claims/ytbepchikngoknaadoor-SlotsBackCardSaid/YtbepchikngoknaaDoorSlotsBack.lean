/- SlotsBack: a table that is laid is read as it was, if all its slots may be; a byte more, or less, is none; what is read is laid so; and the law's closed case holds. No condition but that the listed tables hold their constants when the call begins. -/
import Derived.Test.YtbepchikngoknaaDoorRows
import Derived.Test.YtbepchikngoknaaDoorSlAwake
import Derived.Test.YtbepchikngoknaaDoorSlGX
import Derived.Test.YtbepchikngoknaaDoorWrapLaws
import Derived.Test.YtbepchikngoknaaDoorFactX
import Derived.Test.YtbepchikngoknaaDoorMakeG
import Derived.Test.YtbepchikngoknaaDoorDoorWrap
import Derived.Test.YtbepchikngoknaaDoorTie
import Derived.Test.YtbepchikngoknaaDoorCards
import Derived.SevenTiedAt
import Derived.Test.YtbepchikngoknaaDoorMem
import Derived.Test.YtbepchikngoknaaDoorTabArg
import Derived.WalkKit
import Derived.ProofKit
import Derived.OpenShut
import Derived.SizedLaws
import Derived.Carry
import Derived.Deep.DeepHandedRow
import Derived.Deep.DeepWitnessRowRef
namespace Go.Proofs.YtbepchikngoknaaDoor.slotsBack
open Go.ChangeShapes Go.WideShapes Go.ChangeAt Go.RowKit
open SM WM SL
theorem yielded_undef {ops : List Oper} {a : Act} {j : Nat} {d : Tmp} (hd : (ops[j]?).bind (·.dst) = some d) (h : a.tmps.getD d undef = undef) : yielded ops.toArray a.tmps j = none := by
  unfold yielded
  have e : ((ops.toArray[j]?).bind (·.dst)) = some d := by simpa using hd
  rw [e]
  rw [Array.getD_eq_getD_getElem?] at h
  cases q : a.tmps[d]? with
  | none => simp [q]
  | some x => rw [q] at h; simp at h; subst h; simp [q, undef]
theorem unwanted_undef {o : Oper} {ops : List Oper} {a : Act} {j : Nat} {b : Bool} (hg : o.guard = some (j, b)) (h : yielded ops.toArray a.tmps j = none) : Region.wanted o (yielded ops.toArray a.tmps) = false := by
  unfold Region.wanted
  rw [hg]
  show (yielded ops.toArray a.tmps j == some b) = false
  rw [h]; rfl
theorem may_none' : may none_ = true := by rw [may_not rfl]; exact decide_eq_true rfl
/-- May the first k slots be? -/
def mayTo (T : List Slot) (k : Nat) : Bool := decide (∀ j, j < k → may (at_ T j) = true)
theorem mayTo_zero (T : List Slot) : mayTo T 0 = true := decide_eq_true fun j hj => absurd hj (Nat.not_lt_zero j)
theorem mayTo_succ (T : List Slot) (k : Nat) : mayTo T (k + 1) = (mayTo T k && may (at_ T k)) := by
  unfold mayTo
  rw [Bool.eq_iff_iff, Bool.and_eq_true, decide_eq_true_iff, decide_eq_true_iff]
  constructor
  · intro h
    exact ⟨fun j hj => h j (by omega), h k (Nat.lt_succ_self k)⟩
  · rintro ⟨h1, h2⟩ j hj
    rcases Nat.lt_succ_iff_lt_or_eq.1 hj with h | rfl
    · exact h1 j h
    · exact h2
theorem got_len (b : List Nat) (h : b.length ≠ 1024) : gotT b = zero ∧ gerr b = 4 := got_not fun q => h q.1
theorem own : ownKnob Tryd.prog.godebug = none := by kernel_rfl
set_option linter.unusedVariables false in
set_option maxRecDepth 100000 in
set_option maxHeartbeats 4000000 in
theorem walk (w : World) (ht : TabX w ∧ TabP w) (l0 : List SL.Slot) (h0 : SL.Tok l0) (v1 : Value) (l1 : List Nat) (h1 : Rd w v1 l1) :
    Calls Tryd.prog 7 #[.agg (tbc l0).toArray, v1] w fun e w' => e = .returned (.bool true) ∧ Below w.heap.size w w' := by
  obtain ⟨TX, TP⟩ := ht
  obtain ⟨va, vc, rfl, _⟩ := h1.shape
  have hby := h1.byte
  obtain ⟨bl, hbl⟩ : ∃ n, n = l1.length := ⟨_, rfl⟩
  obtain ⟨L, hL⟩ : ∃ L, L = tbc l0 := ⟨_, rfl⟩
  obtain ⟨Z0, hZ0⟩ : ∃ D, D = tbc zero := ⟨_, rfl⟩
  obtain ⟨N0, hN0⟩ : ∃ D, D = slc none_ := ⟨_, rfl⟩
  obtain ⟨PP, hPP⟩ : ∃ P, P = put l0 := ⟨_, rfl⟩
  obtain ⟨G2, hG2⟩ : ∃ G, G = tbc (gotT PP) := ⟨_, rfl⟩
  obtain ⟨E2, hE2⟩ : ∃ E, E = gerr PP := ⟨_, rfl⟩
  obtain ⟨S1, hS1⟩ : ∃ S, S = bstr l1 := ⟨_, rfl⟩
  have hz : ∀ w, (zeroValue 30).run Tryd.prog w = .ok (.agg Z0.toArray) w := by rw [hZ0]; exact zeroTb
  have hz656 : Z0.length = 656 := by rw [hZ0]; exact tbc_len zero_ok
  have hbz : Tryd.prog.built 30 [] = some Z0.toArray := by rw [hZ0]; exact builtTb
  have hbs : Tryd.prog.built 28 [] = some N0.toArray := by rw [hN0]; exact builtSl
  have ZONE := Lib.hid (show Z0.toArray.all (·.oneCell') = true by rw [hZ0]; exact tbc_all _)
  have L656 := Lib.hid (show L.length = 656 by rw [hL]; exact tbc_len h0)
  have hplen : PP.length = 1024 := by rw [hPP, put_len h0.ok, h0.len]
  have hpby : ∀ k, gb PP k < 256 := by rw [hPP]; exact put_byte h0.ok
  have HPLEN := Lib.hid hplen
  have hTG : SL.Tok (gotT PP) := by
    by_cases h : isPut PP
    · rw [(got_is h).1]; exact reads_ok h.1 hpby
    · rw [(got_not h).1]; exact zero_ok
  have G2656 := Lib.hid (show G2.length = 656 by rw [hG2]; exact tbc_len hTG)
  have G2ONE := Lib.hid (show G2.toArray.all (·.oneCell') = true by rw [hG2]; exact tbc_all _)
  have HALL := Lib.hid (fun (h : mayTo l0 8 = true) => (show G2 = L ∧ E2 = 0 by
    have hp : isPut PP := by rw [hPP]; exact (isPut_put h0).2 (of_decide_eq_true h)
    rw [hG2, hE2, (got_is hp).1, (got_is hp).2, hPP, reads_put h0, hL]; exact ⟨rfl, rfl⟩))
  have HNOT := Lib.hid (fun (h : mayTo l0 8 = false) => (show E2 = 4 by
    have hp : ¬ isPut PP := by rw [hPP]; exact fun q => of_decide_eq_false h ((isPut_put h0).1 q)
    rw [hE2, (got_not hp).2]))
  have hll := fun w => run_neq_table 30 Tryd.underlying30 h0 h0 w
  have hnn := fun w => run_neq_table 30 Tryd.underlying30 zero_ok zero_ok w
  simp only [decide_true, Bool.not_true] at hll hnn
  rw [← hL] at hll
  rw [← hZ0] at hnn
  have hnq : ∀ w, (binOp .neq 9 (.string S1) (.string S1)).run Tryd.prog w = .ok (.bool false) w := fun w => by rw [run_neq_str, decide_eq_true rfl]; rfl
  have HV := Lib.hid h1
  have HSTR := Lib.hid (fun (W : World) (v : Value) (hv : Rd W v l1) => hv.str)
  rw [← hS1] at HSTR
  have HPT := Lib.hid (fun W => sput_any l0 h0 W)
  rw [← hL, ← hPP] at HPT
  have HG2 := Lib.hid (fun W v (hv : Rd W v PP) => sget_any PP v W hv)
  rw [← hG2, ← hE2] at HG2
  have HG3 := Lib.hid (fun W v (hv : Rd W v (PP ++ [0])) => sget_any (PP ++ [0]) v W hv)
  rw [(got_len (PP ++ [0]) (by rw [List.length_append, hplen]; decide)).1, (got_len (PP ++ [0]) (by rw [List.length_append, hplen]; decide)).2, ← hZ0] at HG3
  have HG4 := Lib.hid (fun W v (hv : Rd W v (PP.take 1023)) => sget_any (PP.take 1023) v W hv)
  rw [(got_len (PP.take 1023) (by rw [List.length_take, hplen]; decide)).1, (got_len (PP.take 1023) (by rw [List.length_take, hplen]; decide)).2, ← hZ0] at HG4
  have HAW := Lib.hid (fun W (hW : Below w.heap.size w W) => sawake_any W (TX.below hW) (TP.below hW))
  have HT := Lib.hid h0
  have HLE := Lib.hid hL
  have HZE := Lib.hid hZ0
  have HNE := Lib.hid hN0
  have HBY := Lib.hid hby
  have T1 := Lib.hid (Blk.new w 30 L _ rfl)
  have W1 := Lib.hid ((Below.refl w.heap.size w).alloc (Nat.le_refl _) (.cells L.toArray 30))
  have HGR := Lib.hid (fun W v (hv : Rd W v l1) => sget_any l1 v W hv)
  rw [← hbl] at HV ⊢
  rw [← hL]
  clear hL hZ0 hN0 hPP hG2 hE2 hS1 hTG hplen hpby TX TP h0 h1 hby hbl
  by_cases hp : isPut l1
  · have hTR : SL.Tok (reads l1) := reads_ok hp.1 HBY.out
    have HPG := Lib.hid (fun W => sput_any (reads l1) hTR W)
    rw [hp.2.2] at HPG
    rw [(got_is hp).1, (got_is hp).2] at HGR
    obtain ⟨G1, hG1⟩ : ∃ G, G = tbc (reads l1) := ⟨_, rfl⟩
    have G656 := Lib.hid (show G1.length = 656 by rw [hG1]; exact tbc_len hTR)
    have GONE := Lib.hid (show G1.toArray.all (·.oneCell') = true by rw [hG1]; exact tbc_all _)
    rw [← hG1] at HPG HGR
    clear hG1 hTR hp
    go_enter Tryd.func7, Tryd.ntmps7
    go_upto_region 1 with fail
    obtain ⟨w1, hw1⟩ : ∃ x, x = w.alloc (.cells L.toArray 30) := ⟨_, rfl⟩
    rw [← hw1] at W1 T1 ⊢
    have HG1 := Lib.hid (HGR.out w1 _ (HV.out.below W1.out))
    clear hw1
    go_upto_region 2 with (first
      | (go_at_call 16; (with_reducible refine HG1.out.mono ?_); rintro e w2 ⟨rfl, b2⟩; have T2 := Lib.hid (T1.out.below b2 T1.out.lt); have W2 := Lib.hid (W1.out.on b2); clear b2)
      | (refine wpList_store_blk rfl 30 (.tmp 5) (.tmp 19) rfl w2.heap.size 0 G1 rfl rfl 30 Z0 (Blk.new w2 30 Z0 _ rfl) (by rw [G656.out, hz656]; exact Nat.le_refl _) (by rw [G656.out]; exact infoTb) GONE.out ?_; intro w3 b3 g3; rw [splice_all _ _ (by rw [G656.out, hz656])] at b3; have hb3 := alloc_turn (Below.refl _ _) g3; have U3 := Lib.hid b3; have T3 := Lib.hid (T2.out.below hb3 T2.out.lt); have W3 := Lib.hid (W2.out.on hb3); have V3 := Lib.hid (HV.out.below W3.out); clear b3 g3 hb3))
    refine wp_region_g (by kernel_rfl) 23 (by decide) (by kernel_rfl) (by kernel_rfl) (by kernel_rfl) (w3.heap.size) (Nat.le_refl _) [.val (.int .i64 0), .val (.bool true), .val (.bool true), .val (.agg G1.toArray), .own (l1), .val (.string S1), .val (.slice va bl vc), .val (.string S1), .val (.bool false), .val (.bool false), .val (.bool false), .val (.int .i64 0), .val (.bool false), .val (.bool false), .val undef, .val undef, .val undef, .val undef, .val undef, .val undef, .val undef, .val (.bool false), .val (.bool false)] (fun _ => 23) ?_ ?_
    · refine ⟨?_, ?_, ?_, ?_, ?_, ?_, ?_, ?_, ?_, ?_, ?_, ?_, ?_, ?_, ?_, ?_, ?_, ?_, ?_, ?_, ?_, ?_, ?_, trivial⟩
      · intro a w' hF hB hd
        have e6 : a.eval (.tmp 6) = .int .i64 0 := hF 6 (by decide +kernel)
        exact doesG_val rfl (ex_move rfl e6) rfl rfl
      · intro a w' hF hB hd
        have e21 : a.eval (.tmp 21) = .int .i64 0 := hd 0 (by decide +kernel) (.inr (by decide))
        exact doesG_val rfl (ex_binOp rfl e21 rfl (by go_simp) (by go_simp)) rfl rfl
      · intro a w' hF hB hd
        have e22 : a.eval (.tmp 22) = .bool true := hd 1 (by decide +kernel) (.inr (by decide))
        exact doesG_val rfl (ex_move rfl e22) rfl rfl
      · intro a w' hF hB hd
        have e23 : a.eval (.tmp 23) = .bool true := hd 2 (by decide +kernel) (.inr (by decide))
        have e5 : a.eval (.tmp 5) = .pointer (some ⟨w2.heap.size, 0, none⟩) := hF 5 (by decide +kernel)
        exact doesG_wp (wanted_of rfl (yielded_of rfl e23)) rfl fun K' hK' => wp_load_mid 30 (.tmp 5) rfl w2.heap.size 0 e5 G1 _ (U3.out.below hB U3.out.lt).range Tryd.underlying30 rfl (by rw [G656.out]; exact infoTb) (hK' _ _ rfl (Below.refl _ _))
      · intro a w' hF hB hd
        have e23 : a.eval (.tmp 23) = .bool true := hd 2 (by decide +kernel) (.inr (by decide))
        have e24 : a.eval (.tmp 24) = .agg G1.toArray := hd 3 (by decide +kernel) (.inr (by decide))
        exact doesG_made (wanted_of rfl (yielded_of rfl e23)) (ex_call (vs := #[.agg G1.toArray]) rfl (by simp only [List.map_toArray, List.map_cons, List.map_nil, e24]) (by go_simp)) ((HPG.out w').mono fun e w2 hh => by obtain ⟨v, he, ho, hb⟩ := hh; exact ⟨v, he, ho.lower hB.size, hb, fun g hg => ho.from g (own_held' ho.rd hg)⟩)
      · intro a w' hF hB hd
        have e23 : a.eval (.tmp 23) = .bool true := hd 2 (by decide +kernel) (.inr (by decide))
        have e25 : Own w' w3.heap.size (a.eval (.tmp 25)) (l1) := hd 4 (by decide +kernel) (.inr (by decide))
        exact doesG_val (wanted_of rfl (yielded_of rfl e23)) (ex_convert rfl rfl (HSTR.out w' _ e25.rd)) rfl rfl
      · intro a w' hF hB hd
        have e23 : a.eval (.tmp 23) = .bool true := hd 2 (by decide +kernel) (.inr (by decide))
        have e1 : a.eval (.tmp 1) = .slice va bl vc := hF 1 (by decide +kernel)
        exact doesG_val (wanted_of rfl (yielded_of rfl e23)) (ex_move rfl e1) rfl rfl
      · intro a w' hF hB hd
        have e23 : a.eval (.tmp 23) = .bool true := hd 2 (by decide +kernel) (.inr (by decide))
        have e27 : a.eval (.tmp 27) = .slice va bl vc := hd 6 (by decide +kernel) (.inr (by decide))
        exact doesG_val (wanted_of rfl (yielded_of rfl e23)) (ex_convert rfl e27 (HSTR.out w' _ (V3.out.below hB))) rfl rfl
      · intro a w' hF hB hd
        have e23 : a.eval (.tmp 23) = .bool true := hd 2 (by decide +kernel) (.inr (by decide))
        have e26 : a.eval (.tmp 26) = .string S1 := hd 5 (by decide +kernel) (.inr (by decide))
        have e28 : a.eval (.tmp 28) = .string S1 := hd 7 (by decide +kernel) (.inr (by decide))
        exact doesG_val (wanted_of rfl (yielded_of rfl e23)) (ex_binOp rfl e26 e28 (by go_simp) (hnq w')) rfl rfl
      · intro a w' hF hB hd
        have e23 : a.eval (.tmp 23) = .bool true := hd 2 (by decide +kernel) (.inr (by decide))
        have e29 : a.eval (.tmp 29) = .bool false := hd 8 (by decide +kernel) (.inr (by decide))
        exact doesG_val rfl (ex_pick rfl e23 (by simp [e29])) rfl rfl
      · intro a w' hF hB hd
        have e30 : a.eval (.tmp 30) = .bool false := hd 9 (by decide +kernel) (.inr (by decide))
        exact doesG_val rfl (ex_move rfl e30) rfl rfl
      · intro a w' hF hB hd
        have e31 : a.eval (.tmp 31) = .bool false := hd 10 (by decide +kernel) (.inr (by decide))
        have e6 : a.eval (.tmp 6) = .int .i64 0 := hF 6 (by decide +kernel)
        exact doesG_val (wanted_of rfl (yielded_of rfl e31)) (ex_move rfl e6) rfl rfl
      · intro a w' hF hB hd
        have e31 : a.eval (.tmp 31) = .bool false := hd 10 (by decide +kernel) (.inr (by decide))
        have e32 : a.eval (.tmp 32) = .int .i64 0 := hd 11 (by decide +kernel) (.inr (by decide))
        exact doesG_val (wanted_of rfl (yielded_of rfl e31)) (ex_binOp rfl e32 rfl (by go_simp) (by go_simp)) rfl rfl
      · intro a w' hF hB hd
        have e31 : a.eval (.tmp 31) = .bool false := hd 10 (by decide +kernel) (.inr (by decide))
        have e33 : a.eval (.tmp 33) = .bool false := hd 12 (by decide +kernel) (.inr (by decide))
        exact doesG_val (wanted_of rfl (yielded_of rfl e31)) (ex_move rfl e33) rfl rfl
      · intro a w' hF hB hd
        have e34 : a.eval (.tmp 34) = .bool false := hd 13 (by decide +kernel) (.inr (by decide))
        exact doesG_skip (unwanted_of rfl (yielded_of rfl e34) (by decide)) rfl
      · intro a w' hF hB hd
        have e34 : a.eval (.tmp 34) = .bool false := hd 13 (by decide +kernel) (.inr (by decide))
        exact doesG_skip (unwanted_of rfl (yielded_of rfl e34) (by decide)) rfl
      · intro a w' hF hB hd
        have e34 : a.eval (.tmp 34) = .bool false := hd 13 (by decide +kernel) (.inr (by decide))
        exact doesG_skip (unwanted_of rfl (yielded_of rfl e34) (by decide)) rfl
      · intro a w' hF hB hd
        have e37 : a.eval (.tmp 37) = undef := hd 16 (by decide +kernel) (.inr (by decide))
        exact doesG_skip (unwanted_undef rfl (yielded_undef rfl e37)) rfl
      · intro a w' hF hB hd
        have e37 : a.eval (.tmp 37) = undef := hd 16 (by decide +kernel) (.inr (by decide))
        exact doesG_skip (unwanted_undef rfl (yielded_undef rfl e37)) rfl
      · intro a w' hF hB hd
        have e37 : a.eval (.tmp 37) = undef := hd 16 (by decide +kernel) (.inr (by decide))
        exact doesG_skip (unwanted_undef rfl (yielded_undef rfl e37)) rfl
      · intro a w' hF hB hd
        have e34 : a.eval (.tmp 34) = .bool false := hd 13 (by decide +kernel) (.inr (by decide))
        exact doesG_skip (unwanted_of rfl (yielded_of rfl e34) (by decide)) rfl
      · intro a w' hF hB hd
        have e31 : a.eval (.tmp 31) = .bool false := hd 10 (by decide +kernel) (.inr (by decide))
        have e34 : a.eval (.tmp 34) = .bool false := hd 13 (by decide +kernel) (.inr (by decide))
        exact doesG_val (wanted_of rfl (yielded_of rfl e31)) (ex_pick rfl e34 (rfl)) rfl rfl
      · intro a w' hF hB hd
        have e31 : a.eval (.tmp 31) = .bool false := hd 10 (by decide +kernel) (.inr (by decide))
        have e42 : a.eval (.tmp 42) = .bool false := hd 21 (by decide +kernel) (.inr (by decide))
        exact doesG_val rfl (ex_pick rfl e31 (by simp [e42])) rfl rfl
    · intro vs w4 hb hv hap
      have ee : vs 22 = .bool false := hv 22 (by decide) (by decide)
      simp only [List.take_succ_cons, List.take_zero, List.drop_succ_cons, List.drop_zero, putOps, Act.put, List.setIfInBounds_toArray, List.set_cons_zero, List.set_cons_succ, ee]
      have T4 := Lib.hid (T3.out.below hb T3.out.lt)
      have W4 := Lib.hid (W3.out.on hb)
      clear hv hap ee hb T3 W3 U3 V3 HPG
      generalize vs 0 = x0 at *; generalize vs 1 = x1 at *; generalize vs 2 = x2 at *; generalize vs 3 = x3 at *; generalize vs 4 = x4 at *; generalize vs 5 = x5 at *; generalize vs 6 = x6 at *; generalize vs 7 = x7 at *; generalize vs 8 = x8 at *; generalize vs 9 = x9 at *; generalize vs 10 = x10 at *; generalize vs 11 = x11 at *; generalize vs 12 = x12 at *; generalize vs 13 = x13 at *; generalize vs 14 = x14 at *; generalize vs 15 = x15 at *; generalize vs 16 = x16 at *; generalize vs 17 = x17 at *; generalize vs 18 = x18 at *; generalize vs 19 = x19 at *; generalize vs 20 = x20 at *; generalize vs 21 = x21 at *
      go_wp2_with ((fail_if_success (with_reducible show bodyPost _ _ _ _ _ _)); first
              | (refine wpList_load_mid rfl 30 (.tmp 2) rfl w.heap.size 0 rfl L _ T4.out.range Tryd.underlying30 rfl (by rw [L656.out]; exact infoTb) ?_)
              | (go_at_call 9; (with_reducible refine (HPT.out w4).mono ?_); rintro e w5 ⟨pv, rfl, o5, b5⟩; obtain ⟨pa, pc, rfl, hpc⟩ := o5.rd.shape; have P5 := Lib.hid o5.rd; rw [HPLEN.out] at P5 hpc ⊢; have HPC := Lib.hid hpc; have T5 := Lib.hid (T4.out.below b5 T4.out.lt); have W5 := Lib.hid (W4.out.on b5); have HG5 := Lib.hid (HG2.out w5 _ P5.out); clear o5 b5 hpc)
              | (go_at_call 16; (with_reducible refine HG5.out.mono ?_); rintro e w6 ⟨rfl, b6⟩; have T6 := Lib.hid (T5.out.below b6 T5.out.lt); have W6 := Lib.hid (W5.out.on b6); have P6 := Lib.hid (P5.out.below b6); clear b6)
              | (refine wpList_store_blk rfl 30 (.tmp 8) (.tmp 49) rfl w6.heap.size 0 G2 rfl rfl 30 Z0 (Blk.new w6 30 Z0 _ rfl) (by rw [G2656.out, hz656]; exact Nat.le_refl _) (by rw [G2656.out]; exact infoTb) G2ONE.out ?_; intro w7 b7 g7; rw [splice_all _ _ (by rw [G2656.out, hz656])] at b7; have hb7 := alloc_turn (Below.refl _ _) g7; have U7 := Lib.hid b7; have T7 := Lib.hid (T6.out.below hb7 T6.out.lt); have W7 := Lib.hid (W6.out.on hb7); have P7 := Lib.hid (P6.out.below hb7); clear b7 g7 hb7))
      go_loop [10, 11] (fun y i => ∃ k : Nat, k ≤ 8 ∧ i = .int .i64 (k : Int) ∧ y = .bool (mayTo l0 k)) (fun _ i => 8 - (intOf i).toNat)
      case atStart => exact ⟨0, by decide, rfl, by rw [mayTo_zero]⟩
      case round =>
        obtain ⟨k, hk8, rfl, rfl⟩ := hrel
        by_cases hlt : k < 8
        · have HS := Lib.hid (HT.out.at_ hlt)
          have hcs : Blk w7 w.heap.size 30 (tbc l0) := by rw [← HLE.out]; exact T7.out
          have HRG0 := hcs.slot HT.out hlt
          have c0 := hcs.usedAt HT.out hlt
          have c1 : w7.cell? ⟨w.heap.size, k * 82 + 1, none⟩ = some (.int .u16 ((at_ l0 k).turns : Int)) := hcs.slot HT.out hlt 1 _ rfl
          have he0 := fun w => run_eql_slot HS.out none_ok w
          have S820 := slc_len HS.out
          have htn := HS.out.turns
          have HSU := Lib.hid (mayTo_succ l0 k)
          obtain ⟨s, hse⟩ : ∃ s, s = at_ l0 k := ⟨_, rfl⟩
          rw [← hse] at HRG0 c0 c1 he0 S820 htn HSU
          obtain ⟨SC, hSC⟩ : ∃ C, C = slc s := ⟨_, rfl⟩
          rw [← hSC] at HRG0 he0 S820
          rw [← HNE.out] at he0
          obtain ⟨tn, hte⟩ : ∃ n, n = s.turns := ⟨_, rfl⟩
          rw [← hte] at c1 htn
          have HRG := Lib.hid HRG0
          have S82 := Lib.hid S820
          have hklt : (k : Int) < 8 := by omega
          clear hcs HRG0 S820 hse hSC
          cases hy : mayTo l0 k with
          | false =>
            rw [hy] at HSU
            go_wp2_with fail
            exact ⟨⟨k + 1, by omega, by go_num, by rw [HSU.out]; rfl⟩, by simp [intOf]; omega⟩
          | true =>
            rw [hy] at HSU
            by_cases hs0 : s = none_
            · have he : ∀ w, (binOp .eql 28 (.agg SC.toArray) (.agg N0.toArray)).run Tryd.prog w = .ok (.bool true) w := fun w => by rw [he0 w, decide_eq_true hs0]
              have hm : may s = true := by rw [hs0, may_none']
              clear he0 hs0 hte
              go_wp2_with ((fail_if_success (with_reducible show bodyPost _ _ _ _ _ _)); first
                    | (refine wpList_load_wanted rfl 28 (.tmp 58) rfl w.heap.size (k * 82) rfl SC _ HRG.out Tryd.underlying28 rfl (by rw [S82.out]; exact infoSl) ?_)
                    | (refine wpList_wanted rfl (.agg N0.toArray) (ex_build (t := 28) rfl (Eq.trans (b := Tryd.prog.built 28 []) (by kernel_rfl) hbs)) ?_)
                    | (refine wpList_wanted rfl (.bool true) (ex_binOp (x := .tmp 59) (y := .tmp 60) (b := .eql) (t := 28) rfl rfl rfl (run_eqGuard_agg _ _ _ _ _ _ _ eqTypeSl) (he _)) ?_))
              exact ⟨⟨k + 1, by omega, by go_num, by rw [HSU.out, hm]; rfl⟩, by simp [intOf]; omega⟩
            · have he : ∀ w, (binOp .eql 28 (.agg SC.toArray) (.agg N0.toArray)).run Tryd.prog w = .ok (.bool false) w := fun w => by rw [he0 w, decide_eq_false hs0]
              cases hu : s.used with
              | false =>
                rw [hu] at c0
                have hm : may s = false := by rw [may_not hu, decide_eq_false hs0]
                clear he0 hs0 hte
                go_wp2_with ((fail_if_success (with_reducible show bodyPost _ _ _ _ _ _)); first
                    | (refine wpList_load_wanted rfl 28 (.tmp 58) rfl w.heap.size (k * 82) rfl SC _ HRG.out Tryd.underlying28 rfl (by rw [S82.out]; exact infoSl) ?_)
                    | (refine wpList_wanted rfl (.agg N0.toArray) (ex_build (t := 28) rfl (Eq.trans (b := Tryd.prog.built 28 []) (by kernel_rfl) hbs)) ?_)
                    | (refine wpList_wanted rfl (.bool false) (ex_binOp (x := .tmp 59) (y := .tmp 60) (b := .eql) (t := 28) rfl rfl rfl (run_eqGuard_agg _ _ _ _ _ _ _ eqTypeSl) (he _)) ?_))
                exact ⟨⟨k + 1, by omega, by go_num, by rw [HSU.out, hm]; rfl⟩, by simp [intOf]; omega⟩
              | true =>
                rw [hu] at c0
                have hm := may_used hu
                rw [← hte] at hm
                by_cases h1 : 1 ≤ tn
                · have a1 : (1 : Int) ≤ (tn : Int) := by omega
                  by_cases h2 : tn ≤ 4096
                  · have a2 : (tn : Int) ≤ 4096 := by omega
                    rw [decide_eq_true ⟨h1, h2⟩] at hm
                    clear he0 hs0 hte
                    go_wp2_with ((fail_if_success (with_reducible show bodyPost _ _ _ _ _ _)); first
                    | (refine wpList_load_wanted rfl 28 (.tmp 58) rfl w.heap.size (k * 82) rfl SC _ HRG.out Tryd.underlying28 rfl (by rw [S82.out]; exact infoSl) ?_)
                    | (refine wpList_wanted rfl (.agg N0.toArray) (ex_build (t := 28) rfl (Eq.trans (b := Tryd.prog.built 28 []) (by kernel_rfl) hbs)) ?_)
                    | (refine wpList_wanted rfl (.bool false) (ex_binOp (x := .tmp 59) (y := .tmp 60) (b := .eql) (t := 28) rfl rfl rfl (run_eqGuard_agg _ _ _ _ _ _ _ eqTypeSl) (he _)) ?_))
                    exact ⟨⟨k + 1, by omega, by go_num, by rw [HSU.out, hm]; rfl⟩, by simp [intOf]; omega⟩
                  · have a2 : ¬ (tn : Int) ≤ 4096 := by omega
                    rw [decide_eq_false (fun h => h2 h.2)] at hm
                    clear he0 hs0 hte
                    go_wp2_with ((fail_if_success (with_reducible show bodyPost _ _ _ _ _ _)); first
                    | (refine wpList_load_wanted rfl 28 (.tmp 58) rfl w.heap.size (k * 82) rfl SC _ HRG.out Tryd.underlying28 rfl (by rw [S82.out]; exact infoSl) ?_)
                    | (refine wpList_wanted rfl (.agg N0.toArray) (ex_build (t := 28) rfl (Eq.trans (b := Tryd.prog.built 28 []) (by kernel_rfl) hbs)) ?_)
                    | (refine wpList_wanted rfl (.bool false) (ex_binOp (x := .tmp 59) (y := .tmp 60) (b := .eql) (t := 28) rfl rfl rfl (run_eqGuard_agg _ _ _ _ _ _ _ eqTypeSl) (he _)) ?_))
                    exact ⟨⟨k + 1, by omega, by go_num, by rw [HSU.out, hm]; rfl⟩, by simp [intOf]; omega⟩
                · have a1 : ¬ (1 : Int) ≤ (tn : Int) := by omega
                  rw [decide_eq_false (fun h => h1 h.1)] at hm
                  clear he0 hs0 hte
                  go_wp2_with ((fail_if_success (with_reducible show bodyPost _ _ _ _ _ _)); first
                    | (refine wpList_load_wanted rfl 28 (.tmp 58) rfl w.heap.size (k * 82) rfl SC _ HRG.out Tryd.underlying28 rfl (by rw [S82.out]; exact infoSl) ?_)
                    | (refine wpList_wanted rfl (.agg N0.toArray) (ex_build (t := 28) rfl (Eq.trans (b := Tryd.prog.built 28 []) (by kernel_rfl) hbs)) ?_)
                    | (refine wpList_wanted rfl (.bool false) (ex_binOp (x := .tmp 59) (y := .tmp 60) (b := .eql) (t := 28) rfl rfl rfl (run_eqGuard_agg _ _ _ _ _ _ _ eqTypeSl) (he _)) ?_))
                  exact ⟨⟨k + 1, by omega, by go_num, by rw [HSU.out, hm]; rfl⟩, by simp [intOf]; omega⟩
        · obtain rfl : k = 8 := by omega
          have hpc := HPC.out
          have hpz : (1023 : Int) ≤ (pc : Int) := by omega
          have hpq : pc ≠ 0 := by omega
          cases hA : mayTo l0 8 with
          | true =>
            have h := HALL.out hA
            obtain rfl : E2 = 0 := h.2
            have h2 : L = G2 := h.1.symm
            clear h
            subst h2
            go_wp2_with ((fail_if_success (with_reducible show bodyPost _ _ _ _ _ _)); first
                  | (refine wpList_load_wanted rfl 30 (.tmp 8) rfl w6.heap.size 0 rfl L _ U7.out.range Tryd.underlying30 rfl (by rw [L656.out]; exact infoTb) ?_)
                  | (refine wpList_load_wanted rfl 30 (.tmp 2) rfl w.heap.size 0 rfl L _ T7.out.range Tryd.underlying30 rfl (by rw [L656.out]; exact infoTb) ?_)
                  | (refine wpList_wanted rfl (.bool false) (ex_binOp (x := .tmp 95) (y := .tmp 96) (b := .neq) (t := 30) rfl rfl rfl (run_eqGuard_agg _ _ _ _ _ _ _ eqTypeTb) (hll _)) ?_)
                  | (refine wpList_app rfl (.tmp 101) (.tmp 102) rfl w7.heap.size (.slice (some ⟨w7.heap.size, 0, none⟩) 0 0) (.slice pa 1024 pc) [] PP rfl rfl (own_empty w7 rfl (Nat.le_refl _)) (P7.out.alloc _) (by rw [HPLEN.out]; decide) (by simp) ?_; intro v8 w8 o8 g8 k8; rw [List.nil_append] at o8; have B8 := Lib.hid (((Below.refl w7.heap.size w7).alloc (Nat.le_refl _) (.cells #[] 5)).grown g8 (by simp) (fun g hg => by have e : w7.heap.size = g := Option.some.inj hg; omega)); have O8 := Lib.hid o8; have V8 := Lib.hid (rd_byte w8 0 (by decide) _ rfl); have C8 := Lib.hid (B8.out.alloc B8.out.size (.cells #[.int .u8 0] 5)); clear o8 g8 k8)
                  | (refine wpList_app rfl (.tmp 103) (.tmp 104) rfl w7.heap.size _ _ PP [0] rfl rfl (O8.out.alloc _) V8.out (by rw [HPLEN.out]; decide) C8.out.size ?_; intro v9 w9 o9 g9 k9; have B9 := Lib.hid (C8.out.grown g9 C8.out.size (fun g hg => (O8.out.from g hg).1)); have P9 := Lib.hid (P7.out.below B9.out); have W9 := Lib.hid (W7.out.on B9.out); have HG9 := Lib.hid (HG3.out w9 _ o9.rd); clear o9 g9 k9)
                  | (go_at_call 16; (with_reducible refine HG9.out.mono ?_); rintro e w10 ⟨rfl, b10⟩; have W10 := Lib.hid (W9.out.on b10); have P10 := Lib.hid (P9.out.below b10); clear b10)
                  | (refine wpList_store_blk rfl 30 (.tmp 12) (.tmp 107) rfl w10.heap.size 0 Z0 rfl rfl 30 Z0 (Blk.new w10 30 Z0 _ rfl) (Nat.le_of_eq (Nat.zero_add _)) (by rw [hz656]; exact infoTb) ZONE.out ?_; intro w11 b11 g11; have hb11 := alloc_turn (Below.refl _ _) g11; have W11 := Lib.hid (W10.out.on hb11); have P11 := Lib.hid (P10.out.below hb11); have HG11 := Lib.hid (HG4.out w11 _ (by have h := P11.out; rw [← HPLEN.out] at h; have h2 := h.take 1023 (by rw [HPLEN.out]; decide); exact h2)); clear b11 g11 hb11)
                  | (go_at_call 16; (with_reducible refine HG11.out.mono ?_); rintro e w12 ⟨rfl, b12⟩; have W12 := Lib.hid (W11.out.on b12); clear b12)
                  | (refine wpList_store_blk rfl 30 (.tmp 14) (.tmp 113) rfl w12.heap.size 0 Z0 rfl rfl 30 Z0 (Blk.new w12 30 Z0 _ rfl) (Nat.le_of_eq (Nat.zero_add _)) (by rw [hz656]; exact infoTb) ZONE.out ?_; intro w13 b13 g13; have W13 := Lib.hid (W12.out.on (alloc_turn (Below.refl _ _) g13)); have HA13 := Lib.hid (HAW.out w13 W13.out); clear b13 g13)
                  | (go_at_call 15; (with_reducible refine HA13.out.mono ?_); rintro e w14 ⟨rfl, b14⟩; have W14 := Lib.hid (W13.out.on b14); clear b14))
            go_ret
            exact ⟨rfl, W14.out⟩
          | false =>
            have h := HNOT.out hA
            obtain rfl : E2 = 4 := h
            go_wp2_with ((fail_if_success (with_reducible show bodyPost _ _ _ _ _ _)); first
                  | (refine wpList_app rfl (.tmp 101) (.tmp 102) rfl w7.heap.size (.slice (some ⟨w7.heap.size, 0, none⟩) 0 0) (.slice pa 1024 pc) [] PP rfl rfl (own_empty w7 rfl (Nat.le_refl _)) (P7.out.alloc _) (by rw [HPLEN.out]; decide) (by simp) ?_; intro v8 w8 o8 g8 k8; rw [List.nil_append] at o8; have B8 := Lib.hid (((Below.refl w7.heap.size w7).alloc (Nat.le_refl _) (.cells #[] 5)).grown g8 (by simp) (fun g hg => by have e : w7.heap.size = g := Option.some.inj hg; omega)); have O8 := Lib.hid o8; have V8 := Lib.hid (rd_byte w8 0 (by decide) _ rfl); have C8 := Lib.hid (B8.out.alloc B8.out.size (.cells #[.int .u8 0] 5)); clear o8 g8 k8)
                  | (refine wpList_app rfl (.tmp 103) (.tmp 104) rfl w7.heap.size _ _ PP [0] rfl rfl (O8.out.alloc _) V8.out (by rw [HPLEN.out]; decide) C8.out.size ?_; intro v9 w9 o9 g9 k9; have B9 := Lib.hid (C8.out.grown g9 C8.out.size (fun g hg => (O8.out.from g hg).1)); have P9 := Lib.hid (P7.out.below B9.out); have W9 := Lib.hid (W7.out.on B9.out); have HG9 := Lib.hid (HG3.out w9 _ o9.rd); clear o9 g9 k9)
                  | (go_at_call 16; (with_reducible refine HG9.out.mono ?_); rintro e w10 ⟨rfl, b10⟩; have W10 := Lib.hid (W9.out.on b10); have P10 := Lib.hid (P9.out.below b10); clear b10)
                  | (refine wpList_store_blk rfl 30 (.tmp 12) (.tmp 107) rfl w10.heap.size 0 Z0 rfl rfl 30 Z0 (Blk.new w10 30 Z0 _ rfl) (Nat.le_of_eq (Nat.zero_add _)) (by rw [hz656]; exact infoTb) ZONE.out ?_; intro w11 b11 g11; have hb11 := alloc_turn (Below.refl _ _) g11; have W11 := Lib.hid (W10.out.on hb11); have P11 := Lib.hid (P10.out.below hb11); have HG11 := Lib.hid (HG4.out w11 _ (by have h := P11.out; rw [← HPLEN.out] at h; have h2 := h.take 1023 (by rw [HPLEN.out]; decide); exact h2)); clear b11 g11 hb11)
                  | (go_at_call 16; (with_reducible refine HG11.out.mono ?_); rintro e w12 ⟨rfl, b12⟩; have W12 := Lib.hid (W11.out.on b12); clear b12)
                  | (refine wpList_store_blk rfl 30 (.tmp 14) (.tmp 113) rfl w12.heap.size 0 Z0 rfl rfl 30 Z0 (Blk.new w12 30 Z0 _ rfl) (Nat.le_of_eq (Nat.zero_add _)) (by rw [hz656]; exact infoTb) ZONE.out ?_; intro w13 b13 g13; have W13 := Lib.hid (W12.out.on (alloc_turn (Below.refl _ _) g13)); have HA13 := Lib.hid (HAW.out w13 W13.out); clear b13 g13)
                  | (go_at_call 15; (with_reducible refine HA13.out.mono ?_); rintro e w14 ⟨rfl, b14⟩; have W14 := Lib.hid (W13.out.on b14); clear b14))
            go_ret
            exact ⟨rfl, W14.out⟩
  · obtain ⟨G1, hG1⟩ : ∃ G, G = Z0 := ⟨_, rfl⟩
    rw [(got_not hp).1, (got_not hp).2, ← HZE.out, ← hG1] at HGR
    have hnn2 : ∀ w, (binOp .neq 30 (.agg G1.toArray) (.agg Z0.toArray)).run Tryd.prog w = .ok (.bool false) w := by rw [hG1]; exact hnn
    have G656 := Lib.hid (show G1.length = 656 by rw [hG1]; exact hz656)
    have GONE := Lib.hid (show G1.toArray.all (·.oneCell') = true by rw [hG1]; exact ZONE.out)
    have HPG := ZONE
    clear hp hG1
    go_enter Tryd.func7, Tryd.ntmps7
    go_upto_region 1 with fail
    obtain ⟨w1, hw1⟩ : ∃ x, x = w.alloc (.cells L.toArray 30) := ⟨_, rfl⟩
    rw [← hw1] at W1 T1 ⊢
    have HG1 := Lib.hid (HGR.out w1 _ (HV.out.below W1.out))
    clear hw1
    go_upto_region 2 with (first
      | (go_at_call 16; (with_reducible refine HG1.out.mono ?_); rintro e w2 ⟨rfl, b2⟩; have T2 := Lib.hid (T1.out.below b2 T1.out.lt); have W2 := Lib.hid (W1.out.on b2); clear b2)
      | (refine wpList_store_blk rfl 30 (.tmp 5) (.tmp 19) rfl w2.heap.size 0 G1 rfl rfl 30 Z0 (Blk.new w2 30 Z0 _ rfl) (by rw [G656.out, hz656]; exact Nat.le_refl _) (by rw [G656.out]; exact infoTb) GONE.out ?_; intro w3 b3 g3; rw [splice_all _ _ (by rw [G656.out, hz656])] at b3; have hb3 := alloc_turn (Below.refl _ _) g3; have U3 := Lib.hid b3; have T3 := Lib.hid (T2.out.below hb3 T2.out.lt); have W3 := Lib.hid (W2.out.on hb3); have V3 := Lib.hid (HV.out.below W3.out); clear b3 g3 hb3))
    refine wp_region_g (by kernel_rfl) 23 (by decide) (by kernel_rfl) (by kernel_rfl) (by kernel_rfl) (w3.heap.size) (Nat.le_refl _) [.val (.int .i64 4), .val (.bool false), .val (.bool false), .val undef, .val undef, .val undef, .val undef, .val undef, .val undef, .val (.bool false), .val (.bool false), .val (.int .i64 4), .val (.bool true), .val (.bool true), .val (.int .i64 4), .val (.bool false), .val (.bool false), .val (.agg G1.toArray), .val (.agg Z0.toArray), .val (.bool false), .val (.bool false), .val (.bool false), .val (.bool false)] (fun _ => 23) ?_ ?_
    · refine ⟨?_, ?_, ?_, ?_, ?_, ?_, ?_, ?_, ?_, ?_, ?_, ?_, ?_, ?_, ?_, ?_, ?_, ?_, ?_, ?_, ?_, ?_, ?_, trivial⟩
      · intro a w' hF hB hd
        have e6 : a.eval (.tmp 6) = .int .i64 4 := hF 6 (by decide +kernel)
        exact doesG_val rfl (ex_move rfl e6) rfl rfl
      · intro a w' hF hB hd
        have e21 : a.eval (.tmp 21) = .int .i64 4 := hd 0 (by decide +kernel) (.inr (by decide))
        exact doesG_val rfl (ex_binOp rfl e21 rfl (by go_simp) (by go_simp)) rfl rfl
      · intro a w' hF hB hd
        have e22 : a.eval (.tmp 22) = .bool false := hd 1 (by decide +kernel) (.inr (by decide))
        exact doesG_val rfl (ex_move rfl e22) rfl rfl
      · intro a w' hF hB hd
        have e23 : a.eval (.tmp 23) = .bool false := hd 2 (by decide +kernel) (.inr (by decide))
        exact doesG_skip (unwanted_of rfl (yielded_of rfl e23) (by decide)) rfl
      · intro a w' hF hB hd
        have e23 : a.eval (.tmp 23) = .bool false := hd 2 (by decide +kernel) (.inr (by decide))
        exact doesG_skip (unwanted_of rfl (yielded_of rfl e23) (by decide)) rfl
      · intro a w' hF hB hd
        have e23 : a.eval (.tmp 23) = .bool false := hd 2 (by decide +kernel) (.inr (by decide))
        exact doesG_skip (unwanted_of rfl (yielded_of rfl e23) (by decide)) rfl
      · intro a w' hF hB hd
        have e23 : a.eval (.tmp 23) = .bool false := hd 2 (by decide +kernel) (.inr (by decide))
        exact doesG_skip (unwanted_of rfl (yielded_of rfl e23) (by decide)) rfl
      · intro a w' hF hB hd
        have e23 : a.eval (.tmp 23) = .bool false := hd 2 (by decide +kernel) (.inr (by decide))
        exact doesG_skip (unwanted_of rfl (yielded_of rfl e23) (by decide)) rfl
      · intro a w' hF hB hd
        have e23 : a.eval (.tmp 23) = .bool false := hd 2 (by decide +kernel) (.inr (by decide))
        exact doesG_skip (unwanted_of rfl (yielded_of rfl e23) (by decide)) rfl
      · intro a w' hF hB hd
        have e23 : a.eval (.tmp 23) = .bool false := hd 2 (by decide +kernel) (.inr (by decide))
        exact doesG_val rfl (ex_pick rfl e23 (rfl)) rfl rfl
      · intro a w' hF hB hd
        have e30 : a.eval (.tmp 30) = .bool false := hd 9 (by decide +kernel) (.inr (by decide))
        exact doesG_val rfl (ex_move rfl e30) rfl rfl
      · intro a w' hF hB hd
        have e31 : a.eval (.tmp 31) = .bool false := hd 10 (by decide +kernel) (.inr (by decide))
        have e6 : a.eval (.tmp 6) = .int .i64 4 := hF 6 (by decide +kernel)
        exact doesG_val (wanted_of rfl (yielded_of rfl e31)) (ex_move rfl e6) rfl rfl
      · intro a w' hF hB hd
        have e31 : a.eval (.tmp 31) = .bool false := hd 10 (by decide +kernel) (.inr (by decide))
        have e32 : a.eval (.tmp 32) = .int .i64 4 := hd 11 (by decide +kernel) (.inr (by decide))
        exact doesG_val (wanted_of rfl (yielded_of rfl e31)) (ex_binOp rfl e32 rfl (by go_simp) (by go_simp)) rfl rfl
      · intro a w' hF hB hd
        have e31 : a.eval (.tmp 31) = .bool false := hd 10 (by decide +kernel) (.inr (by decide))
        have e33 : a.eval (.tmp 33) = .bool true := hd 12 (by decide +kernel) (.inr (by decide))
        exact doesG_val (wanted_of rfl (yielded_of rfl e31)) (ex_move rfl e33) rfl rfl
      · intro a w' hF hB hd
        have e34 : a.eval (.tmp 34) = .bool true := hd 13 (by decide +kernel) (.inr (by decide))
        have e6 : a.eval (.tmp 6) = .int .i64 4 := hF 6 (by decide +kernel)
        exact doesG_val (wanted_of rfl (yielded_of rfl e34)) (ex_move rfl e6) rfl rfl
      · intro a w' hF hB hd
        have e34 : a.eval (.tmp 34) = .bool true := hd 13 (by decide +kernel) (.inr (by decide))
        have e35 : a.eval (.tmp 35) = .int .i64 4 := hd 14 (by decide +kernel) (.inr (by decide))
        exact doesG_val (wanted_of rfl (yielded_of rfl e34)) (ex_binOp rfl e35 rfl (by go_simp) (by go_simp)) rfl rfl
      · intro a w' hF hB hd
        have e34 : a.eval (.tmp 34) = .bool true := hd 13 (by decide +kernel) (.inr (by decide))
        have e36 : a.eval (.tmp 36) = .bool false := hd 15 (by decide +kernel) (.inr (by decide))
        exact doesG_val (wanted_of rfl (yielded_of rfl e34)) (ex_move rfl e36) rfl rfl
      · intro a w' hF hB hd
        have e37 : a.eval (.tmp 37) = .bool false := hd 16 (by decide +kernel) (.inr (by decide))
        have e5 : a.eval (.tmp 5) = .pointer (some ⟨w2.heap.size, 0, none⟩) := hF 5 (by decide +kernel)
        exact doesG_wp (wanted_of rfl (yielded_of rfl e37)) rfl fun K' hK' => wp_load_mid 30 (.tmp 5) rfl w2.heap.size 0 e5 G1 _ (U3.out.below hB U3.out.lt).range Tryd.underlying30 rfl (by rw [G656.out]; exact infoTb) (hK' _ _ rfl (Below.refl _ _))
      · intro a w' hF hB hd
        have e37 : a.eval (.tmp 37) = .bool false := hd 16 (by decide +kernel) (.inr (by decide))
        exact doesG_val (wanted_of rfl (yielded_of rfl e37)) (ex_build rfl (Eq.trans (b := Tryd.prog.built 30 []) (by kernel_rfl) hbz)) rfl rfl
      · intro a w' hF hB hd
        have e37 : a.eval (.tmp 37) = .bool false := hd 16 (by decide +kernel) (.inr (by decide))
        have e38 : a.eval (.tmp 38) = .agg G1.toArray := hd 17 (by decide +kernel) (.inr (by decide))
        have e39 : a.eval (.tmp 39) = .agg Z0.toArray := hd 18 (by decide +kernel) (.inr (by decide))
        exact doesG_val (wanted_of rfl (yielded_of rfl e37)) (ex_binOp rfl e38 e39 (run_eqGuard_agg (P := Tryd.prog) (w := w') .neq 30 _ _ _ _ eqTypeTb) (hnn2 w')) rfl rfl
      · intro a w' hF hB hd
        have e34 : a.eval (.tmp 34) = .bool true := hd 13 (by decide +kernel) (.inr (by decide))
        have e37 : a.eval (.tmp 37) = .bool false := hd 16 (by decide +kernel) (.inr (by decide))
        have e40 : a.eval (.tmp 40) = .bool false := hd 19 (by decide +kernel) (.inr (by decide))
        exact doesG_val (wanted_of rfl (yielded_of rfl e34)) (ex_pick rfl e37 (by simp [e40])) rfl rfl
      · intro a w' hF hB hd
        have e31 : a.eval (.tmp 31) = .bool false := hd 10 (by decide +kernel) (.inr (by decide))
        have e34 : a.eval (.tmp 34) = .bool true := hd 13 (by decide +kernel) (.inr (by decide))
        have e41 : a.eval (.tmp 41) = .bool false := hd 20 (by decide +kernel) (.inr (by decide))
        exact doesG_val (wanted_of rfl (yielded_of rfl e31)) (ex_pick rfl e34 (by simp [e41])) rfl rfl
      · intro a w' hF hB hd
        have e31 : a.eval (.tmp 31) = .bool false := hd 10 (by decide +kernel) (.inr (by decide))
        have e42 : a.eval (.tmp 42) = .bool false := hd 21 (by decide +kernel) (.inr (by decide))
        exact doesG_val rfl (ex_pick rfl e31 (by simp [e42])) rfl rfl
    · intro vs w4 hb hv hap
      have ee : vs 22 = .bool false := hv 22 (by decide) (by decide)
      simp only [List.take_succ_cons, List.take_zero, List.drop_succ_cons, List.drop_zero, putOps, Act.put, List.setIfInBounds_toArray, List.set_cons_zero, List.set_cons_succ, ee]
      have T4 := Lib.hid (T3.out.below hb T3.out.lt)
      have W4 := Lib.hid (W3.out.on hb)
      clear hv hap ee hb T3 W3 U3 V3 HPG
      generalize vs 0 = x0 at *; generalize vs 1 = x1 at *; generalize vs 2 = x2 at *; generalize vs 3 = x3 at *; generalize vs 4 = x4 at *; generalize vs 5 = x5 at *; generalize vs 6 = x6 at *; generalize vs 7 = x7 at *; generalize vs 8 = x8 at *; generalize vs 9 = x9 at *; generalize vs 10 = x10 at *; generalize vs 11 = x11 at *; generalize vs 12 = x12 at *; generalize vs 13 = x13 at *; generalize vs 14 = x14 at *; generalize vs 15 = x15 at *; generalize vs 16 = x16 at *; generalize vs 17 = x17 at *; generalize vs 18 = x18 at *; generalize vs 19 = x19 at *; generalize vs 20 = x20 at *; generalize vs 21 = x21 at *
      go_wp2_with ((fail_if_success (with_reducible show bodyPost _ _ _ _ _ _)); first
              | (refine wpList_load_mid rfl 30 (.tmp 2) rfl w.heap.size 0 rfl L _ T4.out.range Tryd.underlying30 rfl (by rw [L656.out]; exact infoTb) ?_)
              | (go_at_call 9; (with_reducible refine (HPT.out w4).mono ?_); rintro e w5 ⟨pv, rfl, o5, b5⟩; obtain ⟨pa, pc, rfl, hpc⟩ := o5.rd.shape; have P5 := Lib.hid o5.rd; rw [HPLEN.out] at P5 hpc ⊢; have HPC := Lib.hid hpc; have T5 := Lib.hid (T4.out.below b5 T4.out.lt); have W5 := Lib.hid (W4.out.on b5); have HG5 := Lib.hid (HG2.out w5 _ P5.out); clear o5 b5 hpc)
              | (go_at_call 16; (with_reducible refine HG5.out.mono ?_); rintro e w6 ⟨rfl, b6⟩; have T6 := Lib.hid (T5.out.below b6 T5.out.lt); have W6 := Lib.hid (W5.out.on b6); have P6 := Lib.hid (P5.out.below b6); clear b6)
              | (refine wpList_store_blk rfl 30 (.tmp 8) (.tmp 49) rfl w6.heap.size 0 G2 rfl rfl 30 Z0 (Blk.new w6 30 Z0 _ rfl) (by rw [G2656.out, hz656]; exact Nat.le_refl _) (by rw [G2656.out]; exact infoTb) G2ONE.out ?_; intro w7 b7 g7; rw [splice_all _ _ (by rw [G2656.out, hz656])] at b7; have hb7 := alloc_turn (Below.refl _ _) g7; have U7 := Lib.hid b7; have T7 := Lib.hid (T6.out.below hb7 T6.out.lt); have W7 := Lib.hid (W6.out.on hb7); have P7 := Lib.hid (P6.out.below hb7); clear b7 g7 hb7))
      go_loop [10, 11] (fun y i => ∃ k : Nat, k ≤ 8 ∧ i = .int .i64 (k : Int) ∧ y = .bool (mayTo l0 k)) (fun _ i => 8 - (intOf i).toNat)
      case atStart => exact ⟨0, by decide, rfl, by rw [mayTo_zero]⟩
      case round =>
        obtain ⟨k, hk8, rfl, rfl⟩ := hrel
        by_cases hlt : k < 8
        · have HS := Lib.hid (HT.out.at_ hlt)
          have hcs : Blk w7 w.heap.size 30 (tbc l0) := by rw [← HLE.out]; exact T7.out
          have HRG0 := hcs.slot HT.out hlt
          have c0 := hcs.usedAt HT.out hlt
          have c1 : w7.cell? ⟨w.heap.size, k * 82 + 1, none⟩ = some (.int .u16 ((at_ l0 k).turns : Int)) := hcs.slot HT.out hlt 1 _ rfl
          have he0 := fun w => run_eql_slot HS.out none_ok w
          have S820 := slc_len HS.out
          have htn := HS.out.turns
          have HSU := Lib.hid (mayTo_succ l0 k)
          obtain ⟨s, hse⟩ : ∃ s, s = at_ l0 k := ⟨_, rfl⟩
          rw [← hse] at HRG0 c0 c1 he0 S820 htn HSU
          obtain ⟨SC, hSC⟩ : ∃ C, C = slc s := ⟨_, rfl⟩
          rw [← hSC] at HRG0 he0 S820
          rw [← HNE.out] at he0
          obtain ⟨tn, hte⟩ : ∃ n, n = s.turns := ⟨_, rfl⟩
          rw [← hte] at c1 htn
          have HRG := Lib.hid HRG0
          have S82 := Lib.hid S820
          have hklt : (k : Int) < 8 := by omega
          clear hcs HRG0 S820 hse hSC
          cases hy : mayTo l0 k with
          | false =>
            rw [hy] at HSU
            go_wp2_with fail
            exact ⟨⟨k + 1, by omega, by go_num, by rw [HSU.out]; rfl⟩, by simp [intOf]; omega⟩
          | true =>
            rw [hy] at HSU
            by_cases hs0 : s = none_
            · have he : ∀ w, (binOp .eql 28 (.agg SC.toArray) (.agg N0.toArray)).run Tryd.prog w = .ok (.bool true) w := fun w => by rw [he0 w, decide_eq_true hs0]
              have hm : may s = true := by rw [hs0, may_none']
              clear he0 hs0 hte
              go_wp2_with ((fail_if_success (with_reducible show bodyPost _ _ _ _ _ _)); first
                    | (refine wpList_load_wanted rfl 28 (.tmp 58) rfl w.heap.size (k * 82) rfl SC _ HRG.out Tryd.underlying28 rfl (by rw [S82.out]; exact infoSl) ?_)
                    | (refine wpList_wanted rfl (.agg N0.toArray) (ex_build (t := 28) rfl (Eq.trans (b := Tryd.prog.built 28 []) (by kernel_rfl) hbs)) ?_)
                    | (refine wpList_wanted rfl (.bool true) (ex_binOp (x := .tmp 59) (y := .tmp 60) (b := .eql) (t := 28) rfl rfl rfl (run_eqGuard_agg _ _ _ _ _ _ _ eqTypeSl) (he _)) ?_))
              exact ⟨⟨k + 1, by omega, by go_num, by rw [HSU.out, hm]; rfl⟩, by simp [intOf]; omega⟩
            · have he : ∀ w, (binOp .eql 28 (.agg SC.toArray) (.agg N0.toArray)).run Tryd.prog w = .ok (.bool false) w := fun w => by rw [he0 w, decide_eq_false hs0]
              cases hu : s.used with
              | false =>
                rw [hu] at c0
                have hm : may s = false := by rw [may_not hu, decide_eq_false hs0]
                clear he0 hs0 hte
                go_wp2_with ((fail_if_success (with_reducible show bodyPost _ _ _ _ _ _)); first
                    | (refine wpList_load_wanted rfl 28 (.tmp 58) rfl w.heap.size (k * 82) rfl SC _ HRG.out Tryd.underlying28 rfl (by rw [S82.out]; exact infoSl) ?_)
                    | (refine wpList_wanted rfl (.agg N0.toArray) (ex_build (t := 28) rfl (Eq.trans (b := Tryd.prog.built 28 []) (by kernel_rfl) hbs)) ?_)
                    | (refine wpList_wanted rfl (.bool false) (ex_binOp (x := .tmp 59) (y := .tmp 60) (b := .eql) (t := 28) rfl rfl rfl (run_eqGuard_agg _ _ _ _ _ _ _ eqTypeSl) (he _)) ?_))
                exact ⟨⟨k + 1, by omega, by go_num, by rw [HSU.out, hm]; rfl⟩, by simp [intOf]; omega⟩
              | true =>
                rw [hu] at c0
                have hm := may_used hu
                rw [← hte] at hm
                by_cases h1 : 1 ≤ tn
                · have a1 : (1 : Int) ≤ (tn : Int) := by omega
                  by_cases h2 : tn ≤ 4096
                  · have a2 : (tn : Int) ≤ 4096 := by omega
                    rw [decide_eq_true ⟨h1, h2⟩] at hm
                    clear he0 hs0 hte
                    go_wp2_with ((fail_if_success (with_reducible show bodyPost _ _ _ _ _ _)); first
                    | (refine wpList_load_wanted rfl 28 (.tmp 58) rfl w.heap.size (k * 82) rfl SC _ HRG.out Tryd.underlying28 rfl (by rw [S82.out]; exact infoSl) ?_)
                    | (refine wpList_wanted rfl (.agg N0.toArray) (ex_build (t := 28) rfl (Eq.trans (b := Tryd.prog.built 28 []) (by kernel_rfl) hbs)) ?_)
                    | (refine wpList_wanted rfl (.bool false) (ex_binOp (x := .tmp 59) (y := .tmp 60) (b := .eql) (t := 28) rfl rfl rfl (run_eqGuard_agg _ _ _ _ _ _ _ eqTypeSl) (he _)) ?_))
                    exact ⟨⟨k + 1, by omega, by go_num, by rw [HSU.out, hm]; rfl⟩, by simp [intOf]; omega⟩
                  · have a2 : ¬ (tn : Int) ≤ 4096 := by omega
                    rw [decide_eq_false (fun h => h2 h.2)] at hm
                    clear he0 hs0 hte
                    go_wp2_with ((fail_if_success (with_reducible show bodyPost _ _ _ _ _ _)); first
                    | (refine wpList_load_wanted rfl 28 (.tmp 58) rfl w.heap.size (k * 82) rfl SC _ HRG.out Tryd.underlying28 rfl (by rw [S82.out]; exact infoSl) ?_)
                    | (refine wpList_wanted rfl (.agg N0.toArray) (ex_build (t := 28) rfl (Eq.trans (b := Tryd.prog.built 28 []) (by kernel_rfl) hbs)) ?_)
                    | (refine wpList_wanted rfl (.bool false) (ex_binOp (x := .tmp 59) (y := .tmp 60) (b := .eql) (t := 28) rfl rfl rfl (run_eqGuard_agg _ _ _ _ _ _ _ eqTypeSl) (he _)) ?_))
                    exact ⟨⟨k + 1, by omega, by go_num, by rw [HSU.out, hm]; rfl⟩, by simp [intOf]; omega⟩
                · have a1 : ¬ (1 : Int) ≤ (tn : Int) := by omega
                  rw [decide_eq_false (fun h => h1 h.1)] at hm
                  clear he0 hs0 hte
                  go_wp2_with ((fail_if_success (with_reducible show bodyPost _ _ _ _ _ _)); first
                    | (refine wpList_load_wanted rfl 28 (.tmp 58) rfl w.heap.size (k * 82) rfl SC _ HRG.out Tryd.underlying28 rfl (by rw [S82.out]; exact infoSl) ?_)
                    | (refine wpList_wanted rfl (.agg N0.toArray) (ex_build (t := 28) rfl (Eq.trans (b := Tryd.prog.built 28 []) (by kernel_rfl) hbs)) ?_)
                    | (refine wpList_wanted rfl (.bool false) (ex_binOp (x := .tmp 59) (y := .tmp 60) (b := .eql) (t := 28) rfl rfl rfl (run_eqGuard_agg _ _ _ _ _ _ _ eqTypeSl) (he _)) ?_))
                  exact ⟨⟨k + 1, by omega, by go_num, by rw [HSU.out, hm]; rfl⟩, by simp [intOf]; omega⟩
        · obtain rfl : k = 8 := by omega
          have hpc := HPC.out
          have hpz : (1023 : Int) ≤ (pc : Int) := by omega
          have hpq : pc ≠ 0 := by omega
          cases hA : mayTo l0 8 with
          | true =>
            have h := HALL.out hA
            obtain rfl : E2 = 0 := h.2
            have h2 : L = G2 := h.1.symm
            clear h
            subst h2
            go_wp2_with ((fail_if_success (with_reducible show bodyPost _ _ _ _ _ _)); first
                  | (refine wpList_load_wanted rfl 30 (.tmp 8) rfl w6.heap.size 0 rfl L _ U7.out.range Tryd.underlying30 rfl (by rw [L656.out]; exact infoTb) ?_)
                  | (refine wpList_load_wanted rfl 30 (.tmp 2) rfl w.heap.size 0 rfl L _ T7.out.range Tryd.underlying30 rfl (by rw [L656.out]; exact infoTb) ?_)
                  | (refine wpList_wanted rfl (.bool false) (ex_binOp (x := .tmp 95) (y := .tmp 96) (b := .neq) (t := 30) rfl rfl rfl (run_eqGuard_agg _ _ _ _ _ _ _ eqTypeTb) (hll _)) ?_)
                  | (refine wpList_app rfl (.tmp 101) (.tmp 102) rfl w7.heap.size (.slice (some ⟨w7.heap.size, 0, none⟩) 0 0) (.slice pa 1024 pc) [] PP rfl rfl (own_empty w7 rfl (Nat.le_refl _)) (P7.out.alloc _) (by rw [HPLEN.out]; decide) (by simp) ?_; intro v8 w8 o8 g8 k8; rw [List.nil_append] at o8; have B8 := Lib.hid (((Below.refl w7.heap.size w7).alloc (Nat.le_refl _) (.cells #[] 5)).grown g8 (by simp) (fun g hg => by have e : w7.heap.size = g := Option.some.inj hg; omega)); have O8 := Lib.hid o8; have V8 := Lib.hid (rd_byte w8 0 (by decide) _ rfl); have C8 := Lib.hid (B8.out.alloc B8.out.size (.cells #[.int .u8 0] 5)); clear o8 g8 k8)
                  | (refine wpList_app rfl (.tmp 103) (.tmp 104) rfl w7.heap.size _ _ PP [0] rfl rfl (O8.out.alloc _) V8.out (by rw [HPLEN.out]; decide) C8.out.size ?_; intro v9 w9 o9 g9 k9; have B9 := Lib.hid (C8.out.grown g9 C8.out.size (fun g hg => (O8.out.from g hg).1)); have P9 := Lib.hid (P7.out.below B9.out); have W9 := Lib.hid (W7.out.on B9.out); have HG9 := Lib.hid (HG3.out w9 _ o9.rd); clear o9 g9 k9)
                  | (go_at_call 16; (with_reducible refine HG9.out.mono ?_); rintro e w10 ⟨rfl, b10⟩; have W10 := Lib.hid (W9.out.on b10); have P10 := Lib.hid (P9.out.below b10); clear b10)
                  | (refine wpList_store_blk rfl 30 (.tmp 12) (.tmp 107) rfl w10.heap.size 0 Z0 rfl rfl 30 Z0 (Blk.new w10 30 Z0 _ rfl) (Nat.le_of_eq (Nat.zero_add _)) (by rw [hz656]; exact infoTb) ZONE.out ?_; intro w11 b11 g11; have hb11 := alloc_turn (Below.refl _ _) g11; have W11 := Lib.hid (W10.out.on hb11); have P11 := Lib.hid (P10.out.below hb11); have HG11 := Lib.hid (HG4.out w11 _ (by have h := P11.out; rw [← HPLEN.out] at h; have h2 := h.take 1023 (by rw [HPLEN.out]; decide); exact h2)); clear b11 g11 hb11)
                  | (go_at_call 16; (with_reducible refine HG11.out.mono ?_); rintro e w12 ⟨rfl, b12⟩; have W12 := Lib.hid (W11.out.on b12); clear b12)
                  | (refine wpList_store_blk rfl 30 (.tmp 14) (.tmp 113) rfl w12.heap.size 0 Z0 rfl rfl 30 Z0 (Blk.new w12 30 Z0 _ rfl) (Nat.le_of_eq (Nat.zero_add _)) (by rw [hz656]; exact infoTb) ZONE.out ?_; intro w13 b13 g13; have W13 := Lib.hid (W12.out.on (alloc_turn (Below.refl _ _) g13)); have HA13 := Lib.hid (HAW.out w13 W13.out); clear b13 g13)
                  | (go_at_call 15; (with_reducible refine HA13.out.mono ?_); rintro e w14 ⟨rfl, b14⟩; have W14 := Lib.hid (W13.out.on b14); clear b14))
            go_ret
            exact ⟨rfl, W14.out⟩
          | false =>
            have h := HNOT.out hA
            obtain rfl : E2 = 4 := h
            go_wp2_with ((fail_if_success (with_reducible show bodyPost _ _ _ _ _ _)); first
                  | (refine wpList_app rfl (.tmp 101) (.tmp 102) rfl w7.heap.size (.slice (some ⟨w7.heap.size, 0, none⟩) 0 0) (.slice pa 1024 pc) [] PP rfl rfl (own_empty w7 rfl (Nat.le_refl _)) (P7.out.alloc _) (by rw [HPLEN.out]; decide) (by simp) ?_; intro v8 w8 o8 g8 k8; rw [List.nil_append] at o8; have B8 := Lib.hid (((Below.refl w7.heap.size w7).alloc (Nat.le_refl _) (.cells #[] 5)).grown g8 (by simp) (fun g hg => by have e : w7.heap.size = g := Option.some.inj hg; omega)); have O8 := Lib.hid o8; have V8 := Lib.hid (rd_byte w8 0 (by decide) _ rfl); have C8 := Lib.hid (B8.out.alloc B8.out.size (.cells #[.int .u8 0] 5)); clear o8 g8 k8)
                  | (refine wpList_app rfl (.tmp 103) (.tmp 104) rfl w7.heap.size _ _ PP [0] rfl rfl (O8.out.alloc _) V8.out (by rw [HPLEN.out]; decide) C8.out.size ?_; intro v9 w9 o9 g9 k9; have B9 := Lib.hid (C8.out.grown g9 C8.out.size (fun g hg => (O8.out.from g hg).1)); have P9 := Lib.hid (P7.out.below B9.out); have W9 := Lib.hid (W7.out.on B9.out); have HG9 := Lib.hid (HG3.out w9 _ o9.rd); clear o9 g9 k9)
                  | (go_at_call 16; (with_reducible refine HG9.out.mono ?_); rintro e w10 ⟨rfl, b10⟩; have W10 := Lib.hid (W9.out.on b10); have P10 := Lib.hid (P9.out.below b10); clear b10)
                  | (refine wpList_store_blk rfl 30 (.tmp 12) (.tmp 107) rfl w10.heap.size 0 Z0 rfl rfl 30 Z0 (Blk.new w10 30 Z0 _ rfl) (Nat.le_of_eq (Nat.zero_add _)) (by rw [hz656]; exact infoTb) ZONE.out ?_; intro w11 b11 g11; have hb11 := alloc_turn (Below.refl _ _) g11; have W11 := Lib.hid (W10.out.on hb11); have P11 := Lib.hid (P10.out.below hb11); have HG11 := Lib.hid (HG4.out w11 _ (by have h := P11.out; rw [← HPLEN.out] at h; have h2 := h.take 1023 (by rw [HPLEN.out]; decide); exact h2)); clear b11 g11 hb11)
                  | (go_at_call 16; (with_reducible refine HG11.out.mono ?_); rintro e w12 ⟨rfl, b12⟩; have W12 := Lib.hid (W11.out.on b12); clear b12)
                  | (refine wpList_store_blk rfl 30 (.tmp 14) (.tmp 113) rfl w12.heap.size 0 Z0 rfl rfl 30 Z0 (Blk.new w12 30 Z0 _ rfl) (Nat.le_of_eq (Nat.zero_add _)) (by rw [hz656]; exact infoTb) ZONE.out ?_; intro w13 b13 g13; have W13 := Lib.hid (W12.out.on (alloc_turn (Below.refl _ _) g13)); have HA13 := Lib.hid (HAW.out w13 W13.out); clear b13 g13)
                  | (go_at_call 15; (with_reducible refine HA13.out.mono ?_); rintro e w14 ⟨rfl, b14⟩; have W14 := Lib.hid (W13.out.on b14); clear b14))
            go_ret
            exact ⟨rfl, W14.out⟩
set_option maxRecDepth 100000 in
theorem reads (os : Os) {H : Type} (enc : TypeId × Value → H) : ∃ places, DataW.whole enc Tryd.prog ((World.doorLaid Tryd.prog 400 os).forCall (fun _ _ => 0) ⟨#[], #[.agg (tbc SL.zero).toArray, .slice none 0 0], []⟩).memory Tryd.f7.params.toList Rows.slotsBackSpec.vars false (#[.agg (tbc SL.zero).toArray, .slice none 0 0] : Array Value).toList 8 = some ([litT SL.zero, .nil], [], places) :=
  ⟨[], by kernel_rfl⟩
set_option maxRecDepth 100000 in
theorem wok (os : Os) : Input.okWideB Tryd.prog ((World.doorLaid Tryd.prog 400 os).forCall (fun _ _ => 0) ⟨#[], #[.agg (tbc SL.zero).toArray, .slice none 0 0], []⟩) 7 ⟨#[], #[.agg (tbc SL.zero).toArray, .slice none 0 0], []⟩ = true := by kernel_rfl
set_option linter.unusedVariables false in
set_option maxHeartbeats 1000000 in
set_option maxRecDepth 100000 in
theorem lifted (os : Os) (started : os.Started) (H : Type) (enc : TypeId × Value → H) (F : Stop.Interp) :
    ReturnsInHanded {} Tryd.checked os 7 .any ((OpenSpec.ofChange Rows.slotsBackSpec).preRow enc Tryd.prog Tryd.f7 Rows.slotsBackRow.domain false laidXPs) (((OpenSpec.ofChange Rows.slotsBackSpec).at F).post enc Tryd.prog Tryd.f7 false true false false) := by
  obtain ⟨places, hx⟩ := reads os enc
  refine returnsInHanded_of_row (C := Tryd.checked) (s := OpenSpec.ofChange Rows.slotsBackSpec) own started (by kernel_rfl) Tryd.func7
    (witness_row_atRef (enc := enc) (C := Tryd.checked) false (World.doorLaid Tryd.prog 400 os) #[.agg (tbc SL.zero).toArray, .slice none 0 0] rfl (by kernel_rfl) (by kernel_rfl) (wok os)
      (OpenSpec.preRow_of_cond 8 hx (by kernel_rfl) (fun k hk => by cases hk) (by kernel_rfl) (doorXPs_met os _))) ?_
  intro W base args ds gs before hval0 hW _ hcond hsz0 hL _ _
  have hsz : (DataW.weightsEach Tryd.prog (Tryd.f7.params.toList ++ Rows.slotsBackSpec.plain.varTypes Tryd.prog) (ds ++ gs)).all (· ≤ reachBytes) = true := hsz0
  clear hsz0
  have hval : ∀ (j : Nat) t v, Tryd.f7.params[j]? = some t → args[j]? = some v → Value.okWide Tryd.prog W .any base t v := hval0
  have hW' := hW
  obtain ⟨p, q, hA0, hV, rfl, _, _⟩ := hW
  have hA : DataW.TrodAll enc Tryd.prog W 0 (fun _ => true) true Tryd.f7.params.toList args.toList ds p := hA0
  rw [Tryd.params7] at hA hval hsz
  obtain ⟨v0, vs0, d0, ds0, p0, q0, hargs, rfl, rfl, g0, r0⟩ := trodAll_cons hA
  obtain ⟨v1, vs1, d1, ds1, p1, q1, rfl, rfl, rfl, g1, r1⟩ := trodAll_cons r0
  obtain ⟨rfl, rfl, rfl⟩ := trodAll_nil r1
  obtain rfl : args = #[v0, v1] := by cases args; simp_all
  obtain ⟨rfl, rfl⟩ := trodVars_none hV
  obtain ⟨l0, h0, rfl, rfl, rfl⟩ := open_table (hval 0 30 v0 rfl rfl) g0
  obtain ⟨l1, h1⟩ := open_bytes (hval 1 31 v1 rfl rfl) g1 (fun elems spare e => sized_slice hsz (j := 1) (t := 31) (e := 5) rfl (by rw [← e]; rfl) Tryd.underlying31)
  clear hA0 hval0
  have hlt := hW'.lt
  refine (walk W (tabsXPs_of_laid hL) l0 h0 v1 l1 h1).mono fun e W' ⟨he, hb⟩ => ?_
  subst he
  have hargs : DataW.TrodAll enc Tryd.prog W' 0 (fun b => decide (b < W.heap.size)) true _ _ _ _ := (trodAll_cons_mk (shut_table h0) (trodAll_cons_mk (Below.trod laidOut (by kernel_rfl) (of_decide_eq_true (by kernel_rfl)) g1 hb (fun x hx => hlt x (by simp [hx]))) trodAll_mk0))
  simp only [List.append_nil] at hW' hargs
  exact ⟨_, rfl, post_law hW' (trodAll_cons_mk (shut_bool Tryd.underlying4 _) trodAll_mk0) hargs rfl hb⟩
theorem over : Rows.slotsBackRow.holds Tryd.pinned (OpenSpec.ofChange Rows.slotsBackSpec) :=
  OpenClaim.holds_of_cond 7 Tryd.f7 rfl rfl rfl rfl rfl rfl rfl ⟨rfl, rfl, rfl, rfl, rfl⟩ rfl rfl rfl rfl rfl (by kernel_rfl) Tryd.func7 (by kernel_rfl)
    (of_decide_eq_true (by kernel_rfl)) (by unfold Func.isWrapper; first | (rw [if_pos (by decide +kernel)]; kernel_rfl) | (rw [if_neg (by decide +kernel)]; exact ⟨rfl, rfl⟩))
    (fun os started H enc _ F => by rw [OpenClaim.pre_eq_preRow]; exact lifted os started H enc F)

/-- The given statement. -/
theorem proved : Rows.SlotsBackCardSaid :=
  Claim7.holds_tied_plain_at .later [] _ _ _ _
    over (fun _ h => by cases h) (by kernel_rfl) (fun _ h => by cases h) slotsBack_row_tie rfl ⟨rfl, rfl⟩ (by kernel_rfl) rfl
    (fun f fn hf hfn => by
      obtain rfl : f = 7 := Option.some.inj ((show Tryd.prog.funcNamed "reliquary/reliquarylaw12.SlotsBack" = some 7 by kernel_rfl).symm.trans hf) |>.symm
      obtain rfl : fn = Tryd.f7 := (Option.some.inj (Tryd.func7.symm.trans hfn)).symm
      exact ⟨by kernel_rfl, fun j t ht => by
        rw [Tryd.params7] at ht
        have hm : t ∈ [30, 31] := by simpa using Array.mem_of_getElem? ht
        have hall : ([30, 31].all fun u => !Tryd.prog.wantsStandIn u) = true := by kernel_rfl
        exact (show Tryd.prog.wantsStandIn t = false by simpa using List.all_eq_true.1 hall t hm)⟩)
    (by kernel_rfl)
end Go.Proofs.YtbepchikngoknaaDoor.slotsBack

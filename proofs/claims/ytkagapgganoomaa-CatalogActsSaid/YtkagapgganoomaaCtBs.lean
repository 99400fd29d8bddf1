/- slices.BinarySearchFunc over snapshots by their names: contract. Own work. -/
import Derived.Test.YtkagapgganoomaaCtPlR
import Derived.BigQuiet
namespace Go.Proofs.Ytkagapgganoomaa
open Go.ChangeShapes Go.WideShapes Go.ChangeAt Go.RowKit
open RT CT
set_option maxHeartbeats 400000 in
theorem isNaN_any (s : ByteArray) (w : World) : Calls Try.prog 69 #[.string s] w fun e w' => e = .returned (.bool false) ∧ Below w.heap.size w w' := by
  have HE := Lib.hid (fun W => show (binOp .neq 9 (.string s) (.string s)).run Try.prog W = .ok (.bool false) W by rw [run_str_neq]; simp)
  go_enter Try.func69, Try.ntmps69
  go_wp2_with ((fail_if_success (with_reducible show bodyPost _ _ _ _ _ _)); first
    | ((with_reducible show wpList _ _ _ (Oper.mk _ (.binOp _ _ (.tmp 3) (.tmp 4) _) _ _ _ _ :: _) _ _); refine wpList_binW (.tmp 3) (.tmp 4) .neq 9 9 rfl (.string s) (.string s) _ rfl rfl (eqG_str .neq (.tmp 3) (.tmp 4) s s _) (HE.out _) rfl ?_))
  go_ret
  exact ⟨rfl, Below.refl _ _⟩
def cmpV (a b : ByteArray) : Int := if nlt a b = true then -1 else if nlt b a = true then 1 else 0
set_option maxRecDepth 100000 in
set_option maxHeartbeats 1000000 in
theorem compare_any (a b : ByteArray) (w : World) : Calls Try.prog 51 #[.string a, .string b] w fun e w' => e = .returned (.int .i64 (cmpV a b)) ∧ Below w.heap.size w w' := by
  have HNA := Lib.hid (fun W => isNaN_any a W)
  have HNB := Lib.hid (fun W => isNaN_any b W)
  have HL := Lib.hid (fun W => run_str_lss a b W)
  have HG := Lib.hid (fun W => run_str_gtr a b W)
  have HV : cmpV a b = if nlt a b = true then -1 else if nlt b a = true then 1 else 0 := rfl
  obtain ⟨R, hR⟩ : ∃ R, R = cmpV a b := ⟨_, rfl⟩
  rw [← hR] at HV ⊢
  obtain ⟨p, hp⟩ : ∃ p, p = nlt a b := ⟨_, rfl⟩
  obtain ⟨q, hq⟩ : ∃ p, p = nlt b a := ⟨_, rfl⟩
  rw [← hp, ← hq] at HV
  rw [← hp] at HL
  rw [← hq] at HG
  clear hR hp hq
  have HVH := Lib.hid HV
  clear HV
  cases p with
  | true =>
    have hR : R = -1 := by rw [HVH.out]; rfl
    clear HVH
    subst hR
    go_enter Try.func51, Try.ntmps51
    go_wp2_with ((fail_if_success (with_reducible show bodyPost _ _ _ _ _ _)); first
      | (go_at_call 69; (with_reducible refine (HNA.out w).mono ?_); rintro e w2 ⟨rfl, b2⟩; have W2 := Lib.hid b2; clear b2)
      | (go_at_call 69; (with_reducible refine (HNB.out _).mono ?_); rintro e w3 ⟨rfl, b3⟩; have W3 := Lib.hid (W2.out.on b3); clear b3)
      | ((with_reducible show wpList _ _ _ (Oper.mk _ (.binOp .lss _ (.tmp 14) (.tmp 15) _) _ _ _ _ :: _) _ _); refine wpList_binW (.tmp 14) (.tmp 15) .lss 9 9 rfl (.string a) (.string b) _ rfl rfl (eqG_str .lss (.tmp 14) (.tmp 15) a b _) (HL.out _) rfl ?_))
    go_ret
    exact ⟨rfl, W3.out⟩
  | false =>
    cases q with
    | true =>
      have hR : R = 1 := by rw [HVH.out]; rfl
      clear HVH
      subst hR
      go_enter Try.func51, Try.ntmps51
      go_wp2_with ((fail_if_success (with_reducible show bodyPost _ _ _ _ _ _)); first
        | (go_at_call 69; (with_reducible refine (HNA.out w).mono ?_); rintro e w2 ⟨rfl, b2⟩; have W2 := Lib.hid b2; clear b2)
        | (go_at_call 69; (with_reducible refine (HNB.out _).mono ?_); rintro e w3 ⟨rfl, b3⟩; have W3 := Lib.hid (W2.out.on b3); clear b3)
        | ((with_reducible show wpList _ _ _ (Oper.mk _ (.binOp .lss _ (.tmp 14) (.tmp 15) _) _ _ _ _ :: _) _ _); refine wpList_binW (.tmp 14) (.tmp 15) .lss 9 9 rfl (.string a) (.string b) _ rfl rfl (eqG_str .lss (.tmp 14) (.tmp 15) a b _) (HL.out _) rfl ?_)
        | ((with_reducible show wpList _ _ _ (Oper.mk _ (.binOp .gtr _ (.tmp 17) (.tmp 18) _) _ _ _ _ :: _) _ _); refine wpList_binW (.tmp 17) (.tmp 18) .gtr 9 9 rfl (.string a) (.string b) _ rfl rfl (eqG_str .gtr (.tmp 17) (.tmp 18) a b _) (HG.out _) rfl ?_))
      go_ret
      exact ⟨rfl, W3.out⟩
    | false =>
      have hR : R = 0 := by rw [HVH.out]; rfl
      clear HVH
      subst hR
      go_enter Try.func51, Try.ntmps51
      go_wp2_with ((fail_if_success (with_reducible show bodyPost _ _ _ _ _ _)); first
        | (go_at_call 69; (with_reducible refine (HNA.out w).mono ?_); rintro e w2 ⟨rfl, b2⟩; have W2 := Lib.hid b2; clear b2)
        | (go_at_call 69; (with_reducible refine (HNB.out _).mono ?_); rintro e w3 ⟨rfl, b3⟩; have W3 := Lib.hid (W2.out.on b3); clear b3)
        | ((with_reducible show wpList _ _ _ (Oper.mk _ (.binOp .lss _ (.tmp 14) (.tmp 15) _) _ _ _ _ :: _) _ _); refine wpList_binW (.tmp 14) (.tmp 15) .lss 9 9 rfl (.string a) (.string b) _ rfl rfl (eqG_str .lss (.tmp 14) (.tmp 15) a b _) (HL.out _) rfl ?_)
        | ((with_reducible show wpList _ _ _ (Oper.mk _ (.binOp .gtr _ (.tmp 17) (.tmp 18) _) _ _ _ _ :: _) _ _); refine wpList_binW (.tmp 17) (.tmp 18) .gtr 9 9 rfl (.string a) (.string b) _ rfl rfl (eqG_str .gtr (.tmp 17) (.tmp 18) a b _) (HG.out _) rfl ?_))
      go_ret
      exact ⟨rfl, W3.out⟩
set_option maxHeartbeats 1000000 in
theorem byName_any (s : Sn) (nm : ByteArray) (w : World) : Calls Try.prog 50 #[.agg (snc s).toArray, .string nm] w fun e w' => e = .returned (.int .i64 (cmpV s.name nm)) ∧ Below w.heap.size w w' := by
  obtain ⟨L, hL⟩ : ∃ L, L = snc s := ⟨_, rfl⟩
  rw [← hL]
  have b1 := Blk.new w 60 L _ rfl
  have c1 := sn_name b1 hL
  have W1 := Lib.hid ((Below.refl w.heap.size w).alloc (Nat.le_refl _) (.cells L.toArray 60))
  obtain ⟨sn, hsn⟩ : ∃ x, x = s.name := ⟨_, rfl⟩
  rw [← hsn] at c1 ⊢
  have HC := Lib.hid (fun W => compare_any sn nm W)
  clear hL b1 hsn
  go_enter Try.func50, Try.ntmps50
  go_wp2_with (go_at_call 51; (with_reducible refine (HC.out _).mono ?_); rintro e w2 ⟨rfl, b2⟩; have W2 := Lib.hid (W1.out.on b2); clear b2)
  go_ret
  exact ⟨rfl, W2.out⟩
theorem cmpV_neg {a b : ByteArray} : cmpV a b < 0 ↔ nlt a b = true := by
  unfold cmpV
  by_cases h : nlt a b = true
  · rw [if_pos h]; simp [h]
  · rw [if_neg h]
    by_cases k : nlt b a = true
    · rw [if_pos k]; simp [h]
    · rw [if_neg k]; simp [h]
set_option maxRecDepth 100000 in
set_option maxHeartbeats 2000000 in
theorem bsearch_any (l : List Sn) (hl : ∀ s ∈ l, Pok s.top) (hr : rises l = true) (nm : ByteArray) (v : Value) (w : World) (hv : RdT 34 w v l.length (sncs l)) (hn1 : l.length ≤ 1000000) :
    Calls Try.prog 49 #[v, .string nm, .func (.func 50) #[] #[]] w fun e w' => (∃ (k : Nat) (u : Value), k ≤ l.length ∧ e = .returned (.tuple #[.int .i64 (k : Int), u]) ∧ ∀ (j : Nat) (t : Sn), l[j]? = some t → (nlt t.name nm = true ↔ j < k)) ∧ Below w.heap.size w w' := by
  obtain ⟨ra, rq, rfl, -⟩ := hv.shape
  have HV := Lib.hid hv
  have HL := Lib.hid hl
  have HUP := Lib.hid (fun i j (hij : i < j) (hj : j < l.length) (h : nlt l[j].name nm = true) => show nlt l[i].name nm = true from nlt_trans (rises_lt hr hij hj) h)
  obtain ⟨n, hn⟩ : ∃ n, n = l.length := ⟨_, rfl⟩
  rw [← hn] at hn1 HV
  rw [← hn]
  have HN := Lib.hid hn
  clear hv hl hn hr
  go_enter Try.func49, Try.ntmps49
  go_wp2_with fail
  go_loopw [9, 10] (fun x y wr => ∃ i j : Nat, i ≤ j ∧ j ≤ n ∧ x = .int .i64 (i : Int) ∧ y = .int .i64 (j : Int) ∧ Below w.heap.size w wr ∧ (∀ (k : Nat) (t : Sn), l[k]? = some t → k < i → nlt t.name nm = true) ∧ (∀ (k : Nat) (t : Sn), l[k]? = some t → j ≤ k → nlt t.name nm = false)) (fun x y _ => (intOf y).toNat - (intOf x).toNat)
  case atStart => exact ⟨0, n, Nat.zero_le _, Nat.le_refl _, rfl, rfl, Below.refl _ _, fun k t _ h => absurd h (Nat.not_lt_zero k), fun k t ht h => by have := (List.getElem?_eq_some_iff.1 ht).1; have := HN.out; omega⟩
  case round =>
    obtain ⟨i, j, hij, hjn, rfl, rfl, hw, h1, h2⟩ := hrel
    have H1 := Lib.hid h1
    have H2 := Lib.hid h2
    have W1 := Lib.hid hw
    clear h1 h2 hw
    by_cases hlt : i < j
    · obtain ⟨m, hm⟩ : ∃ m, m = (i + j) / 2 := ⟨_, rfl⟩
      have him : i ≤ m := by omega
      have hmj : m < j := by omega
      have hmp : m < l.length := by have := HN.out; omega
      have HK := Lib.hid (List.getElem?_eq_getElem hmp)
      have hiltj : (i : Int) < (j : Int) := by omega
      have aw1 : IntKind.i64.wrap ((i : Int) + (j : Int)) = ((i + j : Nat) : Int) := by rw [IntKind.wrap_i64]; omega
      have aw2 : IntKind.u64.wrap ((i + j : Nat) : Int) = ((i + j : Nat) : Int) := by rw [IntKind.wrap_u64]; omega
      have aw3 : ((i + j : Nat) : Int) / 2 = (m : Int) := by omega
      obtain ⟨pb, po, rfl, hpc, -, -⟩ := sn_range (HV.out.below W1.out) HL.out HN.out hmp
      have PC := Lib.hid hpc
      have PL := Lib.hid (snc_len (HL.out _ (List.getElem_mem hmp)))
      have HF := Lib.hid (fun W => byName_any l[m] nm W)
      have hmn : (m : Int) < (n : Int) := by omega
      have hm0 : (0 : Int) ≤ (m : Int) := by omega
      have HCN := Lib.hid (cmpV_neg (a := l[m].name) (b := nm))
      have HU := Lib.hid (fun k (hk : k < m) (h : nlt l[m].name nm = true) => HUP.out k m hk hmp h)
      have HD := Lib.hid (fun k (hk : m < k) (hkl : k < l.length) (h : nlt l[m].name nm = false) => show nlt l[k].name nm = false from Bool.eq_false_iff.2 fun e => by have := HUP.out m k hk hkl e; rw [h] at this; cases this)
      obtain ⟨cv, hcv⟩ : ∃ x, x = cmpV l[m].name nm := ⟨_, rfl⟩
      rw [← hcv] at HF HCN
      clear hpc hcv
      have HMM := Lib.hid (show i ≤ m ∧ m < j from ⟨him, hmj⟩)
      clear him hmj aw3
      subst hm
      by_cases hc : cv < 0
      · have HB := Lib.hid (HCN.out.1 hc)
        go_wp2_with ((fail_if_success (with_reducible show bodyPost _ _ _ _ _ _)); first
          | (refine wpList_load_mid rfl 60 (.tmp 27) rfl pb (po + (i + j) / 2 * 34) rfl (snc l[(i + j) / 2]) _ PC.out Try.underlying60 rfl (by rw [PL.out]; exact infoSnC) ?_)
          | (go_at_call 50; (with_reducible refine (HF.out _).mono ?_); rintro e w2 ⟨rfl, b2⟩; have W2 := Lib.hid (W1.out.on b2); clear b2))
        refine ⟨⟨(i + j) / 2 + 1, j, by omega, hjn, by go_num, rfl, W2.out, fun k t ht hk => ?_, H2.out⟩, by simp [intOf]; omega⟩
        obtain ⟨hk2, rfl⟩ := List.getElem?_eq_some_iff.1 ht
        rcases Nat.lt_or_ge k ((i + j) / 2) with q | q
        · exact HU.out k q HB.out
        · obtain rfl : k = (i + j) / 2 := by omega
          exact HB.out
      · have HB := Lib.hid (Bool.eq_false_iff.2 (fun e => hc (HCN.out.2 e)))
        go_wp2_with ((fail_if_success (with_reducible show bodyPost _ _ _ _ _ _)); first
          | (refine wpList_load_mid rfl 60 (.tmp 27) rfl pb (po + (i + j) / 2 * 34) rfl (snc l[(i + j) / 2]) _ PC.out Try.underlying60 rfl (by rw [PL.out]; exact infoSnC) ?_)
          | (go_at_call 50; (with_reducible refine (HF.out _).mono ?_); rintro e w2 ⟨rfl, b2⟩; have W2 := Lib.hid (W1.out.on b2); clear b2))
        refine ⟨⟨i, (i + j) / 2, by omega, by omega, rfl, by go_num, W2.out, H1.out, fun k t ht hk => ?_⟩, by simp [intOf]; omega⟩
        obtain ⟨hk2, rfl⟩ := List.getElem?_eq_some_iff.1 ht
        rcases Nat.lt_or_ge ((i + j) / 2) k with q | q
        · exact HD.out k q hk2 HB.out
        · obtain rfl : k = (i + j) / 2 := by omega
          exact HB.out
    · obtain rfl : i = j := by omega
      have hii : ¬ (i : Int) < (i : Int) := by omega
      have HEND := Lib.hid (fun (k : Nat) (t : Sn) (ht : l[k]? = some t) => show nlt t.name nm = true ↔ k < i from Iff.intro (fun e => by
        rcases Nat.lt_or_ge k i with q | q
        · exact q
        · have := H2.out k t ht q; rw [e] at this; cases this) (fun q => H1.out k t ht q))
      clear H1 H2 HUP
      by_cases hin : i < n
      · have hip : i < l.length := by have := HN.out; omega
        have hinI : (i : Int) < (n : Int) := by omega
        have hi0 : (0 : Int) ≤ (i : Int) := by omega
        obtain ⟨pb, po, rfl, hpc, -, -⟩ := sn_range (HV.out.below W1.out) HL.out HN.out hip
        have PC := Lib.hid hpc
        have PL := Lib.hid (snc_len (HL.out _ (List.getElem_mem hip)))
        have HF := Lib.hid (fun W => byName_any l[i] nm W)
        obtain ⟨cv, hcv⟩ : ∃ x, x = cmpV l[i].name nm := ⟨_, rfl⟩
        rw [← hcv] at HF
        clear hpc hcv
        go_wp2_with ((fail_if_success (with_reducible show bodyPost _ _ _ _ _ _)); first
          | ((with_reducible show wpList _ _ _ (Oper.mk _ (.load _ (.tmp 43)) _ _ _ _ :: _) _ _); refine wpList_loadW 60 (.tmp 43) rfl pb (po + i * 34) rfl (snc l[i]) _ PC.out Try.underlying60 rfl (by rw [PL.out]; exact infoSnC) rfl ?_)
          | (go_at_call 50; (with_reducible refine (HF.out _).mono ?_); rintro e w2 ⟨rfl, b2⟩; have W2 := Lib.hid (W1.out.on b2); clear b2))
        go_ret2
        exact ⟨⟨i, _, by omega, rfl, HEND.out⟩, W2.out⟩
      · have hinI : ¬ (i : Int) < (n : Int) := by omega
        go_wp2_with fail
        go_ret2
        exact ⟨⟨i, by omega, ⟨_, rfl⟩, HEND.out⟩, W1.out⟩
end Go.Proofs.Ytkagapgganoomaa

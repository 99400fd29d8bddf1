/- Where a name stands: contract of the document's answer. Own work. -/
import Derived.Test.YtkagapgganoomaaCtPl
import Derived.BigQuiet
namespace Go.Proofs.Ytkagapgganoomaa
open Go.ChangeShapes Go.WideShapes Go.ChangeAt Go.RowKit
open RT CT
set_option maxRecDepth 100000 in
set_option maxHeartbeats 1000000 in
theorem rplace_any (c : Ct) (hc : CT.Ok c) (nm : ByteArray) (v : Value) (w : World) (hv : RdT 34 w v c.snaps.length (sncs c.snaps)) (hn1 : c.snaps.length ≤ 140737488355328) :
    Calls Try.prog 53 #[.agg (ctc c v).toArray, .string nm] w fun e w' => e = .returned (.int .i64 (plc c.snaps nm)) ∧ Below w.heap.size w w' := by
  obtain ⟨ra, rq, rfl, -⟩ := hv.shape
  obtain ⟨L, hL⟩ : ∃ L, L = ctc c (.slice ra c.snaps.length rq) := ⟨_, rfl⟩
  have b1 := Blk.new w 29 L _ rfl
  have W1 := Lib.hid ((Below.refl w.heap.size w).alloc (Nat.le_refl _) (.cells L.toArray 29))
  have c1 := b1.cell 33 _ (by rw [hL]; exact ctc_snaps hc.top _)
  have HV := Lib.hid (hv.below W1.out)
  have HL := Lib.hid hc.snaps
  rw [← hL]
  obtain ⟨l, hl⟩ : ∃ x, x = c.snaps := ⟨_, rfl⟩
  rw [← hl] at HV HL c1 hn1 ⊢
  obtain ⟨n, hn⟩ : ∃ n, n = l.length := ⟨_, rfl⟩
  rw [← hn] at HV c1 hn1
  have HN := Lib.hid hn
  obtain ⟨R, hR⟩ : ∃ x, x = plc l nm := ⟨_, rfl⟩
  rw [← hR]
  have HR := Lib.hid hR
  clear hL b1 hl hn hR hv hc
  go_enter Try.func53, Try.ntmps53
  go_wp2_with fail
  obtain ⟨w1, hw1⟩ : ∃ x, x = w.alloc (.cells L.toArray 29) := ⟨_, rfl⟩
  rw [← hw1] at W1 HV c1 ⊢
  clear hw1
  go_loopw [5] (fun i wr => ∃ k : Nat, k ≤ n ∧ i = .int .i64 (k : Int) ∧ wr = w1 ∧ ∀ (j : Nat) (t : Sn), j < k → l[j]? = some t → decide (t.name = nm) = false) (fun i _ => n - (intOf i).toNat)
  case atStart => exact ⟨0, Nat.zero_le _, rfl, rfl, fun j _ h _ => absurd h (Nat.not_lt_zero j)⟩
  case round =>
    obtain ⟨k, hk, rfl, rfl, hz⟩ := hrel
    have HZ := Lib.hid hz
    clear hz
    by_cases hlt : k < n
    · have hkp : k < l.length := by rw [← HN.out]; exact hlt
      have HK := Lib.hid (List.getElem?_eq_getElem hkp)
      obtain ⟨pb, po, rfl, -, hnm, -⟩ := sn_range HV.out HL.out HN.out hkp
      have hklt : (k : Int) < (n : Int) := by omega
      have hk0 : (0 : Int) ≤ (k : Int) := by omega
      obtain ⟨s, hs⟩ : ∃ s, s = l[k] := ⟨_, rfl⟩
      rw [← hs] at HK hnm
      have HE := Lib.hid (fun W => run_eql_str s.name nm W)
      obtain ⟨sn, hsn⟩ : ∃ x, x = s.name := ⟨_, rfl⟩
      rw [← hsn] at HE hnm
      have HSN := Lib.hid hsn
      clear hs hsn
      cases hb : decide (sn = nm) with
      | true =>
        rw [hb] at HE
        have h := plc_of HK.out (by rw [← HSN.out]; exact hb) HZ.out
        rw [← HR.out] at h
        clear HR hb
        subst h
        go_wp2_with ((fail_if_success (with_reducible show bodyPost _ _ _ _ _ _)); first
          | ((with_reducible show wpList _ _ _ (Oper.mk _ (.binOp _ _ (.tmp 18) (.tmp 19) _) _ _ _ _ :: _) _ _); refine wpList_binW (.tmp 18) (.tmp 19) .eql 9 9 rfl (.string sn) (.string nm) _ rfl rfl (eqG_str .eql (.tmp 18) (.tmp 19) sn nm _) (HE.out _) rfl ?_))
        go_ret
        exact ⟨rfl, W1.out⟩
      | false =>
        rw [hb] at HE
        have HB := Lib.hid (show decide (s.name = nm) = false by rw [← HSN.out]; exact hb)
        clear hb
        go_wp2_with ((fail_if_success (with_reducible show bodyPost _ _ _ _ _ _)); first
          | ((with_reducible show wpList _ _ _ (Oper.mk _ (.binOp _ _ (.tmp 18) (.tmp 19) _) _ _ _ _ :: _) _ _); refine wpList_binW (.tmp 18) (.tmp 19) .eql 9 9 rfl (.string sn) (.string nm) _ rfl rfl (eqG_str .eql (.tmp 18) (.tmp 19) sn nm _) (HE.out _) rfl ?_))
        refine ⟨⟨k + 1, by omega, by go_num, trivial, fun j t hjk ht => ?_⟩, by simp [intOf]; omega⟩
        by_cases e : j = k
        · subst e
          obtain rfl : s = t := Option.some.inj (HK.out.symm.trans ht)
          exact HB.out
        · exact HZ.out j t (by omega) ht
    · obtain rfl : k = n := by omega
      have hkk : ¬ (k : Int) < (k : Int) := by omega
      have h := plc_no (l := l) (nm := nm) (fun j t ht => HZ.out j t (by rw [HN.out]; exact (List.getElem?_eq_some_iff.1 ht).1) ht)
      rw [← HR.out] at h
      clear HR
      subst h
      go_wp2_with fail
      go_ret
      exact ⟨rfl, W1.out⟩
end Go.Proofs.Ytkagapgganoomaa

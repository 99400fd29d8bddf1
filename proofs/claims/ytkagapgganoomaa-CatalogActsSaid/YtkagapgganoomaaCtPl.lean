/- Where a name stands: contracts of the program and of the document's answer. Written by gen_ctchp.py. Own work. -/
import Derived.Test.YtkagapgganoomaaCtChP
import Derived.BigQuiet
namespace Go.Proofs.Ytkagapgganoomaa
open Go.ChangeShapes Go.WideShapes Go.ChangeAt Go.RowKit
open RT CT
set_option maxHeartbeats 1000000 in
theorem isIt_any (s : Sn) (nb : Nat) (nm : ByteArray) (w : World) (hn : Blk w nb 9 [.string nm]) : Calls Try.prog 68 #[.agg (snc s).toArray, .pointer (some ⟨nb, 0, none⟩)] w fun e w' => e = .returned (.bool (decide (s.name = nm))) ∧ Below w.heap.size w w' := by
  obtain ⟨L, hL⟩ : ∃ L, L = snc s := ⟨_, rfl⟩
  rw [← hL]
  have b1 := Blk.new w 60 L _ rfl
  have c1 := sn_name b1 hL
  have c2 := (hn.alloc (.cells L.toArray 60)).cell 0 _ rfl
  have W1 := Lib.hid ((Below.refl w.heap.size w).alloc (Nat.le_refl _) (.cells L.toArray 60))
  obtain ⟨sn, hsn⟩ : ∃ x, x = s.name := ⟨_, rfl⟩
  rw [← hsn] at c1 ⊢
  have HE := Lib.hid (fun W => run_eql_str sn nm W)
  clear hL b1 hn hsn
  go_enter Try.func68, Try.ntmps68
  go_wp2_with ((fail_if_success (with_reducible show bodyPost _ _ _ _ _ _)); first
    | ((with_reducible show wpList _ _ _ (Oper.mk _ (.binOp _ _ (.tmp 5) (.tmp 6) _) _ _ _ _ :: _) _ _); refine wpList_binW (.tmp 5) (.tmp 6) .eql 9 9 rfl (.string sn) (.string nm) _ rfl rfl (eqG_str .eql (.tmp 5) (.tmp 6) sn nm _) (HE.out _) rfl ?_))
  go_ret
  exact ⟨rfl, W1.out⟩
set_option maxRecDepth 100000 in
set_option maxHeartbeats 1000000 in
theorem placeAt_any (l : List Sn) (hl : ∀ s ∈ l, Pok s.top) (v : Value) (w : World) (hv : RdT 34 w v l.length (sncs l)) (hn1 : l.length ≤ 140737488355328) (nb : Nat) (nm : ByteArray) (hb : Blk w nb 9 [.string nm]) :
    Calls Try.prog 67 #[v, .func (.func 68) #[] #[.pointer (some ⟨nb, 0, none⟩)]] w fun e w' => (∃ (k : Nat) (s : Sn), e = .returned (.int .i64 (k : Int)) ∧ l[k]? = some s ∧ decide (s.name = nm) = true ∧ ∀ (j : Nat) (t : Sn), j < k → l[j]? = some t → decide (t.name = nm) = false) ∧ Below w.heap.size w w' ∨ (e = .returned (.int .i64 (-1)) ∧ ∀ (j : Nat) (t : Sn), l[j]? = some t → decide (t.name = nm) = false) ∧ Below w.heap.size w w' := by
  obtain ⟨ra, rq, rfl, -⟩ := hv.shape
  have HV := Lib.hid hv
  have HL := Lib.hid hl
  obtain ⟨n, hn⟩ : ∃ n, n = l.length := ⟨_, rfl⟩
  rw [← hn] at hn1 HV
  rw [← hn]
  have HN := Lib.hid hn
  have HBK := Lib.hid hb
  clear hb
  clear hv hl hn
  go_enter Try.func67, Try.ntmps67
  go_wp2_with fail
  go_loopw [8] (fun i wr => ∃ k : Nat, k ≤ n ∧ i = .int .i64 (k : Int) ∧ Below w.heap.size w wr ∧ ∀ (j : Nat) (t : Sn), j < k → l[j]? = some t → decide (t.name = nm) = false) (fun i _ => n - (intOf i).toNat)
  case atStart => exact ⟨0, Nat.zero_le _, rfl, Below.refl _ _, fun j _ h _ => absurd h (Nat.not_lt_zero j)⟩
  case round =>
    obtain ⟨k, hk, rfl, hw, hz⟩ := hrel
    have HZ := Lib.hid hz
    have W1 := Lib.hid hw
    clear hz hw
    by_cases hlt : k < n
    · have hkp : k < l.length := by rw [← HN.out]; exact hlt
      have HK := Lib.hid (List.getElem?_eq_getElem hkp)
      obtain ⟨pb, po, rfl, hpc, -, -⟩ := sn_range (HV.out.below W1.out) HL.out HN.out hkp
      have PC := Lib.hid hpc
      have PL := Lib.hid (snc_len (HL.out _ (List.getElem_mem hkp)))
      have HF := Lib.hid (fun W h => isIt_any l[k] nb nm W h)
      obtain ⟨B, hB⟩ : ∃ B, B = decide (l[k].name = nm) := ⟨_, rfl⟩
      rw [← hB] at HF
      have HB := Lib.hid hB
      have hklt : (k : Int) < (n : Int) := by omega
      have hk0 : (0 : Int) ≤ (k : Int) := by omega
      clear hpc hB
      cases B with
      | true =>
        go_wp2_with ((fail_if_success (with_reducible show bodyPost _ _ _ _ _ _)); first
          | (refine wpList_load_mid rfl 60 (.tmp 14) rfl pb (po + k * 34) rfl (snc l[k]) _ PC.out Try.underlying60 rfl (by rw [PL.out]; exact infoSnC) ?_)
          | (go_at_call 68; (with_reducible refine (HF.out _ (HBK.out.below W1.out HBK.out.lt)).mono ?_); rintro e w2 ⟨rfl, b2⟩; have W2 := Lib.hid (W1.out.on b2); clear b2))
        go_ret
        exact .inl ⟨⟨k, _, rfl, HK.out, HB.out.symm, HZ.out⟩, W2.out⟩
      | false =>
        go_wp2_with ((fail_if_success (with_reducible show bodyPost _ _ _ _ _ _)); first
          | (refine wpList_load_mid rfl 60 (.tmp 14) rfl pb (po + k * 34) rfl (snc l[k]) _ PC.out Try.underlying60 rfl (by rw [PL.out]; exact infoSnC) ?_)
          | (go_at_call 68; (with_reducible refine (HF.out _ (HBK.out.below W1.out HBK.out.lt)).mono ?_); rintro e w2 ⟨rfl, b2⟩; have W2 := Lib.hid (W1.out.on b2); clear b2))
        refine ⟨⟨k + 1, by omega, by go_num, W2.out, fun j t hjk ht => ?_⟩, by simp [intOf]; omega⟩
        by_cases e : j = k
        · subst e
          obtain rfl : l[j] = t := Option.some.inj (HK.out.symm.trans ht)
          exact HB.out.symm
        · exact HZ.out j t (by omega) ht
    · obtain rfl : k = n := by omega
      have hkk : ¬ (k : Int) < (k : Int) := by omega
      go_wp2_with fail
      go_ret
      exact .inr ⟨⟨rfl, fun j t ht => by simpa using HZ.out j t (by rw [HN.out]; exact (List.getElem?_eq_some_iff.1 ht).1) ht⟩, W1.out⟩
theorem plc_of {l : List Sn} {nm : ByteArray} {k : Nat} {s : Sn} (hs : l[k]? = some s) (h : decide (s.name = nm) = true) (hb : ∀ (j : Nat) (t : Sn), j < k → l[j]? = some t → decide (t.name = nm) = false) : plc l nm = (k : Int) := by
  obtain ⟨hk, rfl⟩ := List.getElem?_eq_some_iff.1 hs
  exact plc_at hk (by simpa using h) fun j hj hjk => by simpa using hb j _ hjk (List.getElem?_eq_getElem hj)
theorem plc_no {l : List Sn} {nm : ByteArray} (hb : ∀ (j : Nat) (t : Sn), l[j]? = some t → decide (t.name = nm) = false) : plc l nm = -1 := plc_none fun j hj => by simpa using hb j _ (List.getElem?_eq_getElem hj)
set_option maxRecDepth 100000 in
set_option maxHeartbeats 1000000 in
theorem pplace_any (c : Ct) (hc : CT.Ok c) (nm : ByteArray) (v : Value) (w : World) (hv : RdT 34 w v c.snaps.length (sncs c.snaps)) (hn1 : c.snaps.length ≤ 140737488355328) :
    Calls Try.prog 48 #[.agg (ctc c v).toArray, .string nm] w fun e w' => e = .returned (.int .i64 (plc c.snaps nm)) ∧ Below w.heap.size w w' := by
  obtain ⟨ra, rq, rfl, -⟩ := hv.shape
  obtain ⟨L, hL⟩ : ∃ L, L = ctc c (.slice ra c.snaps.length rq) := ⟨_, rfl⟩
  have b1 := (Blk.new w 29 L _ rfl).alloc (.cells #[.string nm] 9)
  have W1 := Lib.hid (((Below.refl w.heap.size w).alloc (Nat.le_refl _) (.cells L.toArray 29)).alloc (by simp) (.cells #[.string nm] 9))
  have c1 := b1.cell 33 _ (by rw [hL]; exact ctc_snaps hc.top _)
  have n1 := Blk.new (w.alloc (.cells L.toArray 29)) 9 [.string nm] (w.heap.size + 1) (by simp)
  have HP := Lib.hid (placeAt_any c.snaps hc.snaps _ _ (hv.below W1.out) hn1 (w.heap.size + 1) nm n1)
  rw [← hL]
  obtain ⟨l, hl⟩ : ∃ x, x = c.snaps := ⟨_, rfl⟩
  rw [← hl] at HP ⊢
  obtain ⟨n, hn⟩ : ∃ n, n = c.snaps.length := ⟨_, rfl⟩
  rw [← hl] at hn
  rw [show c.snaps.length = n by rw [hn, hl]] at c1
  rw [← hn] at HP
  obtain ⟨R, hR⟩ : ∃ x, x = plc l nm := ⟨_, rfl⟩
  rw [← hR]
  have HR := Lib.hid hR
  clear hL b1 n1 hl hn hR hv hc hn1
  go_enter Try.func48, Try.ntmps48
  go_wp2_with (go_at_call 67; (with_reducible refine HP.out.mono ?_); rintro e w2 hb; rcases hb with ⟨⟨k, s, rfl, hk, hs, hb⟩, b2⟩ | ⟨⟨rfl, hb⟩, b2⟩)
  · have h := plc_of hk hs hb
    rw [← HR.out] at h
    have W2 := Lib.hid (W1.out.on b2)
    clear HR hb hs hk b2
    subst h
    go_ret
    exact ⟨rfl, W2.out⟩
  · have h := plc_no hb
    rw [← HR.out] at h
    have W2 := Lib.hid (W1.out.on b2)
    clear HR hb b2
    subst h
    go_ret
    exact ⟨rfl, W2.out⟩
end Go.Proofs.Ytkagapgganoomaa

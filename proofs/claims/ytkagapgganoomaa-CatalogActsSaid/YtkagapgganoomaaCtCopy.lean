/- A catalog as new memory, few snapshots (the document's answer): contracts. Own work. -/
import Derived.Test.YtkagapgganoomaaCtNm
import Derived.Deep.DeepCutAuto
namespace Go.Proofs.Ytkagapgganoomaa
open Go.ChangeShapes Go.WideShapes Go.ChangeAt Go.RowKit
open RT CT
set_option maxRecDepth 100000 in
set_option maxHeartbeats 2000000 in
theorem rccopy_any (r : Ct) (hr : CT.Ok r) (v : Value) (w : World) (hv : RdT 34 w v r.snaps.length (sncs r.snaps)) (hf : r.snaps.length ≤ 2513169434916) : Calls Try.prog 12 #[.agg (ctc r v).toArray] w fun e w' => ∃ u, e = .returned (.agg (ctc r u).toArray) ∧ w'.ownsRow w.heap.size 60 34 u r.snaps.length (sncs r.snaps) ∧ Below w.heap.size w w' := by
  obtain ⟨pa, pcap, rfl, _⟩ := hv.shape
  obtain ⟨n, hn⟩ : ∃ n, n = r.snaps.length := ⟨_, rfl⟩
  obtain ⟨L, hL⟩ : ∃ L, L  = ctc r (.slice pa r.snaps.length pcap) := ⟨_, rfl⟩
  obtain ⟨Z0, hZ0⟩ : ∃ L, L = ctc CT.zero (.slice none 0 0) := ⟨_, rfl⟩
  have hz : ∀ w, (zeroValue 29).run Try.prog w = .ok (.agg Z0.toArray) w := by rw [hZ0]; exact zeroCt
  have hz34 : Z0.length = 34 := by rw [hZ0]; exact ctc_len CT.zp_ok _
  have L34 := Lib.hid (show L.length = 34 by rw [hL]; exact ctc_len hr.top _)
  have HSET := Lib.hid (fun a c => (show L.set 33 (.slice a n c)  = ctc r (.slice a n c) by rw [hL]; exact ctc_set hr.top _ _))
  have HR34 := Lib.hid (fun u => (show (ctc r u).length = 34 from ctc_len hr.top u))
  have W2 := Lib.hid (((Below.refl w.heap.size w).alloc (Nat.le_refl _) (.cells L.toArray 29)).alloc (by simp) (.cells Z0.toArray 29))
  have X2 := Lib.hid ((Blk.new w 29 L _ rfl).alloc (.cells Z0.toArray 29))
  have Y2 := Lib.hid (Blk.new (w.alloc (.cells L.toArray 29)) 29 Z0 (w.heap.size + 1) (by simp))
  have HC := Lib.hid (show L[33]? = some (.slice pa r.snaps.length pcap) by rw [hL]; exact ctc_snaps hr.top _)
  have HV := Lib.hid hv
  have H1 := Lib.hid (sncs_one' r.snaps)
  rw [← hL]
  obtain ⟨CS, hCS⟩ : ∃ c, c = sncs r.snaps := ⟨_, rfl⟩
  rw [← hn, ← hCS] at HV ⊢
  rw [← hn] at HC hf
  rw [← hCS] at H1
  clear hn hL hZ0 hv hr hCS
  go_enter Try.func12, Try.ntmps12
  go_upto_region 1 with fail
  obtain ⟨w2, hw2⟩ : ∃ x, x = (w.alloc (.cells L.toArray 29)).alloc (.cells Z0.toArray 29) := ⟨_, rfl⟩
  rw [← hw2] at W2 X2 Y2 ⊢
  clear hw2
  have E2 := Lib.hid (ownT_empty w2 60 34 (b := w2.heap.size) rfl (B := w2.heap.size) (Nat.le_refl _))
  have bE := (Below.refl w2.heap.size w2).alloc (Nat.le_refl _) (.cells #[] 60)
  have WE := Lib.hid bE
  have c33 := (X2.out.below bE X2.out.lt).cell 33 _ HC.out
  have VE := Lib.hid (HV.out.below (W2.out.on bE))
  have SZ := Lib.hid (show w.heap.size + 2 ≤ w2.heap.size by have := Y2.out.lt; omega)
  clear bE
  go_upto_region 2 with (refine wpList_appTw rfl (.tmp 3) (.tmp 5) 27 60 34 56 zsn rfl Try.underlying27 infoSn rfl (by decide) w2.heap.size (.slice (some ⟨w2.heap.size, 0, none⟩) 0 0) (.slice pa n pcap) 0 n [] CS rfl rfl E2.out VE.out H1.out (by omega) (by omega) WE.out.size ?_; intro v3 w3 o3 g3 k3; rw [List.nil_append, Nat.zero_add] at o3; obtain ⟨a3, q3, hsh, _⟩ := (owned_rd o3).shape; subst hsh; have b3 := WE.out.grown g3 WE.out.size (fun g hg => Nat.le_of_eq (Option.some.inj hg)); have O3 := Lib.hid o3; have W3 := Lib.hid (W2.out.on b3); have X3 := Lib.hid (X2.out.below b3 X2.out.lt); have Y3 := Lib.hid (Y2.out.below b3 Y2.out.lt); have d33 := X3.out.cell 33 _ HC.out; have f33 := X3.out.free 33; clear o3 g3 k3 b3 c33)
  have X4 := Lib.hid (show Blk (w3.setCell ⟨w.heap.size, 33, none⟩ (.slice a3 n q3)) w.heap.size 29 (ctc r (.slice a3 n q3)) by
    have h := X3.out.set 33 (.slice a3 n q3)
    rw [HSET.out] at h; exact h)
  have g4 := grownBy_cell w3 w.heap.size 33 (.slice a3 n q3)
  have Y4 := Lib.hid (Y3.out.grown g4 (by simp))
  have W4 := Lib.hid (W3.out.setCell (show w.heap.size ≤ w.heap.size from Nat.le_refl _) (.slice a3 n q3) (p := ⟨w.heap.size, 33, none⟩))
  have O4 := Lib.hid (show (w3.setCell ⟨w.heap.size, 33, none⟩ (.slice a3 n q3)).ownsRow w2.heap.size 60 34 (.slice a3 n q3) n CS from World.ownsRow.kept O3.out g4 (by
    cases e : (Value.slice a3 n q3).ownBlock with
    | none => exact .inl rfl
    | some g => exact .inr (fun q => by have := (World.ownsRow.lt O3.out g e).1; have := Option.some.inj q; have := SZ.out; omega)))
  obtain ⟨w4, hw4⟩ : ∃ x, x = w3.setCell ⟨w.heap.size, 33, none⟩ (.slice a3 n q3) := ⟨_, rfl⟩
  rw [← hw4] at X4 Y4 W4 O4 ⊢
  obtain ⟨R, hR⟩ : ∃ R, R  = ctc r (.slice a3 n q3) := ⟨_, rfl⟩
  have R34 := Lib.hid (show R.length = 34 by rw [hR]; exact HR34.out _)
  have HRR := Lib.hid hR
  have RONE := Lib.hid (show R.toArray.all (·.oneCell') = true by rw [hR]; exact ctc_all rfl)
  rw [← hR] at X4
  clear hw4 hR g4 d33 f33
  go_wp2_with ((fail_if_success (with_reducible show bodyPost _ _ _ _ _ _)); first
    | (refine wpList_load_mid rfl 29 (.tmp 1) rfl w.heap.size 0 rfl R _ X4.out.range Try.underlying29 rfl (by rw [R34.out]; exact infoCtC) ?_)
    | (refine wpList_store_blk rfl 29 (.tmp 2) (.tmp 8) rfl (w.heap.size + 1) 0 R rfl rfl 29 Z0 Y4.out (by rw [R34.out, hz34]; exact Nat.le_refl _) (by rw [R34.out]; exact infoCtC) RONE.out ?_; intro w5 b5 g5; rw [splice_all _ _ (by rw [R34.out, hz34])] at b5; have Y5 := Lib.hid b5; have W5 := Lib.hid (W4.out.grown g5 W4.out.size (fun g hg => by have := Option.some.inj hg; omega)); have O5 := Lib.hid (World.ownsRow.kept O4.out g5 (by
        cases e : (Value.slice a3 n q3).ownBlock with
        | none => exact .inl rfl
        | some g => exact .inr (fun q => by have := (World.ownsRow.lt O4.out g e).1; have := Option.some.inj q; have := SZ.out; omega))); clear b5 g5))
  refine bodyPost_ret (results_mid rfl _ _ (w.heap.size + 1) R _ rfl Y5.out.range Try.underlying29 rfl (by rw [R34.out]; exact infoCtC)) rfl ⟨.slice a3 n q3, by rw [HRR.out], ownT_lower O5.out (by have := SZ.out; omega), W5.out⟩
set_option maxHeartbeats 1000000 in
theorem rcfew_any (c : Ct) (hc : Pok c.top) (a : Option Addr) (q : Nat) (w : World) : Calls Try.prog 10 #[.agg (ctc c (.slice a c.snaps.length q)).toArray] w fun e w' => e = .returned (.bool (decide (c.snaps.length ≤ 300))) ∧ Below w.heap.size w w' := by
  obtain ⟨n, hn⟩ : ∃ n, n = c.snaps.length := ⟨_, rfl⟩
  obtain ⟨L, hL⟩ : ∃ L, L = ctc c (.slice a n q) := ⟨_, rfl⟩
  rw [← hn, ← hL]
  have b1 := Blk.new w 29 L _ rfl
  have c1 := b1.cell 33 _ (by rw [hL]; exact ctc_snaps hc _)
  have W1 := Lib.hid ((Below.refl w.heap.size w).alloc (Nat.le_refl _) (.cells L.toArray 29))
  clear hL hn hc b1
  by_cases h : n ≤ 300
  · rw [decide_eq_true h]
    have h' : (n : Int) ≤ 300 := by omega
    go_enter Try.func10, Try.ntmps10
    go_wp2_with fail
    go_ret
    exact ⟨rfl, W1.out⟩
  · rw [decide_eq_false h]
    have h' : ¬ (n : Int) ≤ 300 := by omega
    clear h
    go_enter Try.func10, Try.ntmps10
    go_wp2_with fail
    go_ret
    exact ⟨rfl, W1.out⟩
end Go.Proofs.Ytkagapgganoomaa
